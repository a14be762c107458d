/- The corners of a hull, one after the other: edges, turns, order, number; the hull of the hull. No conditions. | What is said of a hull as a list of corners. No conditions. -/
import Derived.Test.YtpjbihfkedbenaaGreatHB
namespace Go.Proofs.YtpjbihfkedbenaaGreat
abbrev o7 : P7 := ⟨0, 0⟩
structure Dn7 (S : P7 -> Prop) (k : Nat) (D : Nat -> P7) : Prop where
 pos : 1 <= k
 mem : ∀ i, i <= k -> S (D i)
 inc : ∀ i, i < k -> lt7 (D i) (D (i + 1))
 cv : ∀ i, i + 1 < k -> 0 < turn7 (D i) (D (i + 1)) (D (i + 2))
 lf : ∀ i, i < k -> ∀ p, S p -> 0 <= turn7 (D i) (D (i + 1)) p
 least : ∀ p, S p -> p = D 0 ∨ lt7 (D 0) p
 most : ∀ p, S p -> p = D k ∨ lt7 p (D k)
theorem ds7_at : ∀ {s : List P7}, Ds7 s -> ∀ i (h : i + 1 < s.length), lt7 s[i + 1] s[i]
 | t :: u :: r, h, 0, _ => h.1
 | t :: u :: r, h, i + 1, hi => ds7_at (s := u :: r) h.2 i (by simpa using hi)
 | [t], _, i, hi => by simp at hi
 | [], _, i, hi => by simp at hi
theorem cv7_at : ∀ {s : List P7}, Cv7 s -> ∀ i (h : i + 2 < s.length), 0 < turn7 s[i + 2] s[i + 1] s[i]
 | t :: u :: v :: r, h, 0, _ => h.1
 | t :: u :: v :: r, h, i + 1, hi => cv7_at (s := u :: v :: r) h.2 i (by simpa using hi)
 | [t, u], _, i, hi => by simp only [List.length_cons, List.length_nil] at hi; omega
 | [t], _, i, hi => by simp at hi
 | [], _, i, hi => by simp at hi
theorem lf7_at {P : P7 -> Prop} : ∀ {s : List P7}, Lf7 P s -> ∀ i (h : i + 1 < s.length) p, P p -> 0 <= turn7 s[i + 1] s[i] p
 | t :: u :: r, h, 0, _, p, hp => h.1 p hp
 | t :: u :: r, h, i + 1, hi, p, hp => lf7_at (s := u :: r) h.2 i (by simpa using hi) p hp
 | [t], _, i, hi, _, _ => by simp at hi
 | [], _, i, hi, _, _ => by simp at hi
theorem bt7_at : ∀ {s : List P7} {b : P7}, Bt7 b s -> ∃ h : s.length - 1 < s.length, s[s.length - 1] = b
 | [t], b, h => ⟨by simp, h⟩
 | t :: u :: r, b, h => by
   obtain ⟨h1, h2⟩ := bt7_at (s := u :: r) h
   exact ⟨by simp, by simpa using h2⟩
def seq7 (s : List P7) (i : Nat) : P7 := s.getD (s.length - 1 - i) o7
theorem seq7_eq {s : List P7} {i : Nat} (h : i < s.length) : seq7 s i = s[s.length - 1 - i]'(by omega) := by
 unfold seq7; rw [List.getD_eq_getElem?_getD, List.getElem?_eq_getElem (by omega), Option.getD_some]
theorem dn_of_good {P : P7 -> Prop} {b z : P7} {s : List P7} (h : Good7 P b z s) (h2 : 2 <= s.length) : Dn7 P (s.length - 1) (seq7 s) /\ seq7 s 0 = b /\ seq7 s (s.length - 1) = z := by
 have hb : seq7 s 0 = b := by
   obtain ⟨h1, h3⟩ := bt7_at h.bot
   rw [seq7_eq (by omega)]; simpa using h3
 have hz : seq7 s (s.length - 1) = z := by
   obtain ⟨r, e⟩ := h.top
   rw [seq7_eq (by omega)]
   simp only [Nat.sub_self]
   subst e; rfl
 refine ⟨⟨by omega, fun i hi => ?_, fun i hi => ?_, fun i hi => ?_, fun i hi p hp => ?_, fun p hp => ?_, fun p hp => ?_⟩, hb, hz⟩
 · rw [seq7_eq (by omega)]; exact h.mem _ (List.getElem_mem _)
 · rw [seq7_eq (by omega), seq7_eq (by omega)]
   have := ds7_at h.ds (s.length - 1 - (i + 1)) (by omega)
   simpa only [show s.length - 1 - (i + 1) + 1 = s.length - 1 - i by omega] using this
 · rw [seq7_eq (by omega), seq7_eq (by omega), seq7_eq (by omega)]
   have := cv7_at h.cv (s.length - 1 - (i + 2)) (by omega)
   simpa only [show s.length - 1 - (i + 2) + 2 = s.length - 1 - i by omega, show s.length - 1 - (i + 2) + 1 = s.length - 1 - (i + 1) by omega] using this
 · rw [seq7_eq (by omega), seq7_eq (by omega)]
   have := lf7_at h.lf (s.length - 1 - (i + 1)) (by omega) p hp
   simpa only [show s.length - 1 - (i + 1) + 1 = s.length - 1 - i by omega] using this
 · rw [hb]; exact h.least p hp
 · rw [hz]; exact h.most p hp
theorem Dn7.lt {S : P7 -> Prop} {k : Nat} {D : Nat -> P7} (h : Dn7 S k D) : ∀ {i j : Nat}, i < j -> j <= k -> lt7 (D i) (D j) := by
 intro i j
 induction j with
 | zero => intro hij; omega
 | succ j ih =>
   intro hij hj
   rcases Nat.lt_or_ge i j with h1 | h1
   · exact (ih h1 (by omega)).trans (h.inc j (by omega))
   · obtain rfl : i = j := by omega
     exact h.inc i (by omega)
structure Hu7 (S : P7 -> Prop) (k m : Nat) (D U : Nat -> P7) : Prop where
 dn : Dn7 S k D
 up : Dn7 (fun p => S (ng7 p)) m (fun i => ng7 (U i))
 e0 : U 0 = D k
 e1 : U m = D 0
section
variable {S : P7 -> Prop} {k m : Nat} {D U : Nat -> P7}
theorem Hu7.turned (h : Hu7 S k m D U) : Hu7 (fun p => S (ng7 p)) m k (fun i => ng7 (U i)) (fun i => ng7 (D i)) where
 dn := h.up
 up := by
   have e : (fun p => S (ng7 (ng7 p))) = S := funext fun p => by rw [ng7_ng]
   have e2 : (fun i => ng7 (ng7 (D i))) = D := funext fun i => by rw [ng7_ng]
   rw [e, e2]; exact h.dn
 e0 := by show ng7 (D 0) = ng7 (U m); rw [h.e1]
 e1 := by show ng7 (D k) = ng7 (U 0); rw [h.e0]
theorem Hu7.umem (h : Hu7 S k m D U) {i : Nat} (hi : i <= m) : S (U i) := by have := h.up.mem i hi; rwa [ng7_ng] at this
theorem Hu7.ulf (h : Hu7 S k m D U) {i : Nat} (hi : i < m) (p : P7) (hp : S p) : 0 <= turn7 (U i) (U (i + 1)) p := by
 have := h.up.lf i hi (ng7 p) (by rwa [ng7_ng]); rwa [turn7_ng] at this
theorem Hu7.ucv (h : Hu7 S k m D U) {i : Nat} (hi : i + 1 < m) : 0 < turn7 (U i) (U (i + 1)) (U (i + 2)) := by
 have := h.up.cv i hi; rwa [turn7_ng] at this
theorem Hu7.uinc (h : Hu7 S k m D U) {i j : Nat} (hij : i < j) (hj : j <= m) : lt7 (U j) (U i) := lt7_ng.1 (h.up.lt hij hj)
theorem Hu7.corner (h : Hu7 S k m D U) (h2 : 2 < k + m) : 0 < turn7 (D (k - 1)) (D k) (U 1) := by
 have hk := h.dn.pos; have hm := h.up.pos
 have h0 : 0 <= turn7 (D (k - 1)) (D k) (U 1) := by have := h.dn.lf (k - 1) (by omega) (U 1) (h.umem hm); rwa [show k - 1 + 1 = k by omega] at this
 refine Int.not_le.1 fun hle => ?_
 have hz : turn7 (D (k - 1)) (D k) (U 1) = 0 := by omega
 have ha : lt7 (D (k - 1)) (D k) := h.dn.lt (by omega) (Nat.le_refl _)
 have hc : lt7 (U 1) (D k) := by rw [<- h.e0]; exact h.uinc (by omega) hm
 -- all places are in line with D (k - 1) and D k
 have hX := fw_of ha; have hY := fw_of hc
 have exy : crs7 (fr7 (U 1) (D k)) (fr7 (D (k - 1)) (D k)) = 0 := by rw [<- turn_at]; exact hz
 have line : ∀ p, S p -> lt7 p (D k) -> crs7 (fr7 (D (k - 1)) (D k)) (fr7 p (D k)) = 0 := fun p hp hlt => by
   have l1 := h.dn.lf (k - 1) (by omega) p hp
   rw [show k - 1 + 1 = k by omega, turn_at] at l1
   have l2 := h.ulf (i := 0) (by omega) p hp
   rw [h.e0, Nat.zero_add] at l2
   have l3 : turn7 (D k) (U 1) p = crs7 (fr7 (U 1) (D k)) (fr7 p (D k)) := by simp only [turn7, crs7, fr7]; grind
   rw [l3] at l2
   have l4 := left_trans hX hY (fw_of hlt) (by rw [crs7_anti]; omega) l2
   rw [crs7_anti] at l1
   omega
 rcases Nat.lt_or_ge 1 k with h1 | h1
 · have c1 := h.dn.cv (k - 2) (by omega)
   rw [show k - 2 + 1 = k - 1 by omega, show k - 2 + 2 = k by omega] at c1
   have c2 := line (D (k - 2)) (h.dn.mem _ (by omega)) (h.dn.lt (by omega) (Nat.le_refl _))
   have c3 : turn7 (D (k - 2)) (D (k - 1)) (D k) = -crs7 (fr7 (D (k - 1)) (D k)) (fr7 (D (k - 2)) (D k)) := by simp only [turn7, crs7, fr7]; grind
   omega
 · have c1 := h.ucv (i := 0) (by omega)
   rw [h.e0] at c1
   have hlt : lt7 (U 2) (D k) := by rw [<- h.e0]; exact h.uinc (by omega) (by omega)
   have c2 := line (U 2) (h.umem (by omega)) hlt
   have c3 : turn7 (D k) (U 1) (U 2) = crs7 (fr7 (U 1) (D k)) (fr7 (U 2) (D k)) := by simp only [turn7, crs7, fr7]; grind
   simp only [Nat.zero_add] at c1
   rw [c3] at c1
   have c4 := left_trans2 hX hY (fw_of hlt) (by rw [crs7_anti]; omega) c1
   omega
theorem Hu7.apart (h : Hu7 S k m D U) {i j : Nat} (hi : i < k) (hj : j < m) : D i ≠ U j := by
 intro e
 have hj0 : 0 < j := by
   rcases Nat.eq_zero_or_pos j with h0 | h0
   · subst h0; rw [h.e0] at e
     have := h.dn.lt hi (Nat.le_refl _); rw [e] at this; exact this.irrefl.elim
   · exact h0
 have hi0 : 0 < i := by
   rcases Nat.eq_zero_or_pos i with h0 | h0
   · subst h0; rw [<- h.e1] at e
     have := h.uinc hj (Nat.le_refl _); rw [e] at this; exact this.irrefl.elim
   · exact h0
 -- u, p, v of the one, x, p, y of the other
 have a1 : lt7 (D (i - 1)) (D i) := h.dn.lt (by omega) (by omega)
 have a2 : lt7 (D i) (D (i + 1)) := h.dn.lt (by omega) (by omega)
 have a3 : lt7 (D i) (U (j - 1)) := by rw [e]; exact h.uinc (by omega) (by omega)
 have a4 : lt7 (U (j + 1)) (D i) := by rw [e]; exact h.uinc (by omega) (by omega)
 have c1 := h.dn.cv (i - 1) (by omega)
 rw [show i - 1 + 1 = i by omega, show i - 1 + 2 = i + 1 by omega, turn_via] at c1
 have c2 := h.ucv (i := j - 1) (by omega)
 rw [show j - 1 + 1 = j by omega, show j - 1 + 2 = j + 1 by omega, <- e] at c2
 have l1 := h.dn.lf i hi (U (j - 1)) (h.umem (by omega))
 have l2 := h.dn.lf (i - 1) (by omega) (U (j + 1)) (h.umem (by omega))
 rw [show i - 1 + 1 = i by omega] at l2
 have e2 : turn7 (U (j - 1)) (D i) (U (j + 1)) = crs7 (fr7 (D i) (U (j - 1))) (fr7 (U (j + 1)) (D i)) := by simp only [turn7, crs7, fr7]; grind
 have e3 : turn7 (D i) (D (i + 1)) (U (j - 1)) = crs7 (fr7 (D i) (D (i + 1))) (fr7 (D i) (U (j - 1))) := rfl
 have e4 : turn7 (D (i - 1)) (D i) (U (j + 1)) = crs7 (fr7 (U (j + 1)) (D i)) (fr7 (D (i - 1)) (D i)) := turn_at _ _ _
 rw [e2] at c2; rw [e3] at l1; rw [e4] at l2
 have t1 := left_trans1 (fw_of a1) (fw_of a2) (fw_of a3) c1 l1
 have t2 := left_trans1 (fw_of a3) (fw_of a4) (fw_of a1) c2 l2
 rw [crs7_anti] at t2
 omega
def cor7 (k : Nat) (D U : Nat -> P7) (i : Nat) : P7 := if i < k then D i else U (i - k)
theorem cor7_next (h : Hu7 S k m D U) {i : Nat} (hi : i < k + m) : (i < k /\ cor7 k D U i = D i /\ cor7 k D U ((i + 1) % (k + m)) = D (i + 1)) ∨ (∃ j, i = k + j /\ j < m /\ cor7 k D U i = U j /\ cor7 k D U ((i + 1) % (k + m)) = U (j + 1)) := by
 have hk := h.dn.pos; have hm := h.up.pos
 rcases Nat.lt_or_ge i k with h1 | h1
 · refine Or.inl ⟨h1, by unfold cor7; rw [if_pos h1], ?_⟩
   rw [Nat.mod_eq_of_lt (by omega)]
   unfold cor7
   rcases Nat.lt_or_ge (i + 1) k with h2 | h2
   · rw [if_pos h2]
   · obtain rfl : i + 1 = k := by omega
     rw [if_neg (by omega), Nat.sub_self, h.e0]
 · refine Or.inr ⟨i - k, by omega, by omega, by unfold cor7; rw [if_neg (by omega)], ?_⟩
   rcases Nat.lt_or_ge (i + 1) (k + m) with h2 | h2
   · rw [Nat.mod_eq_of_lt h2]
     unfold cor7
     rw [if_neg (by omega), show i + 1 - k = i - k + 1 by omega]
   · rw [show i + 1 = k + m by omega, Nat.mod_self]
     unfold cor7
     rw [if_pos (by omega), show i - k + 1 = m by omega, h.e1]
theorem cor7_mem (h : Hu7 S k m D U) {i : Nat} (hi : i < k + m) : S (cor7 k D U i) := by
 rcases cor7_next h hi with ⟨h1, e, _⟩ | ⟨j, rfl, h1, e, _⟩
 · rw [e]; exact h.dn.mem _ (by omega)
 · rw [e]; exact h.umem (by omega)
theorem cor7_left (h : Hu7 S k m D U) {i : Nat} (hi : i < k + m) (p : P7) (hp : S p) : 0 <= turn7 (cor7 k D U i) (cor7 k D U ((i + 1) % (k + m))) p := by
 rcases cor7_next h hi with ⟨h1, e, e2⟩ | ⟨j, rfl, h1, e, e2⟩
 · rw [e, e2]; exact h.dn.lf _ h1 p hp
 · rw [e, e2]; exact h.ulf h1 p hp
theorem cor7_turn (h : Hu7 S k m D U) (h2 : 2 < k + m) {i : Nat} (hi : i < k + m) : 0 < turn7 (cor7 k D U i) (cor7 k D U ((i + 1) % (k + m))) (cor7 k D U ((i + 2) % (k + m))) := by
 have hk := h.dn.pos; have hm := h.up.pos
 have hn : (i + 1) % (k + m) < k + m := Nat.mod_lt _ (by omega)
 have e3 : (i + 2) % (k + m) = ((i + 1) % (k + m) + 1) % (k + m) := by rw [Nat.mod_add_mod]
 rw [e3]
 rcases cor7_next h hi with ⟨h1, e, e2⟩ | ⟨j, rfl, h1, e, e2⟩
 · have hm1 : (i + 1) % (k + m) = i + 1 := Nat.mod_eq_of_lt (by omega)
   rw [e, e2, hm1]
   rcases cor7_next h (i := i + 1) (by omega) with ⟨h3, _, e4⟩ | ⟨j, h3, h4, _, e4⟩
   · rw [e4]; exact h.dn.cv i h3
   · rw [e4]
     have := h.corner h2
     obtain rfl : k = i + 1 := by omega
     obtain rfl : j = 0 := by omega
     simpa using this
 · rw [e, e2]
   rcases Nat.lt_or_ge (k + j + 1) (k + m) with h3 | h3
   · rw [Nat.mod_eq_of_lt h3]
     rcases cor7_next h (i := k + j + 1) h3 with ⟨h4, _⟩ | ⟨j', h4, h5, _, e4⟩
     · omega
     · obtain rfl : j' = j + 1 := by omega
       rw [e4]; exact h.ucv h5
   · rw [show k + j + 1 = k + m by omega, Nat.mod_self]
     rcases cor7_next h (i := 0) (by omega) with ⟨h4, _, e4⟩ | ⟨j', h4, h5, _, _⟩
     · rw [e4]
       have := h.turned.corner (by omega)
       simp only [turn7_ng] at this
       rw [show j + 1 = m by omega, show j = m - 1 by omega]
       exact this
     · omega
theorem cor7_first (h : Hu7 S k m D U) {i : Nat} (h0 : 0 < i) (hi : i < k + m) : lt7 (cor7 k D U 0) (cor7 k D U i) := by
 have hk := h.dn.pos
 have e0 : cor7 k D U 0 = D 0 := by unfold cor7; rw [if_pos (by omega)]
 rw [e0]
 rcases cor7_next h hi with ⟨h1, e, _⟩ | ⟨j, rfl, h1, e, _⟩
 · rw [e]; exact h.dn.lt h0 (by omega)
 · rw [e, <- h.e1]; exact h.uinc h1 (Nat.le_refl _)
theorem cor7_ne (h : Hu7 S k m D U) {i j : Nat} (hij : i < j) (hj : j < k + m) : cor7 k D U i ≠ cor7 k D U j := by
 rcases cor7_next h (i := i) (by omega) with ⟨h1, e, _⟩ | ⟨x, rfl, h1, e, _⟩ <;> rcases cor7_next h hj with ⟨h2, e2, _⟩ | ⟨y, rfl, h2, e2, _⟩ <;> rw [e, e2]
 · intro h3; have := h.dn.lt hij (by omega); rw [h3] at this; exact this.irrefl
 · exact h.apart h1 h2
 · omega
 · intro h3; have := h.uinc (i := x) (j := y) (by omega) (by omega); rw [h3] at this; exact this.irrefl
end
theorem good_two {P : P7 -> Prop} {b z : P7} {s : List P7} (h : Good7 P b z s) (hbz : lt7 b z) : 2 <= s.length := by
 obtain ⟨r, e⟩ := h.top
 subst e
 cases r with
 | nil => have h1 : z = b := h.bot; rw [h1] at hbz; exact hbz.irrefl.elim
 | cons x r => simp
theorem seq7_map (s : List P7) {i : Nat} (hi : i < s.length) : seq7 (s.map ng7) i = ng7 (seq7 s i) := by
 rw [seq7_eq (by simpa using hi), seq7_eq hi]; simp
theorem drop_rev {s : List P7} {i : Nat} (hi : i < s.reverse.dropLast.length) : s.reverse.dropLast[i] = seq7 s i := by
 simp only [List.length_dropLast, List.length_reverse] at hi
 rw [seq7_eq (by omega), List.getElem_dropLast, List.getElem_reverse]
theorem chain_hu {s : List P7} {a z : P7} (haz : lt7 a z) (g1 : Good7 (fun p => p ∈ s) a z (st7 tf7 s)) (g2 : Good7 (fun p => ng7 p ∈ s) (ng7 z) (ng7 a) ((st7 tf7 s.reverse).map ng7)) :
   Hu7 (fun p => p ∈ s) ((st7 tf7 s).length - 1) ((st7 tf7 s.reverse).length - 1) (seq7 (st7 tf7 s)) (seq7 (st7 tf7 s.reverse)) /\ 2 <= (st7 tf7 s).length /\ 2 <= (st7 tf7 s.reverse).length := by
 have n1 := good_two g1 haz
 have n2 := good_two g2 (lt7_ng.2 haz)
 rw [List.length_map] at n2
 obtain ⟨d1, d2, d3⟩ := dn_of_good g1 n1
 obtain ⟨u1, u2, u3⟩ := dn_of_good g2 (by rw [List.length_map]; exact n2)
 rw [List.length_map] at u1 u3
 have hmap : ∀ i, i <= (st7 tf7 s.reverse).length - 1 -> seq7 ((st7 tf7 s.reverse).map ng7) i = ng7 (seq7 (st7 tf7 s.reverse) i) := fun i hi => seq7_map _ (by omega)
 refine ⟨⟨d1, ⟨u1.pos, fun i hi => ?_, fun i hi => ?_, fun i hi => ?_, fun i hi p hp => ?_, fun p hp => ?_, fun p hp => ?_⟩, ?_, ?_⟩, n1, n2⟩
 · have := u1.mem i hi; rwa [hmap i hi] at this
 · have := u1.inc i hi; rwa [hmap i (by omega), hmap (i + 1) (by omega)] at this
 · have := u1.cv i hi; rwa [hmap i (by omega), hmap (i + 1) (by omega), hmap (i + 2) (by omega)] at this
 · have := u1.lf i hi p hp; rwa [hmap i (by omega), hmap (i + 1) (by omega)] at this
 · have := u1.least p hp; rwa [hmap 0 (by omega)] at this
 · have := u1.most p hp; rwa [hmap _ (Nat.le_refl _)] at this
 · rw [hmap 0 (by omega)] at u2; rw [d3]; exact ng7_inj u2
 · rw [hmap _ (Nat.le_refl _)] at u3; rw [d2]; exact ng7_inj u3
structure Cn7 (l h : List P7) : Prop where
 pos : 1 <= h.length
 len : h.length <= l.length
 mem : ∀ i (hi : i < h.length), h[i] ∈ l
 left : ∀ i (hi : i < h.length) p, p ∈ l -> 0 <= turn7 h[i] (h[(i + 1) % h.length]'(Nat.mod_lt _ (by omega))) p
 turn : 2 < h.length -> ∀ i (hi : i < h.length), 0 < turn7 h[i] (h[(i + 1) % h.length]'(Nat.mod_lt _ (by omega))) (h[(i + 2) % h.length]'(Nat.mod_lt _ (by omega)))
 first : ∀ i (hi : i < h.length), 0 < i -> lt7 (h[0]'(by omega)) h[i]
theorem few_of_nodup : ∀ {h l : List P7}, h.Pairwise (fun a b => a ≠ b) -> (∀ x ∈ h, x ∈ l) -> h.length <= l.length
 | [], _, _, _ => Nat.zero_le _
 | x :: t, l, hp, hs => by
   rw [List.pairwise_cons] at hp
   have hx := hs x (by simp)
   have h1 := few_of_nodup (h := t) (l := l.erase x) hp.2 (fun y hy => (List.mem_erase_of_ne (Ne.symm (hp.1 y hy))).2 (hs y (List.mem_cons_of_mem _ hy)))
   rw [List.length_erase_of_mem hx] at h1
   have := List.length_pos_of_mem hx
   simp only [List.length_cons]; omega
theorem hul7_big {l : List P7} (h2 : 2 <= (srt7 l).length) : ∃ a z, lt7 a z /\ Good7 (fun p => p ∈ srt7 l) a z (st7 tf7 (srt7 l)) /\ Good7 (fun p => ng7 p ∈ srt7 l) (ng7 z) (ng7 a) ((st7 tf7 (srt7 l).reverse).map ng7) /\ hul7 tf7 l = (st7 tf7 (srt7 l)).reverse.dropLast ++ (st7 tf7 (srt7 l).reverse).reverse.dropLast := by
 obtain ⟨a, z, haz, g1, g2⟩ := chains7 (srt7_good l).1 h2
 exact ⟨a, z, haz, g1, g2, by unfold hul7; rw [if_neg (by omega)]⟩
theorem hul7_at {l : List P7} (h2 : 2 <= (srt7 l).length) :
   (hul7 tf7 l).length = (st7 tf7 (srt7 l)).length - 1 + ((st7 tf7 (srt7 l).reverse).length - 1) /\ ∀ i (hi : i < (hul7 tf7 l).length), (hul7 tf7 l)[i] = cor7 ((st7 tf7 (srt7 l)).length - 1) (seq7 (st7 tf7 (srt7 l))) (seq7 (st7 tf7 (srt7 l).reverse)) i := by
 have e : hul7 tf7 l = (st7 tf7 (srt7 l)).reverse.dropLast ++ (st7 tf7 (srt7 l).reverse).reverse.dropLast := by unfold hul7; rw [if_neg (by omega)]
 have hlen : (hul7 tf7 l).length = (st7 tf7 (srt7 l)).length - 1 + ((st7 tf7 (srt7 l).reverse).length - 1) := by rw [e]; simp
 refine ⟨hlen, fun i hi => ?_⟩
 have e2 : (hul7 tf7 l)[i] = ((st7 tf7 (srt7 l)).reverse.dropLast ++ (st7 tf7 (srt7 l).reverse).reverse.dropLast)[i]'(by rw [<- e]; exact hi) := by simp only [e]
 rw [e2]
 unfold cor7
 rcases Nat.lt_or_ge i ((st7 tf7 (srt7 l)).length - 1) with h1 | h1
 · rw [if_pos h1, List.getElem_append_left (by simpa using h1), drop_rev]
 · rw [if_neg (by omega), List.getElem_append_right (by simpa using h1), drop_rev]
   simp
theorem hul7_corners {l : List P7} (h0 : 1 <= l.length) : Cn7 l (hul7 tf7 l) := by
 have hm := (srt7_good l).2
 have hpos : 1 <= (srt7 l).length := by
   obtain ⟨x, hx⟩ : ∃ x, x ∈ l := ⟨l[0], List.getElem_mem h0⟩
   exact List.length_pos_of_mem ((hm x).2 hx)
 rcases Nat.lt_or_ge 1 (srt7 l).length with h2 | h2
 · obtain ⟨a, z, haz, g1, g2, _⟩ := hul7_big (l := l) h2
   obtain ⟨H, n1, n2⟩ := chain_hu haz g1 g2
   obtain ⟨hlen, hat⟩ := hul7_at h2
   have hS : (fun p => p ∈ srt7 l) = (fun p => p ∈ l) := funext fun p => by rw [hm]
   rw [hS] at H
   generalize hul7 tf7 l = h at *
   generalize seq7 (st7 tf7 (srt7 l)) = D at *
   generalize seq7 (st7 tf7 (srt7 l).reverse) = U at *
   generalize (st7 tf7 (srt7 l)).length - 1 = k at *
   generalize (st7 tf7 (srt7 l).reverse).length - 1 = m at *
   have hk := H.dn.pos
   have hat2 : ∀ i (hi : i < h.length) j, j = i -> h[i] = cor7 k D U j := fun i hi j e => by rw [e]; exact hat i hi
   refine ⟨by omega, ?_, fun i hi => ?_, fun i hi p hp => ?_, fun hn i hi => ?_, fun i hi h0 => ?_⟩
   · refine few_of_nodup ?_ fun x hx => ?_
     · rw [List.pairwise_iff_getElem]
       intro i j hi hj hij
       rw [hat i hi, hat j hj]
       exact cor7_ne H hij (by omega)
     · obtain ⟨i, hi, rfl⟩ := List.getElem_of_mem hx
       rw [hat i hi]; exact cor7_mem H (by omega)
   · rw [hat i hi]; exact cor7_mem H (by omega)
   · rw [hat i hi, hat2 _ _ ((i + 1) % (k + m)) (by rw [hlen])]
     exact cor7_left H (by omega) p hp
   · rw [hat i hi, hat2 _ _ ((i + 1) % (k + m)) (by rw [hlen]), hat2 _ _ ((i + 2) % (k + m)) (by rw [hlen])]
     exact cor7_turn H (by omega) (by omega)
   · rw [hat i hi, hat 0 (by omega)]
     exact cor7_first H h0 (by omega)
 · have e : hul7 tf7 l = srt7 l := by unfold hul7; rw [if_pos (by omega)]
   rw [e]
   have hl1 : (srt7 l).length = 1 := by omega
   obtain ⟨p, hp⟩ : ∃ p, srt7 l = [p] := List.length_eq_one_iff.1 hl1
   rw [hp] at hm ⊢
   refine ⟨by simp, by simpa using h0, fun i hi => ?_, fun i hi q hq => ?_, fun hn => absurd hn (by simp), fun i hi h0 => absurd hi (by simp; omega)⟩
   · exact (hm _).1 (List.getElem_mem hi)
   · have h1 := (hm q).2 hq
     rw [List.mem_singleton] at h1
     subst h1
     have hi0 : i = 0 := by simp at hi; exact hi
     subst hi0
     simp only [List.length_singleton, Nat.mod_one, List.getElem_cons_zero]
     rw [turn7_same]; omega
theorem hul7_again {l : List P7} (h0 : 1 <= l.length) : hul7 tf7 (hul7 tf7 l) = hul7 tf7 l := by
 have hm := (srt7_good l).2
 have hpos : 1 <= (srt7 l).length := by
   obtain ⟨x, hx⟩ : ∃ x, x ∈ l := ⟨l[0], List.getElem_mem h0⟩
   exact List.length_pos_of_mem ((hm x).2 hx)
 rcases Nat.lt_or_ge 1 (srt7 l).length with h2 | h2
 · obtain ⟨a, z, haz, g1, g2, e⟩ := hul7_big (l := l) h2
   obtain ⟨H, n1, n2⟩ := chain_hu haz g1 g2
   obtain ⟨hlen, hat⟩ := hul7_at h2
   have hm2 := (srt7_good (hul7 tf7 l)).2
   have hk := H.dn.pos; have hmm := H.up.pos
   -- all of both chains are corners
   have cin : ∀ i, i < (hul7 tf7 l).length -> cor7 ((st7 tf7 (srt7 l)).length - 1) (seq7 (st7 tf7 (srt7 l))) (seq7 (st7 tf7 (srt7 l).reverse)) i ∈ hul7 tf7 l := fun i hi => by rw [<- hat i hi]; exact List.getElem_mem hi
   have hsub : ∀ x ∈ hul7 tf7 l, x ∈ srt7 l := fun x hx => by
     obtain ⟨i, hi, rfl⟩ := List.getElem_of_mem hx
     rw [hat i hi]; exact cor7_mem H (by omega)
   have dIn : ∀ i, i <= (st7 tf7 (srt7 l)).length - 1 -> seq7 (st7 tf7 (srt7 l)) i ∈ hul7 tf7 l := fun i hi => by
     rcases Nat.lt_or_ge i ((st7 tf7 (srt7 l)).length - 1) with h3 | h3
     · have := cin i (by omega); unfold cor7 at this; rwa [if_pos h3] at this
     · have h4 := cin ((st7 tf7 (srt7 l)).length - 1) (by omega)
       unfold cor7 at h4; rw [if_neg (by omega), Nat.sub_self, H.e0] at h4
       rwa [show i = (st7 tf7 (srt7 l)).length - 1 by omega]
   have uIn : ∀ i, i <= (st7 tf7 (srt7 l).reverse).length - 1 -> seq7 (st7 tf7 (srt7 l).reverse) i ∈ hul7 tf7 l := fun i hi => by
     rcases Nat.lt_or_ge i ((st7 tf7 (srt7 l).reverse).length - 1) with h3 | h3
     · have := cin ((st7 tf7 (srt7 l)).length - 1 + i) (by omega); unfold cor7 at this; rwa [if_neg (by omega), Nat.add_sub_cancel_left] at this
     · rw [show i = (st7 tf7 (srt7 l).reverse).length - 1 by omega, H.e1]; exact dIn 0 (by omega)
   have memSeq : ∀ {s : List P7} {x : P7}, x ∈ s -> ∃ i, i <= s.length - 1 /\ seq7 s i = x := fun {s x} hx => by
     obtain ⟨i, hi, rfl⟩ := List.getElem_of_mem hx
     refine ⟨s.length - 1 - i, by omega, ?_⟩
     rw [seq7_eq (by omega)]
     simp only [show s.length - 1 - (s.length - 1 - i) = i by omega]
   have d1 : ∀ x ∈ st7 tf7 (srt7 l), x ∈ srt7 (hul7 tf7 l) := fun x hx => by
     obtain ⟨i, hi, rfl⟩ := memSeq hx
     exact (hm2 _).2 (dIn i hi)
   have u1 : ∀ x ∈ (st7 tf7 (srt7 l).reverse).map ng7, ng7 x ∈ srt7 (hul7 tf7 l) := fun x hx => by
     obtain ⟨y, hy, rfl⟩ := List.mem_map.1 hx
     obtain ⟨i, hi, rfl⟩ := memSeq hy
     rw [ng7_ng]; exact (hm2 _).2 (uIn i hi)
   have ain := d1 a g1.sub.1
   have zin := d1 z g1.sub.2
   have h22 : 2 <= (srt7 (hul7 tf7 l)).length := by
     obtain ⟨i, hi, ei⟩ := List.getElem_of_mem ain
     obtain ⟨j, hj, ej⟩ := List.getElem_of_mem zin
     rcases Nat.lt_or_ge 1 (srt7 (hul7 tf7 l)).length with h | h
     · exact h
     · have : i = j := by omega
       subst this
       rw [ei] at ej; subst ej; exact haz.irrefl.elim
   obtain ⟨a', z', haz', g1', g2', e'⟩ := hul7_big (l := hul7 tf7 l) h22
   have sub2 : ∀ p, p ∈ srt7 (hul7 tf7 l) -> p ∈ srt7 l := fun p hp => hsub p ((hm2 p).1 hp)
   have ea : a' = a := by
     rcases g1.least a' (sub2 _ (g1'.mem _ g1'.sub.1)) with h | h
     · exact h
     · rcases g1'.least a ain with h3 | h3
       · exact h3.symm
       · exact (h.asymm h3).elim
   have ez : z' = z := by
     rcases g1.most z' (sub2 _ (g1'.mem _ g1'.sub.2)) with h | h
     · exact h
     · rcases g1'.most z zin with h3 | h3
       · exact h3.symm
       · exact (h.asymm h3).elim
   subst ea ez
   have x1 := g1.unique g1' d1 sub2
   have x2 := g2.unique g2' u1 (fun p hp => sub2 _ hp)
   have x3 : st7 tf7 (srt7 l).reverse = st7 tf7 (srt7 (hul7 tf7 l)).reverse := by
     have := congrArg (List.map ng7) x2
     rwa [map_ng_ng, map_ng_ng] at this
   rw [e', <- x1, <- x3, <- e]
 · have e : hul7 tf7 l = srt7 l := by unfold hul7; rw [if_pos (by omega)]
   have hl1 : (srt7 l).length = 1 := by omega
   obtain ⟨p, hp⟩ : ∃ p, srt7 l = [p] := List.length_eq_one_iff.1 hl1
   have e2 : srt7 (srt7 l) = srt7 l := srt7_same fun x => hm x
   rw [e]
   unfold hul7
   rw [e2, if_pos hl1]
end Go.Proofs.YtpjbihfkedbenaaGreat
