/- Places, rectangles, turns, sides, and what is said of them. No conditions. | Crossing: order and direction play no part, and what sides say of it. No conditions. | The distance of a place from a segment, as a numerator and a denominator. No conditions. | Hulls: chains of places in order that keep left turns alone, what they go around, and that there is but one such chain. No conditions. | The hull of places: its corners, its edges, its turns, the hull of the hull; order and repetition play no part. No conditions. -/
import Derived.Test.YtpjbihfkedbenaaGreatGA
namespace Go.Proofs.YtpjbihfkedbenaaGreat
structure P7 where
 x : Int
 y : Int
deriving DecidableEq
structure R7 where
 x : Int
 y : Int
 w : Int
 h : Int
deriving DecidableEq
def P7.ok (p : P7) : Prop := (0 <= p.x /\ p.x <= 4095) /\ (0 <= p.y /\ p.y <= 4095)
instance decP7 (p : P7) : Decidable p.ok := by unfold P7.ok; infer_instance
def R7.ok (r : R7) : Prop := ((0 <= r.x /\ r.x <= 4095) /\ (0 <= r.y /\ r.y <= 4095)) /\ (0 <= r.w /\ r.w <= 4095 - r.x) /\ (0 <= r.h /\ r.h <= 4095 - r.y)
instance decR7 (r : R7) : Decidable r.ok := by unfold R7.ok; infer_instance
def Sm7 (n : Int) : Prop := -1000000 <= n /\ n <= 1000000
def P7.sm (p : P7) : Prop := Sm7 p.x /\ Sm7 p.y
theorem P7.ok.sm {p : P7} (h : p.ok) : p.sm := by unfold P7.ok at h; unfold P7.sm Sm7; omega
def P7.int (p : P7) : Prop := (-9223372036854775808 <= p.x /\ p.x <= 9223372036854775807) /\ (-9223372036854775808 <= p.y /\ p.y <= 9223372036854775807)
def fr7 (a b : P7) : P7 := ⟨b.x - a.x, b.y - a.y⟩
def dot7 (a b : P7) : Int := a.x * b.x + a.y * b.y
def crs7 (a b : P7) : Int := a.x * b.y - a.y * b.x
def turn7 (a b c : P7) : Int := crs7 (fr7 a b) (fr7 a c)
def sg7 (n : Int) : Int := min (max n (-1)) 1
def sd7 (a b c : P7) : Int := if a.ok /\ b.ok /\ c.ok then sg7 (turn7 a b c) else 0
def ul7 (r : R7) : P7 := ⟨r.x, r.y⟩
def lr7 (r : R7) : P7 := ⟨r.x + r.w, r.y + r.h⟩
def bf7 (a b : P7) : Bool := decide (a.x < b.x ∨ a.y < b.y)
theorem bf7_no (a b : P7) : bf7 a b = false ↔ b.x <= a.x /\ b.y <= a.y := by unfold bf7; rw [decide_eq_false_iff_not]; omega
def tc7 (a b : R7) : Bool := decide (a.ok /\ b.ok) && !bf7 (lr7 a) (ul7 b) && !bf7 (lr7 b) (ul7 a)
def in7 (a b : R7) : Bool := decide (a.ok /\ b.ok) && !bf7 (ul7 a) (ul7 b) && !bf7 (lr7 b) (lr7 a)
def lo7 (a b : P7) : P7 := ⟨min a.x b.x, min a.y b.y⟩
def hi7 (a b : P7) : P7 := ⟨max a.x b.x, max a.y b.y⟩
def ar7 (p : P7) (l : List P7) : R7 := ⟨(l.foldl lo7 p).x, (l.foldl lo7 p).y, (l.foldl hi7 p).x - (l.foldl lo7 p).x, (l.foldl hi7 p).y - (l.foldl lo7 p).y⟩
def cr7 (a b c d : P7) : Bool :=
 decide (a.ok /\ b.ok /\ c.ok /\ d.ok) && tc7 (ar7 a [a, b]) (ar7 c [c, d]) && decide (sd7 a b c * sd7 a b d <= 0) && decide (sd7 c d a * sd7 c d b <= 0)
theorem sg7_mem (n : Int) : -1 <= sg7 n /\ sg7 n <= 1 := by unfold sg7; omega
theorem mul_small {a b m n : Int} (ha : -m <= a /\ a <= m) (hb : -n <= b /\ b <= n) : -(m * n) <= a * b /\ a * b <= m * n := by
 have hm : 0 <= m := by omega
 have hn : 0 <= n := by omega
 have h : (a * b).natAbs <= (m * n).natAbs := by
   rw [Int.natAbs_mul, Int.natAbs_mul]
   exact Nat.mul_le_mul (by omega) (by omega)
 have h2 : 0 <= m * n := Int.mul_nonneg hm hn
 omega
theorem dot7_small {a b : P7} (ha : a.sm) (hb : b.sm) : (-1000000000000 <= a.x * b.x /\ a.x * b.x <= 1000000000000) /\ (-1000000000000 <= a.y * b.y /\ a.y * b.y <= 1000000000000) := by
 have h1 := mul_small (m := 1000000) (n := 1000000) ha.1 hb.1
 have h2 := mul_small (m := 1000000) (n := 1000000) ha.2 hb.2
 omega
theorem crs7_small {a b : P7} (ha : a.sm) (hb : b.sm) : (-1000000000000 <= a.x * b.y /\ a.x * b.y <= 1000000000000) /\ (-1000000000000 <= a.y * b.x /\ a.y * b.x <= 1000000000000) := by
 have h1 := mul_small (m := 1000000) (n := 1000000) ha.1 hb.2
 have h2 := mul_small (m := 1000000) (n := 1000000) ha.2 hb.1
 omega
section
variable {a b c d : P7}
end
def dq7 (p a b : P7) : Int × Int :=
 if dot7 (fr7 a b) (fr7 a p) <= 0 then (dot7 (fr7 a p) (fr7 a p), 1)
 else if 0 <= dot7 (fr7 a b) (fr7 b p) then (dot7 (fr7 b p) (fr7 b p), 1)
 else (crs7 (fr7 a b) (fr7 a p) * crs7 (fr7 a b) (fr7 a p), dot7 (fr7 a b) (fr7 a b))
theorem dots7 (p a b : P7) : dot7 (fr7 a b) (fr7 a p) = dot7 (fr7 a b) (fr7 b p) + dot7 (fr7 a b) (fr7 a b) := by simp only [dot7, fr7]; grind
def lt7 (a b : P7) : Prop := a.y < b.y ∨ (a.y = b.y /\ a.x < b.x)
instance decLt7 (a b : P7) : Decidable (lt7 a b) := by unfold lt7; infer_instance
theorem lt7.trans {a b c : P7} (h : lt7 a b) (h2 : lt7 b c) : lt7 a c := by unfold lt7 at *; omega
theorem lt7.tri (a b : P7) : lt7 a b ∨ a = b ∨ lt7 b a := by
 obtain ⟨ax, ay⟩ := a; obtain ⟨bx, bY⟩ := b
 unfold lt7; simp only [P7.mk.injEq]; omega
def pop7 (f : P7 -> P7 -> P7 -> Bool) : List P7 -> P7 -> List P7
 | t :: u :: r, n => if f u t n then t :: u :: r else pop7 f (u :: r) n
 | [t], _ => [t]
 | [], _ => []
def Ds7 : List P7 -> Prop
 | t :: u :: r => lt7 u t /\ Ds7 (u :: r)
 | _ => True
def Cv7 : List P7 -> Prop
 | t :: u :: v :: r => 0 < turn7 v u t /\ Cv7 (u :: v :: r)
 | _ => True
def Lf7 (P : P7 -> Prop) : List P7 -> Prop
 | t :: u :: r => (∀ p, P p -> 0 <= turn7 u t p) /\ Lf7 P (u :: r)
 | _ => True
def Bt7 (b : P7) : List P7 -> Prop
 | _ :: u :: r => Bt7 b (u :: r)
 | [t] => t = b
 | [] => False
theorem Ds7.tail {t : P7} {s : List P7} (h : Ds7 (t :: s)) : Ds7 s := by
 cases s with
 | nil => trivial
 | cons u r => exact h.2
theorem Cv7.tail {t : P7} {s : List P7} (h : Cv7 (t :: s)) : Cv7 s := by
 match s, h with
 | [], _ => trivial
 | [_], _ => trivial
 | _ :: _ :: _, h => exact h.2
theorem Lf7.tail {P : P7 -> Prop} {t : P7} {s : List P7} (h : Lf7 P (t :: s)) : Lf7 P s := by
 cases s with
 | nil => trivial
 | cons u r => exact h.2
theorem Lf7.less {P P' : P7 -> Prop} (hp : ∀ p, P' p -> P p) : ∀ {s : List P7}, Lf7 P s -> Lf7 P' s
 | [], _ => trivial
 | [_], _ => trivial
 | _ :: _ :: _, h => ⟨fun p hp' => h.1 p (hp p hp'), h.2.less hp⟩
theorem Ds7.all : ∀ {t : P7} {s : List P7}, Ds7 (t :: s) -> ∀ x ∈ s, lt7 x t
 | _, [], _, x, hx => by cases hx
 | t, u :: r, h, x, hx => by
   rcases List.mem_cons.1 hx with rfl | hx
   · exact h.1
   · exact (h.2.all x hx).trans h.1
theorem Bt7.all : ∀ {s : List P7} {b : P7}, Bt7 b s -> Ds7 s -> ∀ x ∈ s, x = b ∨ lt7 b x
 | [], _, h, _, _, _ => h.elim
 | [t], b, h, _, x, hx => by
   rw [List.mem_singleton] at hx; subst hx; exact Or.inl h
 | t :: u :: r, b, h, hd, x, hx => by
   rcases List.mem_cons.1 hx with rfl | hx
   · rcases Bt7.all (s := u :: r) h hd.2 u (List.mem_cons_self ..) with h3 | h3
     · subst h3; exact Or.inr hd.1
     · exact Or.inr (h3.trans hd.1)
   · exact Bt7.all (s := u :: r) h hd.2 x hx
theorem Bt7.mem : ∀ {s : List P7} {b : P7}, Bt7 b s -> b ∈ s
 | [t], b, h => by rw [List.mem_singleton]; exact h.symm
 | t :: u :: r, b, h => List.mem_cons_of_mem _ (Bt7.mem (s := u :: r) h)
structure Good7 (P : P7 -> Prop) (b z : P7) (s : List P7) : Prop where
 mem : ∀ x ∈ s, P x
 ds : Ds7 s
 cv : Cv7 s
 lf : Lf7 P s
 bot : Bt7 b s
 top : ∃ r, s = z :: r
 least : ∀ p, P p -> p = b ∨ lt7 b p
 most : ∀ p, P p -> p = z ∨ lt7 p z
def st7 (f : P7 -> P7 -> P7 -> Bool) (l : List P7) : List P7 := l.foldl (fun s n => n :: pop7 f s n) []
def idx7 (l : List P7) (p : P7) : Nat -> Nat
 | 0 => 0
 | i + 1 => if lt7 p (l.getD i ⟨0, 0⟩) then idx7 l p i else i + 1
def ins7 (l : List P7) (p : P7) : List P7 :=
 if idx7 l p l.length = 0 ∨ l.getD (idx7 l p l.length - 1) ⟨0, 0⟩ ≠ p then l.take (idx7 l p l.length) ++ p :: l.drop (idx7 l p l.length) else l
def srt7 (l : List P7) : List P7 := l.foldl ins7 []
theorem idx7_le (l : List P7) (p : P7) : ∀ i, idx7 l p i <= i
 | 0 => Nat.le_refl _
 | i + 1 => by unfold idx7; split; exact Nat.le_succ_of_le (idx7_le l p i); exact Nat.le_refl _
theorem idx7_gt (l : List P7) (p : P7) : ∀ i j, idx7 l p i <= j -> j < i -> lt7 p (l.getD j ⟨0, 0⟩)
 | 0, _, _, h => by omega
 | i + 1, j, h, h2 => by
   unfold idx7 at h
   split at h
   · next hl =>
     rcases Nat.lt_or_ge j i with hj | hj
     · exact idx7_gt l p i j h hj
     · obtain rfl : j = i := by omega
       exact hl
   · omega
theorem idx7_at (l : List P7) (p : P7) : ∀ i, 0 < idx7 l p i -> ¬ lt7 p (l.getD (idx7 l p i - 1) ⟨0, 0⟩)
 | 0, h => by simp [idx7] at h
 | i + 1, h => by
   by_cases hl : lt7 p (l.getD i ⟨0, 0⟩)
   · have e : idx7 l p (i + 1) = idx7 l p i := by rw [idx7, if_pos hl]
     rw [e] at h ⊢; exact idx7_at l p i h
   · have e : idx7 l p (i + 1) = i + 1 := by rw [idx7, if_neg hl]
     rw [e]; exact hl
theorem ins7_good {l : List P7} (p : P7) (h : l.Pairwise lt7) : (ins7 l p).Pairwise lt7 /\ ∀ x, x ∈ ins7 l p ↔ x ∈ l ∨ x = p := by
 have hg := idx7_gt l p l.length
 have ha := idx7_at l p l.length
 have hle := idx7_le l p l.length
 unfold ins7
 generalize idx7 l p l.length = i at *
 have hsplit := List.take_append_drop i l
 have hlow : ∀ x ∈ l.take i, 0 < i -> x = l.getD (i - 1) ⟨0, 0⟩ ∨ lt7 x (l.getD (i - 1) ⟨0, 0⟩) := by
   intro x hx hi
   obtain ⟨k, hk, rfl⟩ := List.getElem_of_mem hx
   rw [List.length_take] at hk
   rw [List.getElem_take, List.getD_eq_getElem?_getD, List.getElem?_eq_getElem (by omega), Option.getD_some]
   rcases Nat.lt_or_ge k (i - 1) with h1 | h1
   · exact Or.inr (List.pairwise_iff_getElem.1 h _ _ (by omega) (by omega) h1)
   · refine Or.inl ?_
     have e : k = i - 1 := by omega
     subst e; rfl
 have hhigh : ∀ x ∈ l.drop i, lt7 p x := by
   intro x hx
   obtain ⟨k, hk, rfl⟩ := List.getElem_of_mem hx
   rw [List.length_drop] at hk
   have := hg (i + k) (by omega) (by omega)
   rw [List.getElem_drop]
   rwa [List.getD_eq_getElem?_getD, List.getElem?_eq_getElem (by omega), Option.getD_some] at this
 split
 · next hc =>
   refine ⟨?_, fun x => ?_⟩
   · rw [List.pairwise_append]
     refine ⟨h.sublist (List.take_sublist ..), List.pairwise_cons.2 ⟨hhigh, h.sublist (List.drop_sublist ..)⟩, fun x hx y hy => ?_⟩
     have hi : 0 < i := by
       rcases Nat.eq_zero_or_pos i with e | e
       · subst e; simp at hx
       · exact e
     have h1 := hlow x hx hi
     have h2 := ha hi
     have h3 : l.getD (i - 1) ⟨0, 0⟩ ≠ p := hc.resolve_left (by omega)
     have h4 : lt7 (l.getD (i - 1) ⟨0, 0⟩) p := by
       rcases lt7.tri (l.getD (i - 1) ⟨0, 0⟩) p with e | e | e
       · exact e
       · exact absurd e h3
       · exact absurd e h2
     have h5 : lt7 x p := h1.elim (fun e => e ▸ h4) (fun e => e.trans h4)
     rcases List.mem_cons.1 hy with rfl | hy
     · exact h5
     · exact h5.trans (hhigh y hy)
   · conv => rhs; rw [<- hsplit]
     simp only [List.mem_append, List.mem_cons]
     constructor
     · rintro (h | h | h)
       · exact Or.inl (Or.inl h)
       · exact Or.inr h
       · exact Or.inl (Or.inr h)
     · rintro ((h | h) | h)
       · exact Or.inl h
       · exact Or.inr (Or.inr h)
       · exact Or.inr (Or.inl h)
 · next hc =>
   refine ⟨h, fun x => ⟨Or.inl, fun hx => hx.elim id fun e => ?_⟩⟩
   have hc1 : ¬ i = 0 := fun e => hc (Or.inl e)
   have hc2 : l.getD (i - 1) ⟨0, 0⟩ = p := Decidable.byContradiction fun e => hc (Or.inr e)
   subst e
   rw [<- hc2, List.getD_eq_getElem?_getD, List.getElem?_eq_getElem (by omega), Option.getD_some]
   exact List.getElem_mem _
theorem srt7_good (l : List P7) : (srt7 l).Pairwise lt7 /\ ∀ x, x ∈ srt7 l ↔ x ∈ l := by
 unfold srt7
 have : ∀ (l s : List P7), s.Pairwise lt7 -> (l.foldl ins7 s).Pairwise lt7 /\ ∀ x, x ∈ l.foldl ins7 s ↔ x ∈ s ∨ x ∈ l := by
   intro l
   induction l with
   | nil => intro s hs; exact ⟨hs, fun x => by simp⟩
   | cons p l ih =>
     intro s hs
     obtain ⟨h1, h2⟩ := ins7_good p hs
     obtain ⟨h3, h4⟩ := ih _ h1
     exact ⟨h3, fun x => by rw [List.foldl_cons, h4, h2, List.mem_cons, or_assoc]⟩
 obtain ⟨h1, h2⟩ := this l [] List.Pairwise.nil
 exact ⟨h1, fun x => by rw [h2]; simp⟩
def hul7 (f : P7 -> P7 -> P7 -> Bool) (l : List P7) : List P7 :=
 if (srt7 l).length = 1 then srt7 l else (st7 f (srt7 l)).reverse.dropLast ++ (st7 f (srt7 l).reverse).reverse.dropLast
end Go.Proofs.YtpjbihfkedbenaaGreat
