/- Places, rectangles, turns, sides, and what is said of them. No conditions. | Crossing: order and direction play no part, and what sides say of it. No conditions. | The distance of a place from a segment, as a numerator and a denominator. No conditions. | Hulls: chains of places in order that keep left turns alone, what they go around, and that there is but one such chain. No conditions. | The hull of places: its corners, its edges, its turns, the hull of the hull; order and repetition play no part. No conditions. -/
import Derived.Test.YtpjbihfkedbenaaGreatGA
namespace Go.Proofs.YtpjbihfkedbenaaGreat
structure P7 where
 x : Int
 y : Int
deriving DecidableEq
structure R7 where
 x : Int
 y : Int
 w : Int
 h : Int
deriving DecidableEq
def P7.ok (p : P7) : Prop := (0 <= p.x /\ p.x <= 4095) /\ (0 <= p.y /\ p.y <= 4095)
instance decP7 (p : P7) : Decidable p.ok := by unfold P7.ok; infer_instance
def R7.ok (r : R7) : Prop := ((0 <= r.x /\ r.x <= 4095) /\ (0 <= r.y /\ r.y <= 4095)) /\ (0 <= r.w /\ r.w <= 4095 - r.x) /\ (0 <= r.h /\ r.h <= 4095 - r.y)
instance decR7 (r : R7) : Decidable r.ok := by unfold R7.ok; infer_instance
def Sm7 (n : Int) : Prop := -1000000 <= n /\ n <= 1000000
def P7.sm (p : P7) : Prop := Sm7 p.x /\ Sm7 p.y
theorem P7.ok.sm {p : P7} (h : p.ok) : p.sm := by unfold P7.ok at h; unfold P7.sm Sm7; omega
def P7.int (p : P7) : Prop := (-9223372036854775808 <= p.x /\ p.x <= 9223372036854775807) /\ (-9223372036854775808 <= p.y /\ p.y <= 9223372036854775807)
def fr7 (a b : P7) : P7 := ⟨b.x - a.x, b.y - a.y⟩
def dot7 (a b : P7) : Int := a.x * b.x + a.y * b.y
def crs7 (a b : P7) : Int := a.x * b.y - a.y * b.x
def turn7 (a b c : P7) : Int := crs7 (fr7 a b) (fr7 a c)
def sg7 (n : Int) : Int := min (max n (-1)) 1
def sd7 (a b c : P7) : Int := if a.ok /\ b.ok /\ c.ok then sg7 (turn7 a b c) else 0
def ul7 (r : R7) : P7 := ⟨r.x, r.y⟩
def lr7 (r : R7) : P7 := ⟨r.x + r.w, r.y + r.h⟩
def bf7 (a b : P7) : Bool := decide (a.x < b.x ∨ a.y < b.y)
def tc7 (a b : R7) : Bool := decide (a.ok /\ b.ok) && !bf7 (lr7 a) (ul7 b) && !bf7 (lr7 b) (ul7 a)
def in7 (a b : R7) : Bool := decide (a.ok /\ b.ok) && !bf7 (ul7 a) (ul7 b) && !bf7 (lr7 b) (lr7 a)
def lo7 (a b : P7) : P7 := ⟨min a.x b.x, min a.y b.y⟩
def hi7 (a b : P7) : P7 := ⟨max a.x b.x, max a.y b.y⟩
def ar7 (p : P7) (l : List P7) : R7 := ⟨(l.foldl lo7 p).x, (l.foldl lo7 p).y, (l.foldl hi7 p).x - (l.foldl lo7 p).x, (l.foldl hi7 p).y - (l.foldl lo7 p).y⟩
def cr7 (a b c d : P7) : Bool :=
 decide (a.ok /\ b.ok /\ c.ok /\ d.ok) && tc7 (ar7 a [a, b]) (ar7 c [c, d]) && decide (sd7 a b c * sd7 a b d <= 0) && decide (sd7 c d a * sd7 c d b <= 0)
theorem sg7_pos {n : Int} (h : 0 < n) : sg7 n = 1 := by unfold sg7; omega
theorem sg7_three (n : Int) : (0 < n /\ sg7 n = 1) ∨ (n = 0 /\ sg7 n = 0) ∨ (n < 0 /\ sg7 n = -1) := by unfold sg7; omega
theorem sg7_mem (n : Int) : -1 <= sg7 n /\ sg7 n <= 1 := by unfold sg7; omega
theorem turn7_eq (a b c : P7) : turn7 a b c = (b.x - a.x) * (c.y - a.y) - (b.y - a.y) * (c.x - a.x) := rfl
theorem turn7_same (a c : P7) : turn7 a a c = 0 := by simp only [turn7_eq]; grind
theorem turn7_end (a b : P7) : turn7 a b b = 0 := by simp only [turn7_eq]; grind
theorem turn7_start (a b : P7) : turn7 a b a = 0 := by simp only [turn7_eq]; grind
theorem sd7_ok {a b c : P7} (ha : a.ok) (hb : b.ok) (hc : c.ok) : sd7 a b c = sg7 (turn7 a b c) := if_pos ⟨ha, hb, hc⟩
theorem mul_small {a b m n : Int} (ha : -m <= a /\ a <= m) (hb : -n <= b /\ b <= n) : -(m * n) <= a * b /\ a * b <= m * n := by
 have hm : 0 <= m := by omega
 have hn : 0 <= n := by omega
 have h : (a * b).natAbs <= (m * n).natAbs := by
   rw [Int.natAbs_mul, Int.natAbs_mul]
   exact Nat.mul_le_mul (by omega) (by omega)
 have h2 : 0 <= m * n := Int.mul_nonneg hm hn
 omega
theorem dot7_small {a b : P7} (ha : a.sm) (hb : b.sm) : (-1000000000000 <= a.x * b.x /\ a.x * b.x <= 1000000000000) /\ (-1000000000000 <= a.y * b.y /\ a.y * b.y <= 1000000000000) := by
 have h1 := mul_small (m := 1000000) (n := 1000000) ha.1 hb.1
 have h2 := mul_small (m := 1000000) (n := 1000000) ha.2 hb.2
 omega
theorem crs7_small {a b : P7} (ha : a.sm) (hb : b.sm) : (-1000000000000 <= a.x * b.y /\ a.x * b.y <= 1000000000000) /\ (-1000000000000 <= a.y * b.x /\ a.y * b.x <= 1000000000000) := by
 have h1 := mul_small (m := 1000000) (n := 1000000) ha.1 hb.2
 have h2 := mul_small (m := 1000000) (n := 1000000) ha.2 hb.1
 omega
section
variable {a b c d : P7}
end
def dq7 (p a b : P7) : Int × Int :=
 if dot7 (fr7 a b) (fr7 a p) <= 0 then (dot7 (fr7 a p) (fr7 a p), 1)
 else if 0 <= dot7 (fr7 a b) (fr7 b p) then (dot7 (fr7 b p) (fr7 b p), 1)
 else (crs7 (fr7 a b) (fr7 a p) * crs7 (fr7 a b) (fr7 a p), dot7 (fr7 a b) (fr7 a b))
theorem dots7 (p a b : P7) : dot7 (fr7 a b) (fr7 a p) = dot7 (fr7 a b) (fr7 b p) + dot7 (fr7 a b) (fr7 a b) := by simp only [dot7, fr7]; grind
def Fw (v : P7) : Prop := 0 < v.y ∨ (v.y = 0 /\ 0 < v.x)
def lt7 (a b : P7) : Prop := a.y < b.y ∨ (a.y = b.y /\ a.x < b.x)
instance decLt7 (a b : P7) : Decidable (lt7 a b) := by unfold lt7; infer_instance
theorem fw_of {a b : P7} (h : lt7 a b) : Fw (fr7 a b) := by unfold lt7 at h; unfold Fw fr7; simp only; omega
theorem lt7.trans {a b c : P7} (h : lt7 a b) (h2 : lt7 b c) : lt7 a c := by unfold lt7 at *; omega
theorem lt7.irrefl {a : P7} (h : lt7 a a) : False := by unfold lt7 at h; omega
theorem lt7.asymm {a b : P7} (h : lt7 a b) (h2 : lt7 b a) : False := (h.trans h2).irrefl
theorem lt7.tri (a b : P7) : lt7 a b ∨ a = b ∨ lt7 b a := by
 obtain ⟨ax, ay⟩ := a; obtain ⟨bx, bY⟩ := b
 unfold lt7; simp only [P7.mk.injEq]; omega
theorem crs7_id (a b c : P7) : crs7 a c * b.x = crs7 b c * a.x + crs7 a b * c.x /\ crs7 a c * b.y = crs7 b c * a.y + crs7 a b * c.y := by
 unfold crs7; constructor <;> grind
theorem crs7_anti (a b : P7) : crs7 b a = -crs7 a b := by unfold crs7; grind
theorem pos_of_mul {x y : Int} (hy : 0 < y) (h : 0 < x * y) : 0 < x := by
 refine Int.not_le.1 fun hx => ?_
 have := Int.mul_nonpos_of_nonpos_of_nonneg hx (Int.le_of_lt hy)
 omega
theorem nonneg_of_mul {x y : Int} (hy : 0 < y) (h : 0 <= x * y) : 0 <= x := by
 refine Int.not_lt.1 fun hx => ?_
 have := Int.mul_neg_of_neg_of_pos hx hy
 omega
theorem left_trans {a b c : P7} (ha : Fw a) (hb : Fw b) (hc : Fw c) (h1 : 0 <= crs7 a b) (h2 : 0 <= crs7 b c) : 0 <= crs7 a c := by
 obtain ⟨e1, e2⟩ := crs7_id a b c
 have ya : 0 <= a.y := by rcases ha with h | h <;> omega
 have yc : 0 <= c.y := by rcases hc with h | h <;> omega
 rcases hb with hb | ⟨hb, hb2⟩
 · refine nonneg_of_mul hb ?_
   have k1 := Int.mul_nonneg h2 ya; have k2 := Int.mul_nonneg h1 yc
   omega
 · have k1 : crs7 a b = -(a.y * b.x) := by unfold crs7; rw [hb]; omega
   have k2 : 0 <= a.y * b.x := Int.mul_nonneg ya (Int.le_of_lt hb2)
   have k3 : a.y = 0 := by
     have : a.y * b.x = 0 := by omega
     rcases Int.mul_eq_zero.1 this with h | h <;> omega
   have k4 : 0 < a.x := by rcases ha with h | h <;> omega
   have k5 : crs7 a c = a.x * c.y := by unfold crs7; rw [k3]; omega
   rw [k5]; exact Int.mul_nonneg (by omega) yc
theorem left_trans1 {a b c : P7} (ha : Fw a) (hb : Fw b) (hc : Fw c) (h1 : 0 < crs7 a b) (h2 : 0 <= crs7 b c) : 0 < crs7 a c := by
 obtain ⟨e1, e2⟩ := crs7_id a b c
 have ya : 0 <= a.y := by rcases ha with h | h <;> omega
 have yb : 0 <= b.y := by rcases hb with h | h <;> omega
 have hb0 : 0 < b.y := by
   refine Int.not_le.1 fun h => ?_
   have h0 : b.y = 0 := by omega
   have k1 : crs7 a b = -(a.y * b.x) := by unfold crs7; rw [h0]; omega
   have k2 : 0 <= a.y * b.x := Int.mul_nonneg ya (by rcases hb with h | h <;> omega)
   omega
 have hc0 : 0 < c.y := by
   rcases hc with h | ⟨h, h3⟩
   · exact h
   · have k1 : crs7 b c = -(b.y * c.x) := by unfold crs7; rw [h]; omega
     have k2 : 0 < b.y * c.x := Int.mul_pos hb0 h3
     omega
 refine pos_of_mul hb0 ?_
 have k1 := Int.mul_nonneg h2 ya; have k2 := Int.mul_pos h1 hc0
 omega
theorem left_trans2 {a b c : P7} (ha : Fw a) (hb : Fw b) (hc : Fw c) (h1 : 0 <= crs7 a b) (h2 : 0 < crs7 b c) : 0 < crs7 a c := by
 obtain ⟨e1, e2⟩ := crs7_id a b c
 have ya : 0 <= a.y := by rcases ha with h | h <;> omega
 have yb : 0 <= b.y := by rcases hb with h | h <;> omega
 have yc : 0 <= c.y := by rcases hc with h | h <;> omega
 have hc0 : 0 < c.y := by
   refine Int.not_le.1 fun h => ?_
   have h0 : c.y = 0 := by omega
   have k1 : crs7 b c = -(b.y * c.x) := by unfold crs7; rw [h0]; omega
   have k2 : 0 <= b.y * c.x := Int.mul_nonneg yb (by rcases hc with h | h <;> omega)
   omega
 rcases Int.lt_or_eq_of_le ya with h | h
 · rcases hb with hb | ⟨hb, hb2⟩
   · refine pos_of_mul hb ?_
     have k1 := Int.mul_pos h2 h; have k2 := Int.mul_nonneg h1 yc
     omega
   · have k1 : crs7 a b = -(a.y * b.x) := by unfold crs7; rw [hb]; omega
     have k2 : 0 < a.y * b.x := Int.mul_pos h hb2
     omega
 · have k4 : 0 < a.x := by rcases ha with h | h <;> omega
   have k5 : crs7 a c = a.x * c.y := by unfold crs7; rw [<- h]; omega
   rw [k5]; exact Int.mul_pos k4 hc0
theorem turn_via (u t n : P7) : turn7 u t n = crs7 (fr7 u t) (fr7 t n) := by simp only [turn7, crs7, fr7]; grind
theorem turn_at (u t p : P7) : turn7 u t p = crs7 (fr7 p t) (fr7 u t) := by simp only [turn7, crs7, fr7]; grind
theorem turn_end (t n p : P7) : turn7 t n p = crs7 (fr7 p t) (fr7 t n) := by simp only [turn7, crs7, fr7]; grind
theorem turn_far (u n p : P7) : turn7 u n p = crs7 (fr7 u n) (fr7 u p) := rfl
theorem turn_on {v u t n : P7} (h1 : lt7 v u) (h2 : lt7 u t) (h3 : lt7 t n) (k1 : 0 < turn7 v u t) (k2 : 0 < turn7 u t n) : 0 < turn7 v u n := by
 rw [turn_via] at k1 k2
 have k3 := left_trans1 (fw_of h1) (fw_of h2) (fw_of h3) k1 (Int.le_of_lt k2)
 have e : turn7 v u n = crs7 (fr7 v u) (fr7 u t) + crs7 (fr7 v u) (fr7 t n) := by simp only [turn7, crs7, fr7]; grind
 omega
theorem turn_pop {u t n p : P7} (h1 : lt7 u t) (h2 : lt7 u n) (h3 : lt7 u p) (k1 : turn7 u t n <= 0) (k2 : 0 <= turn7 u t p) : 0 <= turn7 u n p := by
 rw [turn_far] at k1 k2 ⊢
 refine left_trans (fw_of h2) (fw_of h1) (fw_of h3) ?_ k2
 rw [crs7_anti]; omega
theorem turn_push {u t n p : P7} (h1 : lt7 u t) (h2 : lt7 t n) (h3 : lt7 p t) (k1 : 0 < turn7 u t n) (k2 : 0 <= turn7 u t p) : 0 <= turn7 t n p := by
 rw [turn_via] at k1; rw [turn_at] at k2; rw [turn_end]
 exact left_trans (fw_of h3) (fw_of h1) (fw_of h2) k2 (Int.le_of_lt k1)
def pop7 (f : P7 -> P7 -> P7 -> Bool) : List P7 -> P7 -> List P7
 | t :: u :: r, n => if f u t n then t :: u :: r else pop7 f (u :: r) n
 | [t], _ => [t]
 | [], _ => []
def tf7 (a b c : P7) : Bool := decide (0 < turn7 a b c)
def Ds7 : List P7 -> Prop
 | t :: u :: r => lt7 u t /\ Ds7 (u :: r)
 | _ => True
def Cv7 : List P7 -> Prop
 | t :: u :: v :: r => 0 < turn7 v u t /\ Cv7 (u :: v :: r)
 | _ => True
def Lf7 (P : P7 -> Prop) : List P7 -> Prop
 | t :: u :: r => (∀ p, P p -> 0 <= turn7 u t p) /\ Lf7 P (u :: r)
 | _ => True
def Bt7 (b : P7) : List P7 -> Prop
 | _ :: u :: r => Bt7 b (u :: r)
 | [t] => t = b
 | [] => False
theorem Ds7.tail {t : P7} {s : List P7} (h : Ds7 (t :: s)) : Ds7 s := by
 cases s with
 | nil => trivial
 | cons u r => exact h.2
theorem Cv7.tail {t : P7} {s : List P7} (h : Cv7 (t :: s)) : Cv7 s := by
 match s, h with
 | [], _ => trivial
 | [_], _ => trivial
 | _ :: _ :: _, h => exact h.2
theorem Lf7.tail {P : P7 -> Prop} {t : P7} {s : List P7} (h : Lf7 P (t :: s)) : Lf7 P s := by
 cases s with
 | nil => trivial
 | cons u r => exact h.2
theorem Lf7.less {P P' : P7 -> Prop} (hp : ∀ p, P' p -> P p) : ∀ {s : List P7}, Lf7 P s -> Lf7 P' s
 | [], _ => trivial
 | [_], _ => trivial
 | _ :: _ :: _, h => ⟨fun p hp' => h.1 p (hp p hp'), h.2.less hp⟩
theorem Ds7.all : ∀ {t : P7} {s : List P7}, Ds7 (t :: s) -> ∀ x ∈ s, lt7 x t
 | _, [], _, x, hx => by cases hx
 | t, u :: r, h, x, hx => by
   rcases List.mem_cons.1 hx with rfl | hx
   · exact h.1
   · exact (h.2.all x hx).trans h.1
theorem Bt7.all : ∀ {s : List P7} {b : P7}, Bt7 b s -> Ds7 s -> ∀ x ∈ s, x = b ∨ lt7 b x
 | [], _, h, _, _, _ => h.elim
 | [t], b, h, _, x, hx => by
   rw [List.mem_singleton] at hx; subst hx; exact Or.inl h
 | t :: u :: r, b, h, hd, x, hx => by
   rcases List.mem_cons.1 hx with rfl | hx
   · rcases Bt7.all (s := u :: r) h hd.2 u (List.mem_cons_self ..) with h3 | h3
     · subst h3; exact Or.inr hd.1
     · exact Or.inr (h3.trans hd.1)
   · exact Bt7.all (s := u :: r) h hd.2 x hx
theorem Bt7.mem : ∀ {s : List P7} {b : P7}, Bt7 b s -> b ∈ s
 | [t], b, h => by rw [List.mem_singleton]; exact h.symm
 | t :: u :: r, b, h => List.mem_cons_of_mem _ (Bt7.mem (s := u :: r) h)
def Hd7 (n : P7) : List P7 -> Prop
 | t :: u :: _ => 0 < turn7 u t n
 | _ => True
def By7 (P : P7 -> Prop) (n : P7) : List P7 -> Prop
 | t :: _ => lt7 t n /\ ∀ p, P p -> lt7 t p -> 0 <= turn7 t n p
 | [] => True
theorem pop7_good {P : P7 -> Prop} {n b : P7} (hn : ∀ p, P p -> lt7 p n) : ∀ {s : List P7}, s ≠ [] -> (∀ x ∈ s, P x) -> Ds7 s -> Cv7 s -> Lf7 P s -> Bt7 b s -> By7 P n s →
   pop7 tf7 s n ≠ [] /\ (∀ x ∈ pop7 tf7 s n, x ∈ s) /\ Ds7 (pop7 tf7 s n) /\ Cv7 (pop7 tf7 s n) /\ Lf7 P (pop7 tf7 s n) /\ Bt7 b (pop7 tf7 s n) /\ By7 P n (pop7 tf7 s n) /\ Hd7 n (pop7 tf7 s n)
 | [], h, _, _, _, _, _, _ => absurd rfl h
 | [t], _, _, h2, h3, h4, h5, h6 => ⟨by simp [pop7], fun _ h => h, h2, h3, h4, h5, h6, trivial⟩
 | t :: u :: r, _, h1, h2, h3, h4, h5, h6 => by
   unfold pop7
   by_cases h : 0 < turn7 u t n
   · rw [if_pos (by exact decide_eq_true h)]
     exact ⟨by simp, fun _ h => h, h2, h3, h4, h5, h6, h⟩
   · rw [if_neg (by simpa [tf7] using h)]
     have hu := h1 u (by simp)
     have ih := pop7_good hn (s := u :: r) (by simp) (fun x hx => h1 x (List.mem_cons_of_mem _ hx)) h2.2 h3.tail h4.2 h5 ⟨hn u hu, fun p hp hlt => turn_pop h2.1 (hn u hu) hlt (by omega) (h4.1 p hp)⟩
     exact ⟨ih.1, fun x hx => List.mem_cons_of_mem _ (ih.2.1 x hx), ih.2.2⟩
theorem turn_all {n : P7} : ∀ {s : List P7}, Ds7 s -> Cv7 s -> Hd7 n s -> (∀ t r, s = t :: r -> lt7 t n) -> Lf7 (fun p => p = n) s
 | [], _, _, _, _ => trivial
 | [_], _, _, _, _ => trivial
 | t :: u :: r, h1, h2, h3, h4 => by
   refine ⟨fun p hp => by subst hp; exact Int.le_of_lt h3, ?_⟩
   refine turn_all (s := u :: r) h1.2 h2.tail ?_ fun t' r' e => ?_
   · match r, h1, h2, h3 with
     | [], _, _, _ => trivial
     | v :: r, h1, h2, h3 => exact turn_on h1.2.1 h1.1 (h4 t _ rfl) h2.1 h3
   · cases e; exact h1.1.trans (h4 t _ rfl)
theorem Lf7.both {P Q : P7 -> Prop} : ∀ {s : List P7}, Lf7 P s -> Lf7 Q s -> Lf7 (fun p => P p ∨ Q p) s
 | [], _, _ => trivial
 | [_], _, _ => trivial
 | _ :: _ :: _, h, h2 => ⟨fun p hp => hp.elim (h.1 p) (h2.1 p), h.2.both h2.2⟩
structure Good7 (P : P7 -> Prop) (b z : P7) (s : List P7) : Prop where
 mem : ∀ x ∈ s, P x
 ds : Ds7 s
 cv : Cv7 s
 lf : Lf7 P s
 bot : Bt7 b s
 top : ∃ r, s = z :: r
 least : ∀ p, P p -> p = b ∨ lt7 b p
 most : ∀ p, P p -> p = z ∨ lt7 p z
theorem good_one (a : P7) : Good7 (fun p => p = a) a a [a] := ⟨fun x hx => by rwa [List.mem_singleton] at hx, trivial, trivial, trivial, rfl, ⟨[], rfl⟩, fun _ h => Or.inl h, fun _ h => Or.inl h⟩
theorem Good7.push {P : P7 -> Prop} {b z n : P7} {s : List P7} (h : Good7 P b z s) (hn : lt7 z n) : Good7 (fun p => P p ∨ p = n) b n (n :: pop7 tf7 s n) := by
 have hPn : ∀ p, P p -> lt7 p n := fun p hp => (h.most p hp).elim (fun e => e ▸ hn) (fun e => e.trans hn)
 obtain ⟨r0, e0⟩ := h.top
 have hz := h.mem z (by rw [e0]; exact List.mem_cons_self ..)
 have hby : By7 P n s := by
   rw [e0]
   exact ⟨hn, fun p hp hlt => ((h.most p hp).elim (fun e => (lt7.irrefl (e ▸ hlt)).elim) (fun e => (hlt.asymm e).elim))⟩
 obtain ⟨k1, k2, k3, k4, k5, k6, k7, k8⟩ := pop7_good hPn (by rw [e0]; simp) h.mem h.ds h.cv h.lf h.bot hby
 generalize pop7 tf7 s n = q at *
 have kt := turn_all k3 k4 k8 (fun t r e => by subst e; exact k7.1)
 refine ⟨fun x hx => ?_, ?_, ?_, ?_, ?_, ⟨q, rfl⟩, ?_, ?_⟩
 · rcases List.mem_cons.1 hx with rfl | hx
   · exact Or.inr rfl
   · exact Or.inl (h.mem x (k2 x hx))
 · match q, k1, k7, k3 with
   | t :: r, _, k7, k3 => exact ⟨k7.1, k3⟩
 · match q, k8, k4 with
   | [], _, _ => trivial
   | [t], _, _ => trivial
   | t :: u :: r, k8, k4 => exact ⟨k8, k4⟩
 · have kb := k5.both kt
   match q, k1, k2, k3, k5, k6, k7, k8, kb with
   | t :: r, _, k2, k3, k5, k6, k7, k8, kb =>
     refine ⟨fun p hp => ?_, kb⟩
     rcases hp with hp | rfl
     · rcases lt7.tri p t with hlt | rfl | hlt
       · match r, k3, k5, k6, k8 with
         | [], _, _, k6, _ =>
           have k6 : t = b := k6
           rcases h.least p hp with e | e
           · rw [<- k6] at e; subst e; exact (hlt.irrefl).elim
           · rw [<- k6] at e; exact (hlt.asymm e).elim
         | u :: r, k3, k5, _, k8 => exact turn_push k3.1 k7.1 hlt k8 (k5.1 p hp)
       · rw [turn7_start]; omega
       · exact k7.2 p hp hlt
     · rw [turn7_end]; omega
 · match q, k1, k6 with
   | t :: r, _, k6 => exact k6
 · rintro p (hp | rfl)
   · exact h.least p hp
   · exact Or.inr ((h.least z hz).elim (fun e => e ▸ hn) (fun e => e.trans hn))
 · rintro p (hp | rfl)
   · exact Or.inr (hPn p hp)
   · exact Or.inl rfl
theorem good_unique {P : P7 -> Prop} {b : P7} : ∀ {s s' : List P7} {z : P7}, (∃ r, s = z :: r) -> (∃ r, s' = z :: r) -> (∀ x ∈ s, P x) -> (∀ x ∈ s', P x) -> Ds7 s -> Ds7 s' -> Cv7 s -> Cv7 s' -> Lf7 P s -> Lf7 P s' -> Bt7 b s -> Bt7 b s' -> s = s'
 | [], _, z, ⟨_, e⟩, _, _, _, _, _, _, _, _, _, _, _ => by cases e
 | _ :: _, [], z, _, ⟨_, e⟩, _, _, _, _, _, _, _, _, _, _ => by cases e
 | [x], [y], z, ⟨_, e⟩, ⟨_, e'⟩, _, _, _, _, _, _, _, _, _, _ => by cases e; cases e'; rfl
 | [x], y :: t' :: r', z, ⟨_, e⟩, ⟨_, e'⟩, _, _, _, d', _, _, _, _, hb, hb' => by
   cases e; cases e'
   have h1 : x = b := hb
   subst h1
   rcases Bt7.all hb' d' t' (by simp) with h | h
   · subst h; exact (d'.1.irrefl).elim
   · exact (h.asymm d'.1).elim
 | x :: t :: r, [y], z, ⟨_, e⟩, ⟨_, e'⟩, _, _, d, _, _, _, _, _, hb, hb' => by
   cases e; cases e'
   have h1 : x = b := hb'
   subst h1
   rcases Bt7.all hb d t (by simp) with h | h
   · subst h; exact (d.1.irrefl).elim
   · exact (h.asymm d.1).elim
 | x :: t :: r, y :: t' :: r', z, ⟨_, e⟩, ⟨_, e'⟩, m, m', d, d', c, c', l, l', hb, hb' => by
   cases e; cases e'
   have key : ∀ {t t' : P7} {r : List P7}, Bt7 b (t :: r) -> Ds7 (x :: t :: r) -> Cv7 (x :: t :: r) -> Lf7 P (x :: t :: r) -> P t' -> (t' = b ∨ lt7 b t') -> lt7 t' x -> 0 <= turn7 t' x t -> lt7 t' t -> False := by
     intro t t' r hb d c l ht' hbt hz hl hlt
     match r, hb, d, c, l with
     | [], hb, _, _, _ =>
       have hb : t = b := hb
       subst hb
       rcases hbt with h | h
       · subst h; exact hlt.irrefl
       · exact hlt.asymm h
     | v :: r, _, d, c, l =>
       have k1 := l.1 t' ht'
       have k2 := l.2.1 t' ht'
       have k3 : 0 < turn7 v t x := c.1
       rw [turn_at] at hl k1 k2; rw [turn_via] at k3
       have k4 : 0 <= crs7 (fr7 t x) (fr7 t' t) := by
         have e : crs7 (fr7 t x) (fr7 t' x) = crs7 (fr7 t x) (fr7 t' t) := by simp only [crs7, fr7]; grind
         omega
       have k5 := left_trans (fw_of d.1) (fw_of hlt) (fw_of d.2.1) k4 k2
       rw [crs7_anti] at k5
       omega
   have ht : t = t' := by
     rcases lt7.tri t t' with h | h | h
     · refine (key (t := t') (t' := t) hb' d' c' l' (m t (by simp)) ?_ d.1 (l.1 t' (m' t' (by simp))) h).elim
       exact Bt7.all hb d t (by simp)
     · exact h
     · refine (key (t := t) (t' := t') hb d c l (m' t' (by simp)) ?_ d'.1 (l'.1 t (m t (by simp))) h).elim
       exact Bt7.all hb' d' t' (by simp)
   subst ht
   have := good_unique (s := t :: r) (s' := t :: r') ⟨r, rfl⟩ ⟨r', rfl⟩ (fun x hx => m x (List.mem_cons_of_mem _ hx)) (fun x hx => m' x (List.mem_cons_of_mem _ hx)) d.2 d'.2 c.tail c'.tail l.2 l'.2 hb hb'
   rw [this]
theorem Good7.unique {P P' : P7 -> Prop} {b z : P7} {s s' : List P7} (h : Good7 P b z s) (h' : Good7 P' b z s') (hs : ∀ x ∈ s, P' x) (hP : ∀ p, P' p -> P p) : s = s' :=
 good_unique (P := P') h.top h'.top hs h'.mem h.ds h'.ds h.cv h'.cv (h.lf.less hP) h'.lf h.bot h'.bot
def st7 (f : P7 -> P7 -> P7 -> Bool) (l : List P7) : List P7 := l.foldl (fun s n => n :: pop7 f s n) []
def As7 : List P7 -> Prop
 | a :: b :: r => lt7 a b /\ As7 (b :: r)
 | _ => True
theorem st7_go : ∀ (l : List P7) {P : P7 -> Prop} {b z : P7} {s : List P7}, Good7 P b z s -> As7 (z :: l) -> Good7 (fun p => P p ∨ p ∈ l) b ((z :: l).getLast (by simp)) (l.foldl (fun s n => n :: pop7 tf7 s n) s)
 | [], P, b, z, s, h, _ => by
   have e : (fun p => P p ∨ p ∈ ([] : List P7)) = P := funext fun p => by simp
   rw [e]; exact h
 | n :: l, P, b, z, s, h, ha => by
   have := st7_go l (h.push ha.1) ha.2
   have e : (fun p => P p ∨ p ∈ n :: l) = (fun p => (P p ∨ p = n) ∨ p ∈ l) := funext fun p => by rw [List.mem_cons, or_assoc]
   rw [e, List.getLast_cons (by simp)]
   exact this
theorem st7_good (a : P7) (l : List P7) (h : As7 (a :: l)) : Good7 (fun p => p ∈ a :: l) a ((a :: l).getLast (by simp)) (st7 tf7 (a :: l)) := by
 have := st7_go l (good_one a) h
 have e : (fun p => p ∈ a :: l) = (fun p => p = a ∨ p ∈ l) := funext fun p => by rw [List.mem_cons]
 rw [e]; exact this
def ng7 (p : P7) : P7 := ⟨-p.x, -p.y⟩
theorem ng7_ng (p : P7) : ng7 (ng7 p) = p := by unfold ng7; simp
theorem ng7_inj {p q : P7} (h : ng7 p = ng7 q) : p = q := by rw [<- ng7_ng p, h, ng7_ng]
theorem turn7_ng (a b c : P7) : turn7 (ng7 a) (ng7 b) (ng7 c) = turn7 a b c := by simp only [turn7_eq, ng7]; grind
theorem lt7_ng {a b : P7} : lt7 (ng7 a) (ng7 b) ↔ lt7 b a := by unfold lt7 ng7; simp only; omega
theorem map_ng_ng (l : List P7) : (l.map ng7).map ng7 = l := by
 rw [List.map_map]
 have e : (ng7 ∘ ng7) = id := funext fun p => ng7_ng p
 rw [e, List.map_id]
theorem pop7_ng (n : P7) : ∀ s : List P7, (pop7 tf7 s n).map ng7 = pop7 tf7 (s.map ng7) (ng7 n)
 | [] => rfl
 | [_] => rfl
 | t :: u :: r => by
   have e : tf7 (ng7 u) (ng7 t) (ng7 n) = tf7 u t n := by unfold tf7; rw [turn7_ng]
   simp only [List.map_cons]
   unfold pop7
   rw [e]
   split
   · rfl
   · exact pop7_ng n (u :: r)
theorem st7_ng (l : List P7) : (st7 tf7 l).map ng7 = st7 tf7 (l.map ng7) := by
 unfold st7
 have : ∀ (l s : List P7), (l.foldl (fun s n => n :: pop7 tf7 s n) s).map ng7 = (l.map ng7).foldl (fun s n => n :: pop7 tf7 s n) (s.map ng7) := by
   intro l
   induction l with
   | nil => intro s; rfl
   | cons n l ih => intro s; simp only [List.foldl_cons, List.map_cons]; rw [ih, List.map_cons, pop7_ng]
 exact this l []
theorem pop7_ok {f : P7 -> P7 -> P7 -> Bool} {n : P7} : ∀ {s : List P7}, (∀ x ∈ s, ∀ y ∈ s, f x y n = tf7 x y n) -> pop7 f s n = pop7 tf7 s n
 | [], _ => rfl
 | [_], _ => rfl
 | t :: u :: r, h => by
   unfold pop7
   rw [h u (by simp) t (by simp), pop7_ok (s := u :: r) (fun x hx y hy => h x (List.mem_cons_of_mem _ hx) y (List.mem_cons_of_mem _ hy))]
theorem pop7_sub {f : P7 -> P7 -> P7 -> Bool} {n : P7} : ∀ {s : List P7}, ∀ x ∈ pop7 f s n, x ∈ s
 | [], x, h => h
 | [_], x, h => h
 | t :: u :: r, x, h => by
   unfold pop7 at h
   split at h
   · exact h
   · exact List.mem_cons_of_mem _ (pop7_sub (s := u :: r) x h)
theorem st7_ok {f : P7 -> P7 -> P7 -> Bool} {l : List P7} (h : ∀ x ∈ l, ∀ y ∈ l, ∀ z ∈ l, f x y z = tf7 x y z) : st7 f l = st7 tf7 l := by
 unfold st7
 have : ∀ (m s : List P7), (∀ x ∈ s, x ∈ l) -> (∀ x ∈ m, x ∈ l) -> m.foldl (fun s n => n :: pop7 f s n) s = m.foldl (fun s n => n :: pop7 tf7 s n) s := by
   intro m
   induction m with
   | nil => intro s _ _; rfl
   | cons n m ih =>
     intro s hs hm
     simp only [List.foldl_cons]
     rw [pop7_ok (fun x hx y hy => h x (hs x hx) y (hs y hy) n (hm n (by simp)))]
     exact ih _ (fun x hx => (List.mem_cons.1 hx).elim (fun e => e ▸ hm n (by simp)) (fun hx => hs x (pop7_sub x hx))) (fun x hx => hm x (List.mem_cons_of_mem _ hx))
 exact this l [] (fun x hx => by cases hx) (fun x hx => hx)
theorem Good7.sub {P : P7 -> Prop} {b z : P7} {s : List P7} (h : Good7 P b z s) : b ∈ s /\ z ∈ s := ⟨h.bot.mem, by obtain ⟨r, e⟩ := h.top; rw [e]; simp⟩
theorem as7_pair : ∀ {l : List P7}, As7 l ↔ l.Pairwise lt7
 | [] => by simp [As7]
 | [_] => by simp [As7]
 | a :: b :: r => by
   have ih := as7_pair (l := b :: r)
   rw [List.pairwise_cons]
   constructor
   · rintro ⟨h1, h2⟩
     have h3 := ih.1 h2
     refine ⟨fun x hx => ?_, h3⟩
     rcases List.mem_cons.1 hx with rfl | hx
     · exact h1
     · exact h1.trans ((List.pairwise_cons.1 h3).1 x hx)
   · rintro ⟨h1, h2⟩
     exact ⟨h1 b (by simp), ih.2 h2⟩
theorem srt_unique : ∀ {l m : List P7}, l.Pairwise lt7 -> m.Pairwise lt7 -> (∀ x, x ∈ l ↔ x ∈ m) -> l = m
 | [], [], _, _, _ => rfl
 | [], b :: m, _, _, h => by have := (h b).2 (by simp); cases this
 | a :: l, [], _, _, h => by have := (h a).1 (by simp); cases this
 | a :: l, b :: m, hl, hm, h => by
   rw [List.pairwise_cons] at hl hm
   have e : a = b := by
     rcases List.mem_cons.1 ((h a).1 (by simp)) with e | h1
     · exact e
     · rcases List.mem_cons.1 ((h b).2 (by simp)) with e | h2
       · exact e.symm
       · exact ((hm.1 a h1).asymm (hl.1 b h2)).elim
   subst e
   rw [srt_unique hl.2 hm.2 fun x => ?_]
   constructor
   · intro hx
     rcases List.mem_cons.1 ((h x).1 (List.mem_cons_of_mem _ hx)) with e | h1
     · subst e; exact ((hl.1 x hx).irrefl).elim
     · exact h1
   · intro hx
     rcases List.mem_cons.1 ((h x).2 (List.mem_cons_of_mem _ hx)) with e | h1
     · subst e; exact ((hm.1 x hx).irrefl).elim
     · exact h1
def idx7 (l : List P7) (p : P7) : Nat -> Nat
 | 0 => 0
 | i + 1 => if lt7 p (l.getD i ⟨0, 0⟩) then idx7 l p i else i + 1
def ins7 (l : List P7) (p : P7) : List P7 :=
 if idx7 l p l.length = 0 ∨ l.getD (idx7 l p l.length - 1) ⟨0, 0⟩ ≠ p then l.take (idx7 l p l.length) ++ p :: l.drop (idx7 l p l.length) else l
def srt7 (l : List P7) : List P7 := l.foldl ins7 []
theorem idx7_le (l : List P7) (p : P7) : ∀ i, idx7 l p i <= i
 | 0 => Nat.le_refl _
 | i + 1 => by unfold idx7; split; exact Nat.le_succ_of_le (idx7_le l p i); exact Nat.le_refl _
theorem idx7_gt (l : List P7) (p : P7) : ∀ i j, idx7 l p i <= j -> j < i -> lt7 p (l.getD j ⟨0, 0⟩)
 | 0, _, _, h => by omega
 | i + 1, j, h, h2 => by
   unfold idx7 at h
   split at h
   · next hl =>
     rcases Nat.lt_or_ge j i with hj | hj
     · exact idx7_gt l p i j h hj
     · obtain rfl : j = i := by omega
       exact hl
   · omega
theorem idx7_at (l : List P7) (p : P7) : ∀ i, 0 < idx7 l p i -> ¬ lt7 p (l.getD (idx7 l p i - 1) ⟨0, 0⟩)
 | 0, h => by simp [idx7] at h
 | i + 1, h => by
   by_cases hl : lt7 p (l.getD i ⟨0, 0⟩)
   · have e : idx7 l p (i + 1) = idx7 l p i := by rw [idx7, if_pos hl]
     rw [e] at h ⊢; exact idx7_at l p i h
   · have e : idx7 l p (i + 1) = i + 1 := by rw [idx7, if_neg hl]
     rw [e]; exact hl
theorem ins7_good {l : List P7} (p : P7) (h : l.Pairwise lt7) : (ins7 l p).Pairwise lt7 /\ ∀ x, x ∈ ins7 l p ↔ x ∈ l ∨ x = p := by
 have hg := idx7_gt l p l.length
 have ha := idx7_at l p l.length
 have hle := idx7_le l p l.length
 unfold ins7
 generalize idx7 l p l.length = i at *
 have hsplit := List.take_append_drop i l
 have hlow : ∀ x ∈ l.take i, 0 < i -> x = l.getD (i - 1) ⟨0, 0⟩ ∨ lt7 x (l.getD (i - 1) ⟨0, 0⟩) := by
   intro x hx hi
   obtain ⟨k, hk, rfl⟩ := List.getElem_of_mem hx
   rw [List.length_take] at hk
   rw [List.getElem_take, List.getD_eq_getElem?_getD, List.getElem?_eq_getElem (by omega), Option.getD_some]
   rcases Nat.lt_or_ge k (i - 1) with h1 | h1
   · exact Or.inr (List.pairwise_iff_getElem.1 h _ _ (by omega) (by omega) h1)
   · refine Or.inl ?_
     have e : k = i - 1 := by omega
     subst e; rfl
 have hhigh : ∀ x ∈ l.drop i, lt7 p x := by
   intro x hx
   obtain ⟨k, hk, rfl⟩ := List.getElem_of_mem hx
   rw [List.length_drop] at hk
   have := hg (i + k) (by omega) (by omega)
   rw [List.getElem_drop]
   rwa [List.getD_eq_getElem?_getD, List.getElem?_eq_getElem (by omega), Option.getD_some] at this
 split
 · next hc =>
   refine ⟨?_, fun x => ?_⟩
   · rw [List.pairwise_append]
     refine ⟨h.sublist (List.take_sublist ..), List.pairwise_cons.2 ⟨hhigh, h.sublist (List.drop_sublist ..)⟩, fun x hx y hy => ?_⟩
     have hi : 0 < i := by
       rcases Nat.eq_zero_or_pos i with e | e
       · subst e; simp at hx
       · exact e
     have h1 := hlow x hx hi
     have h2 := ha hi
     have h3 : l.getD (i - 1) ⟨0, 0⟩ ≠ p := hc.resolve_left (by omega)
     have h4 : lt7 (l.getD (i - 1) ⟨0, 0⟩) p := by
       rcases lt7.tri (l.getD (i - 1) ⟨0, 0⟩) p with e | e | e
       · exact e
       · exact absurd e h3
       · exact absurd e h2
     have h5 : lt7 x p := h1.elim (fun e => e ▸ h4) (fun e => e.trans h4)
     rcases List.mem_cons.1 hy with rfl | hy
     · exact h5
     · exact h5.trans (hhigh y hy)
   · conv => rhs; rw [<- hsplit]
     simp only [List.mem_append, List.mem_cons]
     constructor
     · rintro (h | h | h)
       · exact Or.inl (Or.inl h)
       · exact Or.inr h
       · exact Or.inl (Or.inr h)
     · rintro ((h | h) | h)
       · exact Or.inl h
       · exact Or.inr (Or.inr h)
       · exact Or.inr (Or.inl h)
 · next hc =>
   refine ⟨h, fun x => ⟨Or.inl, fun hx => hx.elim id fun e => ?_⟩⟩
   have hc1 : ¬ i = 0 := fun e => hc (Or.inl e)
   have hc2 : l.getD (i - 1) ⟨0, 0⟩ = p := Decidable.byContradiction fun e => hc (Or.inr e)
   subst e
   rw [<- hc2, List.getD_eq_getElem?_getD, List.getElem?_eq_getElem (by omega), Option.getD_some]
   exact List.getElem_mem _
theorem srt7_good (l : List P7) : (srt7 l).Pairwise lt7 /\ ∀ x, x ∈ srt7 l ↔ x ∈ l := by
 unfold srt7
 have : ∀ (l s : List P7), s.Pairwise lt7 -> (l.foldl ins7 s).Pairwise lt7 /\ ∀ x, x ∈ l.foldl ins7 s ↔ x ∈ s ∨ x ∈ l := by
   intro l
   induction l with
   | nil => intro s hs; exact ⟨hs, fun x => by simp⟩
   | cons p l ih =>
     intro s hs
     obtain ⟨h1, h2⟩ := ins7_good p hs
     obtain ⟨h3, h4⟩ := ih _ h1
     exact ⟨h3, fun x => by rw [List.foldl_cons, h4, h2, List.mem_cons, or_assoc]⟩
 obtain ⟨h1, h2⟩ := this l [] List.Pairwise.nil
 exact ⟨h1, fun x => by rw [h2]; simp⟩
theorem srt7_same {l m : List P7} (h : ∀ x, x ∈ l ↔ x ∈ m) : srt7 l = srt7 m :=
 srt_unique (srt7_good l).1 (srt7_good m).1 fun x => by rw [(srt7_good l).2, (srt7_good m).2, h]
def hul7 (f : P7 -> P7 -> P7 -> Bool) (l : List P7) : List P7 :=
 if (srt7 l).length = 1 then srt7 l else (st7 f (srt7 l)).reverse.dropLast ++ (st7 f (srt7 l).reverse).reverse.dropLast
theorem hul7_same {f : P7 -> P7 -> P7 -> Bool} {l m : List P7} (h : ∀ x, x ∈ l ↔ x ∈ m) : hul7 f l = hul7 f m := by unfold hul7; rw [srt7_same h]
theorem hul7_ok {f : P7 -> P7 -> P7 -> Bool} {l : List P7} (h : ∀ x ∈ l, ∀ y ∈ l, ∀ z ∈ l, f x y z = tf7 x y z) : hul7 f l = hul7 tf7 l := by
 have hm := (srt7_good l).2
 unfold hul7
 rw [st7_ok fun x hx y hy z hz => h x ((hm x).1 hx) y ((hm y).1 hy) z ((hm z).1 hz), st7_ok fun x hx y hy z hz => h x ((hm x).1 (by simpa using hx)) y ((hm y).1 (by simpa using hy)) z ((hm z).1 (by simpa using hz))]
theorem chains7 {s : List P7} (hs : s.Pairwise lt7) (h2 : 2 <= s.length) : ∃ a z : P7, lt7 a z /\ Good7 (fun p => p ∈ s) a z (st7 tf7 s) /\ Good7 (fun p => ng7 p ∈ s) (ng7 z) (ng7 a) ((st7 tf7 s.reverse).map ng7) := by
 match s, h2 with
 | a :: b :: r, _ =>
   have g1 := st7_good a (b :: r) (as7_pair.2 hs)
   have hr : ((a :: b :: r).reverse.map ng7).Pairwise lt7 := by
     rw [List.pairwise_map, List.pairwise_reverse]
     exact hs.imp fun h => lt7_ng.2 h
   obtain ⟨z, hz⟩ : ∃ z, z = (a :: b :: r).getLast (by simp) := ⟨_, rfl⟩
   have hzm : z ∈ b :: r := by rw [hz, List.getLast_cons (by simp)]; exact List.getLast_mem _
   have haz : lt7 a z := (List.pairwise_cons.1 hs).1 z hzm
   refine ⟨a, z, haz, by rw [hz]; exact g1, ?_⟩
   rw [st7_ng]
   have hne : (a :: b :: r).reverse.map ng7 ≠ [] := by simp
   obtain ⟨q, m, e⟩ := List.exists_cons_of_ne_nil hne
   have hq : q = ng7 z := by
     have h1 : ((a :: b :: r).reverse.map ng7).head? = some q := by rw [e]; rfl
     rw [List.head?_map, List.head?_reverse, List.getLast?_eq_some_getLast (by simp), <- hz] at h1
     simpa using h1.symm
   have hl : (q :: m).getLast (by simp) = ng7 a := by
     have h1 : ((a :: b :: r).reverse.map ng7).getLast? = some (ng7 a) := by rw [List.getLast?_map, List.getLast?_reverse]; rfl
     rw [e, List.getLast?_eq_some_getLast (by simp)] at h1
     simpa using h1
   rw [e] at hr ⊢
   have g2 := st7_good q m (as7_pair.2 hr)
   rw [hl, hq] at g2
   rw [hq]
   have ep : (fun p => p ∈ ng7 z :: m) = (fun p => ng7 p ∈ a :: b :: r) := funext fun p => by
     rw [<- hq, <- e]
     simp only [List.mem_map, List.mem_reverse, eq_iff_iff]
     constructor
     · rintro ⟨x, hx, rfl⟩; rw [ng7_ng]; exact hx
     · intro hx; exact ⟨_, hx, ng7_ng p⟩
   rw [ep] at g2
   exact g2
end Go.Proofs.YtpjbihfkedbenaaGreat
