/- The contract of the reference's Places. Conditions: the rows read. -/
import Derived.Test.YtpjbihfkedbenaaGreatHI
import Derived.Test.YtpjbihfkedbenaaGreatHK
namespace Go.Proofs.YtpjbihfkedbenaaGreat
open Go.RowKit Go.Lib
def Few7 (l : List P7) : Prop := (1 <= l.length /\ l.length <= 12) /\ ∀ p ∈ l, (0 <= p.x /\ p.x <= 39) /\ (0 <= p.y /\ p.y <= 39)
theorem Few7.ls {l : List P7} (h : Few7 l) : Ls7 l := ⟨by have := h.1; omega, fun p hp => by have := h.2 p hp; unfold P7.ok; omega⟩
theorem oz_one (w : World) (x y : Int) : Oz (w.alloc (.cells #[.int .i64 x, .int .i64 y] 31)) w.heap.size (.slice (some ⟨w.heap.size, 0, none⟩) 1 1) [⟨x, y⟩] :=
 ⟨rfl, Or.inr ⟨w.heap.size, 1, _, rfl, Nat.le_refl _, Blk.new w _ _, Nat.le_refl _, by unfold maxLen; omega, rfl, rfl⟩⟩
set_option maxRecDepth 100000 in
set_option maxHeartbeats 8000000 in
theorem rplaces_any (A : Option Addr) (n c : Nat) (w : World) (hA : Xz 2 w A n) (_ : n <= 9223372036854775807) :
   Calls Tryz.prog 6 #[.slice A n c] w fun e w' => (∃ (l : List P7) (v : Value), e = .returned v /\ Few7 l /\ Oz w' w.heap.size v l) /\ Below w.heap.size w w' := by
 have HA := Lib.hid hA; clear hA
 have HO1 := Lib.hid (oz_one w 3 4)
 have HB1 := Lib.hid ((Below.refl w.heap.size w).alloc (Nat.le_refl _) (.cells #[.int .i64 3, .int .i64 4] 31))
 go_enter Tryz.func6, Tryz.ntmps6
 go_wp2_with fail
 go_loopw [3, 4] (fun vv ii wr => ∃ (i : Nat) (l : List P7) (v1 : Value), v1 = vv /\ ii = .int .i64 i /\ (i <= n /\ i <= 12) /\ Few7 l /\ (0 < i -> l.length = i) /\ Oz wr w.heap.size v1 l /\ Below w.heap.size w wr) (fun _ ii _ => n - (intOf ii).toNat)
 case atStart => exact ⟨0, [⟨3, 4⟩], _, rfl, rfl, ⟨Nat.zero_le _, Nat.zero_le _⟩, ⟨⟨by simp, by simp⟩, fun p hp => by rw [List.mem_singleton] at hp; subst hp; simp⟩, fun h => absurd h (by omega), HO1.out, HB1.out⟩
 case round =>
   clear HO1 HB1
   obtain ⟨i, l, v1, rfl, rfl, hi, hf, hl, hown, hB⟩ := hrel
   have HL := Lib.hid hl; have HF := Lib.hid hf; have HOW := Lib.hid hown; have HB := Lib.hid hB; clear hl hf hown hB
   by_cases h1 : i < n
   case neg =>
     have hundef := un_none
     clear hi
     go_wp2_with fail
     go_ret
     exact ⟨⟨l, _, rfl, HF.out, HOW.out⟩, HB.out⟩
   case pos =>
     by_cases h2 : i < 12
     case neg =>
       have h2b : ¬ (i : Int) < 12 := by omega
       have h1b : (i : Int) < (n : Int) := by omega
       clear hi h2
       go_wp2_with fail
       go_ret
       exact ⟨⟨l, _, rfl, HF.out, HOW.out⟩, HB.out⟩
     case pos =>
       obtain ⟨b, o, u0, u1, rfl, hu0, hu1, hcell⟩ := HA.out.row2 h1
       have HCE := Lib.hid hcell
       have HPL := Lib.hid (fun W => rplace7_any u0 u1 W hu0 hu1)
       have hin := plc7_in u0 u1
       obtain ⟨d, hd⟩ : ∃ d, d = plc7 u0 u1 := ⟨_, rfl⟩
       rw [<- hd] at HPL hin
       obtain ⟨c0, c1⟩ := hcell wr HB.out
       have HIN := Lib.hid hin
       have q1 : (0 : Int) <= (i : Int) := by omega
       have q2 : (i : Int) < (n : Int) := by omega
       have q3 : (i : Int) < 12 := by omega
       have q5 : (i : Int) + 1 <= 9223372036854775807 := by omega
       have HI := Lib.hid h1; have HI2 := Lib.hid h2
       clear hcell hu0 hu1 hd hin hi
       by_cases h0 : i = 0
       case pos =>
         have h0b : ((i : Int) == 0) = true := by rw [h0]; rfl
         have h0c : (i == 0) = true := by rw [h0]; rfl
         have HNF : Hid (Few7 ([] ++ [d])) := Lib.hid ⟨⟨by simp, by simp⟩, fun p hp => by rw [List.nil_append, List.mem_singleton] at hp; subst hp; exact HIN.out⟩
         have HNL : Hid (([] ++ [d] : List P7).length = i + 1) := Lib.hid (by rw [h0]; rfl)
         clear h1 h2 h0
         go_wp2_with fail
         refine (HPL.out _).mono ?_
         rintro e v0 ⟨rfl, hb⟩
         have HB0 := Lib.hid (HB.out.trans (hb.mono HB.out.size)); have HO0 : Hid (Oz v0 w.heap.size (.slice none 0 0) ([] : List P7)) := Lib.hid (OwnL.nil _ _)
         clear hb c0 c1
         go_wp2_with (at_builtin; refine wpList_append_one apP rfl _ _ rfl w.heap.size (.slice none 0 0) ([] : List P7) rfl (show Oz (v0.alloc (.cells #[.int .i64 d.x, .int .i64 d.y] 31)) _ _ _ from HO0.out.below ((Below.refl _ _).alloc (Nat.le_refl _) _)) v0.heap.size d rfl (Blk.new v0 _ _) (by simp) (by have := HB0.out.size; simp; omega) ?_; intro v4 w4 hown4 hgrow4; have HO4 := Lib.hid hown4; have HB4 := Lib.hid ((HB0.out.alloc HB0.out.size _).grown hgrow4 (HB0.out.alloc HB0.out.size _).size (fun k e => OwnL.block HO0.out e)); clear hown4 hgrow4)
         go_roundw
         case rel => exact ⟨i + 1, _, v4, rfl, by go_num, ⟨HI.out, HI2.out⟩, HNF.out, fun _ => HNL.out, HO4.out, HB4.out⟩
         case measure => have := HI.out; simp [intOf]; omega
       case neg =>
         have h0b : ((i : Int) == 0) = false := by rw [beq_eq_false_iff_ne]; omega
         have h0c : (i == 0) = false := by simpa using h0
         have hln := HL.out (by omega)
         have HLN := Lib.hid hln
         have HNF : Hid (Few7 (l ++ [d])) := Lib.hid ⟨⟨by simp, by simp; omega⟩, fun p hp => by
           rcases List.mem_append.1 hp with hp | hp
           · exact HF.out.2 p hp
           · rw [List.mem_singleton] at hp; subst hp; exact HIN.out⟩
         have HNL : Hid ((l ++ [d]).length = i + 1) := Lib.hid (by simp; omega)
         clear hln
         clear h1 h2 h0
         go_wp2_with fail
         refine (HPL.out _).mono ?_
         rintro e v0 ⟨rfl, hb⟩
         have HB0 := Lib.hid (HB.out.trans (hb.mono HB.out.size)); have HO0 : Hid (Oz v0 w.heap.size (v1) l) := Lib.hid (HOW.out.below hb)
         clear hb c0 c1
         go_wp2_with (at_builtin; refine wpList_append_one apP rfl _ _ rfl w.heap.size (v1) l rfl (show Oz (v0.alloc (.cells #[.int .i64 d.x, .int .i64 d.y] 31)) _ _ _ from HO0.out.below ((Below.refl _ _).alloc (Nat.le_refl _) _)) v0.heap.size d rfl (Blk.new v0 _ _) (by have := HLN.out; have := HI2.out; omega) (by have := HB0.out.size; simp; omega) ?_; intro v4 w4 hown4 hgrow4; have HO4 := Lib.hid hown4; have HB4 := Lib.hid ((HB0.out.alloc HB0.out.size _).grown hgrow4 (HB0.out.alloc HB0.out.size _).size (fun k e => OwnL.block HO0.out e)); clear hown4 hgrow4)
         go_roundw
         case rel => exact ⟨i + 1, _, v4, rfl, by go_num, ⟨HI.out, HI2.out⟩, HNF.out, fun _ => HNL.out, HO4.out, HB4.out⟩
         case measure => have := HI.out; simp [intOf]; omega
end Go.Proofs.YtpjbihfkedbenaaGreat
