import Derived.Test.YtfmkgppkgmjpfaaGreatDoorSlmQb2
import Derived.Test.YtfmkgppkgmjpfaaGreatDoorSlmQb0
import Derived.Test.YtfmkgppkgmjpfaaGreatDoorSlmQb1
import Derived.Sort.Walk0
import Derived.BigQuiet
import Derived.Deep.Cut
namespace Go.Proofs.YtfmkgppkgmjpfaaGreatDoor
section
open Go.RowKit Go.Deep
set_option maxHeartbeats 8000000 in
set_option maxRecDepth 100000 in
theorem z68 (be bt ce cn : Nat) (es : List Ef) (ns : List Nd) (T : Bool) (w : World) (hce : es.length ≤ ce) (hbe : be < w.heap.size) (hbt : bt < w.heap.size) (hE : EffsAt w be 0 es) (hN : NodesAt w bt 0 ns) (me : es.length ≤ 1048576) (mn : ns.length ≤ 1048576) (hTT : ∀ w' : World, bt < w'.heap.size → NodesAt w' bt 0 ns → Calls Tryz.prog 44 #[.slice (some ⟨bt, 0, none⟩) ns.length cn] w' fun e w'' => e = .returned (.bool T) ∧ Below w'.heap.size w' w'') :
   Calls Tryz.prog 24 #[.agg #[.slice (some ⟨be, 0, none⟩) es.length ce, .slice (some ⟨bt, 0, none⟩) ns.length cn]] w fun e w' => e = .returned (.bool (progZ es ns T)) ∧ Below w.heap.size w w' := by
 have hb1 : Below w.heap.size w (w.alloc (.cells #[.slice (some ⟨be, 0, none⟩) es.length ce, .slice (some ⟨bt, 0, none⟩) ns.length cn] 55)) := (Below.refl _ _).alloc (Nat.le_refl _) _
 have HT : Hid (Calls _ _ _ _ _) := hTT (w.alloc (.cells #[.slice (some ⟨be, 0, none⟩) es.length ce, .slice (some ⟨bt, 0, none⟩) ns.length cn] 55)) (Nat.lt_of_lt_of_le hbt hb1.size) (hN.below hb1 hbt)
 have HB1 : Hid (Below w.heap.size w (w.alloc (.cells #[.slice (some ⟨be, 0, none⟩) es.length ce, .slice (some ⟨bt, 0, none⟩) ns.length cn] 55))) := hb1
 have HK1 : Hid ((w.alloc (.cells #[.slice (some ⟨be, 0, none⟩) es.length ce, .slice (some ⟨bt, 0, none⟩) ns.length cn] 55)).heap[w.heap.size]? = some (.cells #[.slice (some ⟨be, 0, none⟩) es.length ce, .slice (some ⟨bt, 0, none⟩) ns.length cn] 55)) := (MapKept.heap_alloc w _).1
 obtain ⟨R, hR⟩ : ∃ R, progZ es ns T = R := ⟨_, rfl⟩
 have HR : Hid (progZ es ns T = R) := hR
 have HE : Hid (EffsAt w be 0 es) := hE
 have HN : Hid (NodesAt w bt 0 ns) := hN
 have HMN : Hid (ns.length ≤ 1048576) := mn
 rw [hR]
 obtain ⟨len, hlen⟩ : ∃ len, es.length = len := ⟨_, rfl⟩
 obtain ⟨ln, hln⟩ : ∃ ln, ns.length = ln := ⟨_, rfl⟩
 have Hlen : Hid (es.length = len ∧ ns.length = ln) := ⟨hlen, hln⟩
 rw [hlen, hln] at HT HB1 HK1 ⊢
 have HCe : Hid (len ≤ ce) := by show _ ≤ _; omega
 clear hce
 have HM : Hid (len ≤ 1048576 ∧ ln ≤ 1048576) := by show _ ∧ _; omega
 clear hb1 hR hE hN me mn hTT hlen hln
 by_cases h8 : (8 : Int) < (len : Int)
 · have HF : Hid (R = false) := by
     show R = false
     rw [← HR.out, progZ, Hlen.out.1, decide_eq_false (by omega), Bool.false_and]
   clear HT HE HN HK1
   go_enter Tryz.func24, Tryz.ntmps24
   go_wp2_with fail
   go_ret
   exact ⟨by rw [HF.out]; rfl, HB1.out⟩
 have h8' : (len : Int) ≤ 8 := by omega
 have HR8 : Hid ((T && ((List.range len).all (effOk es) && ns.all (nodeHas es))) = R) := by
   show _ = R
   rw [← HR.out, progZ, Hlen.out.1, decide_eq_true (by omega), Bool.true_and]
 clear h8
 go_enter Tryz.func24, Tryz.ntmps24
 go_wp2_with fail
 refine HT.out.mono ?_
 rintro e w2 ⟨rfl, hb2⟩
 have hbw2 := HB1.out.trans (hb2.mono HB1.out.size)
 have kp2 := (hb2.block w.heap.size (by simp)).trans HK1.out
 clear HT HB1 HK1 hb2
 cases T with
 | false =>
   go_wp2_with fail
   go_ret
   exact ⟨by rw [← HR8.out]; rfl, hbw2⟩
 | true =>
   have HRR : Hid (((List.range len).all (effOk es) && ns.all (nodeHas es)) = R) := HR8.out
   clear HR8 HR
   go_wp2_with fail
   go_loopw [3] (fun i wr => ∃ i' : Nat, i = .int .i64 i' ∧ i' ≤ len ∧ Hid ((List.range i').all (effOk es) = true) ∧ wr.heap[w.heap.size]? = some (.cells #[.slice (some ⟨be, 0, none⟩) len ce, .slice (some ⟨bt, 0, none⟩) ln cn] 55) ∧ Below w.heap.size w wr) (fun i _ => len - (intOf i).toNat)
   case atStart => exact ⟨0, rfl, Nat.zero_le _, rfl, kp2, hbw2⟩
   case round =>
     obtain ⟨i', rfl, hle, HI, kp, hbx⟩ := hrel
     have hAlt := z26 kp
     have pA := z11 kp 0
     have pB := z11 kp 1
     simp at pA pB
     have hEx := HE.out.below hbx hbe
     by_cases hlt : (i' : Int) < (len : Int)
     · have hic : (i' : Int) ≤ (ce : Int) := by have := HCe.out; omega
       have hil : i' < es.length := by rw [Hlen.out.1]; omega
       have c0 := hEx i' hil 0 (by omega)
       have c1 := hEx i' hil 1 (by omega)
       have c2 := hEx i' hil 2 (by omega)
       obtain ⟨ef, hef⟩ : ∃ ef, es.getD i' default = ef := ⟨_, rfl⟩
       have hF : effOk es i' = false → Hid (R = false) := fun h => by
         show R = false
         have := range_false hil h
         rw [Hlen.out.1] at this
         rw [← HRR.out, this, Bool.false_and]
       have hS : effOk es i' = true → Hid ((List.range (i' + 1)).all (effOk es) = true) := fun h => range_step HI.out h
       have hdef : effOk es i' = (nameOk ef.name && (!effIn (es.take i') ef.name && (decide (1 ≤ ef.arg ∧ ef.arg ≤ 4) && decide (1 ≤ ef.res ∧ ef.res ≤ 4)))) := by rw [effOk, hef]
       rw [hdef] at hF hS
       rw [hef] at c0 c1 c2
       simp only [Ef.cell, Nat.add_zero, Nat.zero_add] at c0 c1 c2
       have hpl := effPlace_lt (es.take i') ef.name 0
       have htl : (es.take i').length = i' := by simp; omega
       have HP : Hid (∀ w, EffsAt w be 0 es → _) := fun w h => l2Eff_calls (some ⟨be, 0, none⟩) ce (es.take i') ef.name w (by rw [htl]; have := HM.out; omega) (fun _ => ⟨be, 0, rfl, effsTake h⟩)
       rw [htl] at HP
       have hLn : ∀ w, _ := fun w => specName_calls ef.name w
       have hbW : Below w.heap.size w (wr.alloc (.cells #[.string ef.name, .int .i64 ef.arg, .int .i64 ef.res] 112)) := hbx.alloc (by have := hbx.size; omega) _
       have HEW : Hid (EffsAt (wr.alloc (.cells #[.string ef.name, .int .i64 ef.arg, .int .i64 ef.res] 112)) be 0 es) := HE.out.below hbW hbe
       obtain ⟨nm, ar, rs⟩ := ef
       dsimp only at *
       clear hEx hil hdef hef HI HE htl
       generalize effPlace (es.take i') nm 0 = pl at *
       generalize effIn (es.take i') nm = ein at *
       go_wp2_with fail
       have u0 : (wr.alloc (.cells #[.string nm, .int .i64 ar, .int .i64 rs] 112)).cell? ⟨wr.heap.size, 0, none⟩ = some (.string nm) := by simp [go_sem]
       have u1 : (wr.alloc (.cells #[.string nm, .int .i64 ar, .int .i64 rs] 112)).cell? ⟨wr.heap.size, 1, none⟩ = some (.int .i64 ar) := by simp [go_sem]
       have u2 : (wr.alloc (.cells #[.string nm, .int .i64 ar, .int .i64 rs] 112)).cell? ⟨wr.heap.size, 2, none⟩ = some (.int .i64 rs) := by simp [go_sem]
       have kpW := (Below.heap_alloc wr (.cells #[.string nm, .int .i64 ar, .int .i64 rs] 112) _ hAlt).trans kp
       have uA := z11 kpW 0
       simp at uA
       have hEW : wr.heap.size < (wr.alloc (.cells #[.string nm, .int .i64 ar, .int .i64 rs] 112)).heap.size := by simp
       have hAW : w.heap.size < (wr.alloc (.cells #[.string nm, .int .i64 ar, .int .i64 rs] 112)).heap.size := by simp; omega
       have hbeW : be < (wr.alloc (.cells #[.string nm, .int .i64 ar, .int .i64 rs] 112)).heap.size := by simp; omega
       generalize (wr.alloc (.cells #[.string nm, .int .i64 ar, .int .i64 rs] 112)) = W at *
       have HED : Hid (EffsAt W be 0 es) := HEW.out
       have v0 : ∀ x : Later W.heap.size W, x.w.cell? ⟨wr.heap.size, 0, none⟩ = some (.string nm) := fun x => x.cell hEW u0
       have v1 : ∀ x : Later W.heap.size W, x.w.cell? ⟨wr.heap.size, 1, none⟩ = some (.int .i64 ar) := fun x => x.cell hEW u1
       have v2 : ∀ x : Later W.heap.size W, x.w.cell? ⟨wr.heap.size, 2, none⟩ = some (.int .i64 rs) := fun x => x.cell hEW u2
       have vA : ∀ x : Later W.heap.size W, x.w.cell? ⟨w.heap.size, 0, none⟩ = some (.slice (some ⟨be, 0, none⟩) len ce) := fun x => x.cell hAW uA
       clear c0 c1 c2 pA pB kp HEW
       cases hno : nameOk nm with
       | false =>
         have HF := hF (by rw [hno]; rfl)
         rw [hno] at hLn
         have HL : Hid (∀ w, _) := hLn
         clear hF hS hLn hpl
         refine z30 W.heap.size (by kernel_rfl) (by kernel_rfl) ?_
         repeat (go_big_quiet_step (first
           | (rename_i x; go_at_call 45; refine (HL.out _).mono ?_; rintro e w5 ⟨rfl, hb5⟩; exact ⟨rfl, ⟨w5, x.h.trans (hb5.mono x.h.size)⟩, rfl⟩)
           | (rename_i x; go_at_call 46; refine (HP.out _ (HED.out.below x.h hbeW)).mono ?_; rintro e w6 ⟨rfl, rfl⟩; exact ⟨rfl, x, rfl⟩)))
         refine wpQuiet_nil ?_
         rintro w5 ⟨x, rfl⟩
         all_goals
           have hx := hbW.trans (x.h.mono hbW.size)
           clear u0 u1 u2 uA v0 v1 v2 vA
           go_wp2_with fail
           go_ret
           exact ⟨by rw [HF.out]; rfl, hx⟩
       | true =>
         rw [hno] at hLn
         have HL : Hid (∀ w, _) := hLn
         rw [hno] at hF hS
         clear hLn
         by_cases hp0 : 0 ≤ pl
         · have hei : ein = true := by
             cases hx : ein with
             | true => rfl
             | false => have := hpl.2 hx; omega
           have HF := hF (by rw [hei]; rfl)
           clear hF hS hpl hei
           refine z30 W.heap.size (by kernel_rfl) (by kernel_rfl) ?_
           repeat (go_big_quiet_step (first
             | (rename_i x; go_at_call 45; refine (HL.out _).mono ?_; rintro e w5 ⟨rfl, hb5⟩; exact ⟨rfl, ⟨w5, x.h.trans (hb5.mono x.h.size)⟩, rfl⟩)
             | (rename_i x; go_at_call 46; refine (HP.out _ (HED.out.below x.h hbeW)).mono ?_; rintro e w6 ⟨rfl, rfl⟩; exact ⟨rfl, x, rfl⟩)))
           refine wpQuiet_nil ?_
           rintro w5 ⟨x, rfl⟩
           all_goals
             have hx := hbW.trans (x.h.mono hbW.size)
             clear u0 u1 u2 uA v0 v1 v2 vA
             go_wp2_with fail
             go_ret
             exact ⟨by rw [HF.out]; rfl, hx⟩
         · have hei : ein = false := hpl.1 (by omega)
           have hp0 : pl < 0 := by omega
           rw [hei] at hF hS
           clear hpl hei
           by_cases g1 : ar < 1
           · have HF := hF (by rw [decide_eq_false (show ¬ (1 ≤ ar ∧ ar ≤ 4) by omega)]; rfl)
             clear hF hS
             refine z30 W.heap.size (by kernel_rfl) (by kernel_rfl) ?_
             repeat (go_big_quiet_step (first
               | (rename_i x; go_at_call 45; refine (HL.out _).mono ?_; rintro e w5 ⟨rfl, hb5⟩; exact ⟨rfl, ⟨w5, x.h.trans (hb5.mono x.h.size)⟩, rfl⟩)
               | (rename_i x; go_at_call 46; refine (HP.out _ (HED.out.below x.h hbeW)).mono ?_; rintro e w6 ⟨rfl, rfl⟩; exact ⟨rfl, x, rfl⟩)))
             refine wpQuiet_nil ?_
             rintro w5 ⟨x, rfl⟩
             all_goals
               have hx := hbW.trans (x.h.mono hbW.size)
               clear u0 u1 u2 uA v0 v1 v2 vA
               go_wp2_with fail
               go_ret
               exact ⟨by rw [HF.out]; rfl, hx⟩
           · have g1 : 1 ≤ ar := by omega
             by_cases g2 : 4 < ar
             · have HF := hF (by rw [decide_eq_false (show ¬ (1 ≤ ar ∧ ar ≤ 4) by omega)]; rfl)
               clear hF hS
               refine z30 W.heap.size (by kernel_rfl) (by kernel_rfl) ?_
               repeat (go_big_quiet_step (first
                 | (rename_i x; go_at_call 45; refine (HL.out _).mono ?_; rintro e w5 ⟨rfl, hb5⟩; exact ⟨rfl, ⟨w5, x.h.trans (hb5.mono x.h.size)⟩, rfl⟩)
                 | (rename_i x; go_at_call 46; refine (HP.out _ (HED.out.below x.h hbeW)).mono ?_; rintro e w6 ⟨rfl, rfl⟩; exact ⟨rfl, x, rfl⟩)))
               refine wpQuiet_nil ?_
               rintro w5 ⟨x, rfl⟩
               all_goals
                 have hx := hbW.trans (x.h.mono hbW.size)
                 clear u0 u1 u2 uA v0 v1 v2 vA
                 go_wp2_with fail
                 go_ret
                 exact ⟨by rw [HF.out]; rfl, hx⟩
             · have g2 : ar ≤ 4 := by omega
               by_cases g3 : rs < 1
               · have HF := hF (by rw [decide_eq_false (show ¬ (1 ≤ rs ∧ rs ≤ 4) by omega), Bool.and_false]; rfl)
                 clear hF hS
                 refine z30 W.heap.size (by kernel_rfl) (by kernel_rfl) ?_
                 repeat (go_big_quiet_step (first
                   | (rename_i x; go_at_call 45; refine (HL.out _).mono ?_; rintro e w5 ⟨rfl, hb5⟩; exact ⟨rfl, ⟨w5, x.h.trans (hb5.mono x.h.size)⟩, rfl⟩)
                   | (rename_i x; go_at_call 46; refine (HP.out _ (HED.out.below x.h hbeW)).mono ?_; rintro e w6 ⟨rfl, rfl⟩; exact ⟨rfl, x, rfl⟩)))
                 refine wpQuiet_nil ?_
                 rintro w5 ⟨x, rfl⟩
                 all_goals
                   have hx := hbW.trans (x.h.mono hbW.size)
                   clear u0 u1 u2 uA v0 v1 v2 vA
                   go_wp2_with fail
                   go_ret
                   exact ⟨by rw [HF.out]; rfl, hx⟩
               · have g3 : 1 ≤ rs := by omega
                 by_cases g4 : 4 < rs
                 · have HF := hF (by rw [decide_eq_false (show ¬ (1 ≤ rs ∧ rs ≤ 4) by omega), Bool.and_false]; rfl)
                   clear hF hS
                   refine z30 W.heap.size (by kernel_rfl) (by kernel_rfl) ?_
                   repeat (go_big_quiet_step (first
                     | (rename_i x; go_at_call 45; refine (HL.out _).mono ?_; rintro e w5 ⟨rfl, hb5⟩; exact ⟨rfl, ⟨w5, x.h.trans (hb5.mono x.h.size)⟩, rfl⟩)
                     | (rename_i x; go_at_call 46; refine (HP.out _ (HED.out.below x.h hbeW)).mono ?_; rintro e w6 ⟨rfl, rfl⟩; exact ⟨rfl, x, rfl⟩)))
                   refine wpQuiet_nil ?_
                   rintro w5 ⟨x, rfl⟩
                   all_goals
                     have hx := hbW.trans (x.h.mono hbW.size)
                     clear u0 u1 u2 uA v0 v1 v2 vA
                     go_wp2_with fail
                     go_ret
                     exact ⟨by rw [HF.out]; rfl, hx⟩
                 · have g4 : rs ≤ 4 := by omega
                   have HS := hS (by rw [decide_eq_true (show 1 ≤ ar ∧ ar ≤ 4 from ⟨g1, g2⟩), decide_eq_true (show 1 ≤ rs ∧ rs ≤ 4 from ⟨g3, g4⟩)]; rfl)
                   clear hF hS
                   refine z30 W.heap.size (by kernel_rfl) (by kernel_rfl) ?_
                   repeat (go_big_quiet_step (first
                     | (rename_i x; go_at_call 45; refine (HL.out _).mono ?_; rintro e w5 ⟨rfl, hb5⟩; exact ⟨rfl, ⟨w5, x.h.trans (hb5.mono x.h.size)⟩, rfl⟩)
                     | (rename_i x; go_at_call 46; refine (HP.out _ (HED.out.below x.h hbeW)).mono ?_; rintro e w6 ⟨rfl, rfl⟩; exact ⟨rfl, x, rfl⟩)))
                   refine wpQuiet_nil ?_
                   rintro w5 ⟨x, rfl⟩
                   all_goals
                     have hx := hbW.trans (x.h.mono hbW.size)
                     have kp5 := (x.h.block w.heap.size hAW).trans kpW
                     clear u0 u1 u2 uA v0 v1 v2 vA
                     go_wp2_with fail
                     have hs : len - (intOf (.int .i64 ((i' + 1 : Nat) : Int))).toNat < len - (intOf (.int .i64 (i' : Int))).toNat := by simp only [intOf, Int.toNat_natCast]; omega
                     try rw [show wrap64 ((i' : Int) + 1) = ((i' + 1 : Nat) : Int) by have := HM.out; unfold wrap64; omega]
                     exact ⟨⟨i' + 1, rfl, by omega, HS, kp5, hx⟩, hs⟩
     · have e : i' = len := by omega
       subst e
       have HR2 : Hid (ns.all (nodeHas es) = R) := by
         show _ = R
         rw [← HRR.out, HI.out, Bool.true_and]
       clear HRR HI hEx
       go_wp2_with fail
       clear pA pB
       go_loopw [5] (fun j wr => ∃ k : Nat, j = .int .i64 k ∧ k ≤ ln ∧ Hid ((ns.take k).all (nodeHas es) = true) ∧ wr.heap[w.heap.size]? = some (.cells #[.slice (some ⟨be, 0, none⟩) i' ce, .slice (some ⟨bt, 0, none⟩) ln cn] 55) ∧ Below w.heap.size w wr) (fun j _ => ln - (intOf j).toNat)
       case atStart => exact ⟨0, rfl, Nat.zero_le _, rfl, kp, hbx⟩
       case round =>
         clear kp hbx hAlt
         obtain ⟨k, rfl, hk, HI, kp, hbx⟩ := hrel
         have hAlt := z26 kp
         have pA := z11 kp 0
         have pB := z11 kp 1
         simp at pA pB
         by_cases hlt : (k : Int) < (ln : Int)
         · have hil : k < ns.length := by rw [Hlen.out.2]; omega
           have hNx := HN.out.below hbx hbt
           have c0 := hNx k hil 0 (by omega)
           have c1 := hNx k hil 1 (by omega)
           have c2 := hNx k hil 2 (by omega)
           have c3 := hNx k hil 3 (by omega)
           have c4 := hNx k hil 4 (by omega)
           have c5 := hNx k hil 5 (by omega)
           obtain ⟨nd, hnd⟩ : ∃ nd, ns.getD k default = nd := ⟨_, rfl⟩
           have hF : nodeHas es nd = false → Hid (R = false) := fun h => by
             show R = false
             rw [← HR2.out]
             exact has_false hil (by rw [hnd]; exact h)
           have hS : nodeHas es nd = true → Hid ((ns.take (k + 1)).all (nodeHas es) = true) := fun h => has_step hil HI.out (by rw [hnd]; exact h)
           rw [hnd] at c0 c1 c2 c3 c4 c5
           simp only [Nd.cell, Nat.add_zero, Nat.zero_add] at c0 c1 c2 c3 c4 c5
           obtain ⟨kd, num, a, bb, cc, kids⟩ := nd
           dsimp only at *
           have hpl := effPlace_lt es a 0
           have hszx := hbx.size
           have HP : Hid (∀ w', EffsAt w' be 0 es → _) := fun w' h => l2Eff_calls (some ⟨be, 0, none⟩) ce es a w' (by rw [Hlen.out.1]; have := HM.out; omega) (fun _ => ⟨be, 0, rfl, h⟩)
           rw [Hlen.out.1] at HP
           have HEx : Hid (EffsAt wr be 0 es) := HE.out.below hbx hbe
           have hbeR : be < wr.heap.size := by omega
           simp only [nodeHas] at hF hS
           clear hNx hil hnd HI
           generalize effPlace es a 0 = pl at *
           generalize effIn es a = ein at *
           have hq : (kd == 22) = true ∨ ((kd == 22) = false ∧ (kd == 26) = true) ∨ ((kd == 22) = false ∧ (kd == 26) = false) := by
             cases (kd == 22) <;> cases (kd == 26) <;> simp
           rcases hq with k22 | ⟨k22, k26⟩ | ⟨k22, k26⟩
           · by_cases hp : pl < 0
             · have hei : ein = false := hpl.1 hp
               have HF := hF (by rw [hei, k22]; rfl)
               clear hF hS hpl
               go_wp2_with fail
               refine (HP.out _ (HEx.out.below ((Below.refl _ _).alloc (Nat.le_refl _) _) hbeR)).mono ?_
               rintro e w6 ⟨rfl, rfl⟩
               go_wp2_with fail
               go_ret
               exact ⟨by rw [HF.out]; rfl, hbx.alloc hszx _⟩
             · have hei : ein = true := by
                 cases hx : ein with
                 | true => rfl
                 | false => exact absurd (hpl.2 hx) hp
               have HS := hS (by rw [hei]; simp)
               clear hF hS hpl
               go_wp2_with fail
               refine (HP.out _ (HEx.out.below ((Below.refl _ _).alloc (Nat.le_refl _) _) hbeR)).mono ?_
               rintro e w6 ⟨rfl, rfl⟩
               go_wp2_with fail
               have hs : ln - (intOf (.int .i64 ((k + 1 : Nat) : Int))).toNat < ln - (intOf (.int .i64 (k : Int))).toNat := by simp only [intOf, Int.toNat_natCast]; omega
               try rw [show wrap64 ((k : Int) + 1) = ((k + 1 : Nat) : Int) by have := HM.out; unfold wrap64; omega]
               exact ⟨⟨k + 1, rfl, by omega, HS, (Below.heap_alloc _ _ _ hAlt).trans kp, hbx.alloc hszx _⟩, hs⟩
           · by_cases hp : pl < 0
             · have hei : ein = false := hpl.1 hp
               have HF := hF (by rw [hei, k26]; simp)
               clear hF hS hpl
               go_wp2_with fail
               refine (HP.out _ (HEx.out.below ((Below.refl _ _).alloc (Nat.le_refl _) _) hbeR)).mono ?_
               rintro e w6 ⟨rfl, rfl⟩
               go_wp2_with fail
               go_ret
               exact ⟨by rw [HF.out]; rfl, hbx.alloc hszx _⟩
             · have hei : ein = true := by
                 cases hx : ein with
                 | true => rfl
                 | false => exact absurd (hpl.2 hx) hp
               have HS := hS (by rw [hei]; simp)
               clear hF hS hpl
               go_wp2_with fail
               refine (HP.out _ (HEx.out.below ((Below.refl _ _).alloc (Nat.le_refl _) _) hbeR)).mono ?_
               rintro e w6 ⟨rfl, rfl⟩
               go_wp2_with fail
               have hs : ln - (intOf (.int .i64 ((k + 1 : Nat) : Int))).toNat < ln - (intOf (.int .i64 (k : Int))).toNat := by simp only [intOf, Int.toNat_natCast]; omega
               try rw [show wrap64 ((k : Int) + 1) = ((k + 1 : Nat) : Int) by have := HM.out; unfold wrap64; omega]
               exact ⟨⟨k + 1, rfl, by omega, HS, (Below.heap_alloc _ _ _ hAlt).trans kp, hbx.alloc hszx _⟩, hs⟩
           · have HS := hS (by rw [k22, k26]; rfl)
             clear hF hS hpl HP
             go_wp2_with fail
             have hs : ln - (intOf (.int .i64 ((k + 1 : Nat) : Int))).toNat < ln - (intOf (.int .i64 (k : Int))).toNat := by simp only [intOf, Int.toNat_natCast]; omega
             try rw [show wrap64 ((k : Int) + 1) = ((k + 1 : Nat) : Int) by have := HM.out; unfold wrap64; omega]
             exact ⟨⟨k + 1, rfl, by omega, HS, (Below.heap_alloc _ _ _ hAlt).trans kp, hbx.alloc hszx _⟩, hs⟩
         · have e : k = ln := by omega
           have HT : Hid (R = true) := by
             show R = true
             rw [← HR2.out]
             have := HI.out
             rwa [List.take_of_length_le (by rw [Hlen.out.2]; omega)] at this
           clear HI
           go_wp2_with fail
           go_ret
           exact ⟨by rw [HT.out]; rfl, hbx⟩
end
section
open Go.RowKit
set_option maxHeartbeats 4000000 in
set_option maxRecDepth 100000 in
theorem own_some (k num : Int) (a b c : ByteArray) (kids : Int) (w : World) (hK : kidsOk k kids = true) (ar : Int) (har : arityZ k = ar) (h0 : 0 ≤ ar) (h3 : ar ≤ 3) (hne : (kids != ar) = false) :
   Calls Tryz.prog 72 #[.agg #[.int .i64 k, .int .i64 num, .string a, .string b, .string c, .int .i64 kids]] w fun e w' => e = .returned (.bool (ownOk ⟨k, num, a, b, c, kids⟩)) ∧ Below w.heap.size w w' := by
 have HN : Hid (∀ w, _) := names_calls k
 have hac := arity_calls k
 rw [har] at hac
 have HC : Hid (∀ w, _) := hac
 have hm1 : (ar == -1) = false := by rw [beq_eq_false_iff_ne]; omega
 have hm2 : (ar == -2) = false := by rw [beq_eq_false_iff_ne]; omega
 clear hac har
 go_enter Tryz.func72, Tryz.ntmps72
 go_wp2_with (first | (go_at_call 89; refine (HC.out _).mono ?_; rintro e w2 ⟨rfl, rfl⟩))
 go_loopw [5] (fun i wr => ∃ j : Nat, i = .int .i64 j ∧ j ≤ 3 ∧ Hid (∀ i, i < j → fit (namesZ k) i (Nd.nm ⟨k, num, a, b, c, kids⟩ i) = true) ∧ wr.heap[w.heap.size]? = some (.cells #[.int .i64 k, .int .i64 num, .string a, .string b, .string c, .int .i64 kids] 116) ∧ wr.heap[w.heap.size + 1]? = some (.cells #[.string a, .string b, .string c] 9) ∧ Below w.heap.size w wr) (fun i _ => 3 - (intOf i).toNat)
 case atStart =>
   have e1 := (MapKept.heap_alloc w (.cells #[.int .i64 k, .int .i64 num, .string a, .string b, .string c, .int .i64 kids] 116)).1
   refine ⟨0, rfl, by omega, fun i hi => by omega, ?_, ?_, ((Below.refl _ _).alloc (Nat.le_refl _) _).alloc (by simp) _⟩
   · rw [Below.heap_alloc _ _ _ (by simp)]
     exact e1
   · have := (MapKept.heap_alloc (w.alloc (.cells #[.int .i64 k, .int .i64 num, .string a, .string b, .string c, .int .i64 kids] 116)) (.cells #[.string a, .string b, .string c] 9)).1
     simpa using this
 case round =>
   obtain ⟨j, rfl, hj3, HA, eA, eN, hnx⟩ := hrel
   have a0 := z11 eA 0
   simp at a0
   have hltA := z26 eA
   have hltN := z26 eN
   by_cases hj : j < 3
   · have cN : wr.cell? ⟨w.heap.size + 1, j, none⟩ = some (.string (Nd.nm ⟨k, num, a, b, c, kids⟩ j)) := by
       rw [z11 eN j]
       match j, hj with
       | 0, _ => rfl
       | 1, _ => rfl
       | 2, _ => rfl
     have step : fit (namesZ k) j (Nd.nm ⟨k, num, a, b, c, kids⟩ j) = true → Hid (∀ i, i < j + 1 → fit (namesZ k) i (Nd.nm ⟨k, num, a, b, c, kids⟩ i) = true) := fun h i hi => by
       by_cases e : i = j
       · rw [e]
         exact h
       · exact HA.out i (by omega)
     have fin : fit (namesZ k) j (Nd.nm ⟨k, num, a, b, c, kids⟩ j) = false → Hid (ownOk ⟨k, num, a, b, c, kids⟩ = false) := fun h => by
       show ownOk _ = false
       have := fit_none (n := ⟨k, num, a, b, c, kids⟩) hj h
       simp [ownOk, this]
     have hLn := specName_calls (Nd.nm ⟨k, num, a, b, c, kids⟩ j)
     have hem := @empty_name (Nd.nm ⟨k, num, a, b, c, kids⟩ j)
     unfold fit at step fin
     generalize Nd.nm ⟨k, num, a, b, c, kids⟩ j = s at *
     generalize hnm : namesZ k = nm at *
     have eA' : Hid (wr.heap[w.heap.size]? = some (.cells #[.int .i64 k, .int .i64 num, .string a, .string b, .string c, .int .i64 kids] 116)) := eA
     have eN' : Hid (wr.heap[w.heap.size + 1]? = some (.cells #[.string a, .string b, .string c] 9)) := eN
     have hi3 : (j : Int) < 3 := by omega
     have htf : (true != false) = true := rfl
     have hft : (false != true) = true := rfl
     clear HA eA eN hnm
     by_cases hjn : (j : Int) < nm
     · rw [if_pos hjn] at step fin
       cases he : (s.toList == []) with
       | true =>
         have HF := fin (hem he)
         have HL : Hid (∀ w, _) := hLn
         clear hem step fin hLn
         go_wp2_with fail
         go_quiet (first | (go_at_call 90; refine Calls.quiet_of_same ((HN.out _).mono (fun _ _ h => ⟨h.1, h.2.symm⟩))))
         go_wp2_with fail
         go_ret
         exact ⟨by rw [HF.out]; rfl, z62 hnx _⟩
       | false =>
         cases hn : nameOk s with
         | true =>
           have HS := step hn
           rw [hn] at hLn
           have HL : Hid (∀ w, _) := hLn
           clear hem step fin hLn hn
           go_wp2_with fail
           go_region_held (fun w' => w'.cell? ⟨w.heap.size, 0, none⟩ = some (.int .i64 k) ∧ w'.cell? ⟨w.heap.size + 1, j, none⟩ = some (.string s)) (go_keep) (first | (go_at_call 90; refine (HN.out _).mono ?_; rintro e w2 ⟨rfl, rfl⟩) | (go_at_call 45; refine (HL.out _).mono ?_; rintro e w2 ⟨rfl, hb2⟩; have a0' := (hb2.cell (p := ⟨w.heap.size, 0, none⟩) hltA).trans a0; have cN' := (hb2.cell (p := ⟨w.heap.size + 1, j, none⟩) hltN).trans cN))
           all_goals
             have eA2 := (hb2.block w.heap.size hltA).trans eA'.out
             have eN2 := (hb2.block (w.heap.size + 1) hltN).trans eN'.out
             have hnx2 := hnx.drew.trans (hb2.mono hnx.size)
             clear hb2 a0 cN a0' cN'
             go_wp2_with fail
             exact ⟨⟨j + 1, by simp, by omega, HS, eA2, eN2, hnx2⟩, by simp [intOf]; omega⟩
         | false =>
           have HF := fin hn
           rw [hn] at hLn
           have HL : Hid (∀ w, _) := hLn
           clear hem step fin hLn hn
           go_wp2_with fail
           go_region_held (fun w' => w'.cell? ⟨w.heap.size, 0, none⟩ = some (.int .i64 k) ∧ w'.cell? ⟨w.heap.size + 1, j, none⟩ = some (.string s)) (go_keep) (first | (go_at_call 90; refine (HN.out _).mono ?_; rintro e w2 ⟨rfl, rfl⟩) | (go_at_call 45; refine (HL.out _).mono ?_; rintro e w2 ⟨rfl, hb2⟩; have a0' := (hb2.cell (p := ⟨w.heap.size, 0, none⟩) hltA).trans a0; have cN' := (hb2.cell (p := ⟨w.heap.size + 1, j, none⟩) hltN).trans cN))
           all_goals
             have hnx2 := hnx.drew.trans (hb2.mono hnx.size)
             clear hb2 a0 cN a0' cN'
             go_wp2_with fail
             go_ret
             exact ⟨by rw [HF.out]; rfl, hnx2⟩
     · rw [if_neg hjn] at step fin
       have hjd : decide ((j : Int) < nm) = false := decide_eq_false hjn
       have HL : Hid (∀ w, _) := hLn
       cases he : (s.toList == []) with
       | true =>
         have HS := step he
         clear hem step fin hLn
         go_wp2_with fail
         go_quiet (first | (go_at_call 90; refine Calls.quiet_of_same ((HN.out _).mono (fun _ _ h => ⟨h.1, h.2.symm⟩))))
         go_wp2_with fail
         exact ⟨⟨j + 1, by simp, by omega, HS, eA'.out, eN'.out, z62 hnx _⟩, by simp [intOf]; omega⟩
       | false =>
         have HF := fin he
         clear hem step fin hLn
         go_wp2_with fail
         go_quiet (first | (go_at_call 90; refine Calls.quiet_of_same ((HN.out _).mono (fun _ _ h => ⟨h.1, h.2.symm⟩))))
         go_wp2_with fail
         go_ret
         exact ⟨by rw [HF.out]; rfl, z62 hnx _⟩
   · have hnames : namesOk ⟨k, num, a, b, c, kids⟩ = true := fit_all (fun i hi => HA.out i (by omega))
     have hO : ownOk ⟨k, num, a, b, c, kids⟩ = (!(k == 20 && a.toList == b.toList) && numOk k num) := by simp [ownOk, hK, hnames, unlike]
     have a1 := z11 eA 1
     have a2 := z11 eA 2
     have a3 := z11 eA 3
     simp at a1 a2 a3
     have hnc := @names_case k
     have hm0 := @most_other k
     clear HA eA eN hnames
     generalize namesZ k = nm at *
     by_cases h20 : k = 20
     · subst h20
       have hnm1 : 1 < nm := hnc rfl
       cases hab : (a.toList == b.toList) with
       | true =>
         have HO : Hid (ownOk ⟨20, num, a, b, c, kids⟩ = false) := by show _ = _; rw [hO, hab]; rfl
         clear hO hnc hm0
         go_wp2_with (first | (go_at_call 90; refine (HN.out _).mono ?_; rintro e w2 ⟨rfl, rfl⟩))
         go_ret
         exact ⟨by rw [HO.out]; rfl, hnx⟩
       | false =>
         have HO : Hid (ownOk ⟨20, num, a, b, c, kids⟩ = (num == 0)) := by
           show _ = _
           rw [hO, hab, numOk, hm0 (by omega) (by omega), Bool.eq_iff_iff]
           simp
           omega
         clear hO hnc hm0
         go_wp2_with (first | (go_at_call 90; refine (HN.out _).mono ?_; rintro e w2 ⟨rfl, rfl⟩))
         go_ret
         exact ⟨by rw [HO.out]; rfl, hnx⟩
     · have h20' : (k == 20) = false := by rw [beq_eq_false_iff_ne]; exact h20
       rw [h20', Bool.false_and, Bool.not_false, Bool.true_and] at hO
       clear hnc h20
       by_cases h1 : k = 1
       · subst h1
         by_cases hn0 : 0 ≤ num
         · have HO : Hid (ownOk ⟨1, num, a, b, c, kids⟩ = decide (num ≤ 999999999)) := by
             exact hO.trans (num_one hn0)
           clear hO hm0 h20'
           go_wp2_with (first | (go_at_call 90; refine (HN.out _).mono ?_; rintro e w2 ⟨rfl, rfl⟩))
           all_goals
             go_ret
             exact ⟨by rw [HO.out]; rfl, hnx⟩
         · have HO : Hid (ownOk ⟨1, num, a, b, c, kids⟩ = false) := by
             exact hO.trans (num_one_neg hn0)
           clear hO hm0 h20'
           go_wp2_with (first | (go_at_call 90; refine (HN.out _).mono ?_; rintro e w2 ⟨rfl, rfl⟩))
           all_goals
             go_ret
             exact ⟨by rw [HO.out]; rfl, hnx⟩
       · by_cases h2 : k = 2
         · subst h2
           by_cases hn0 : num = 0
           · have hn0' : (num == 0) = true := by rw [hn0]; rfl
             have HO : Hid (ownOk ⟨2, num, a, b, c, kids⟩ = true) := by
               show _ = _
               rw [hO, numOk, most_two]
               simp
               omega
             clear hO hm0 h20' hn0
             go_wp2_with (first | (go_at_call 90; refine (HN.out _).mono ?_; rintro e w2 ⟨rfl, rfl⟩))
             all_goals
               go_ret
               exact ⟨by rw [HO.out]; rfl, hnx⟩
           · have hn0' : (num == 0) = false := by rw [beq_eq_false_iff_ne]; exact hn0
             have HO : Hid (ownOk ⟨2, num, a, b, c, kids⟩ = (num == 1)) := by
               show _ = _
               rw [hO, numOk, most_two, Bool.eq_iff_iff]
               simp
               omega
             clear hO hm0 h20' hn0
             go_wp2_with (first | (go_at_call 90; refine (HN.out _).mono ?_; rintro e w2 ⟨rfl, rfl⟩))
             all_goals
               go_ret
               exact ⟨by rw [HO.out]; rfl, hnx⟩
         · have HO : Hid (ownOk ⟨k, num, a, b, c, kids⟩ = (num == 0)) := by
             exact hO.trans (num_zero (hm0 h1 h2))
           have h1' : (k == 1) = false := by rw [beq_eq_false_iff_ne]; exact h1
           have h2' : (k == 2) = false := by rw [beq_eq_false_iff_ne]; exact h2
           clear hO hm0 h1 h2
           go_wp2_with (first | (go_at_call 90; refine (HN.out _).mono ?_; rintro e w2 ⟨rfl, rfl⟩))
           all_goals
             go_ret
             exact ⟨by rw [HO.out]; rfl, hnx⟩
set_option maxHeartbeats 2000000 in
set_option maxRecDepth 100000 in
theorem own_calls (n : Nd) (w : World) :
   Calls Tryz.prog 72 #[.agg #[.int .i64 n.kind, .int .i64 n.num, .string n.a, .string n.b, .string n.c, .int .i64 n.kids]] w fun e w' => e = .returned (.bool (ownOk n)) ∧ Below w.heap.size w w' := by
 obtain ⟨k, num, a, b, c, kids⟩ := n
 dsimp only
 have har := arity_range k
 have hac := arity_calls k
 cases hK : kidsOk k kids with
 | false =>
   have hO : Hid (ownOk ⟨k, num, a, b, c, kids⟩ = false) := by
     show ownOk _ = false
     simp [ownOk, hK]
   unfold kidsOk at hK
   generalize arityZ k = ar at *
   have HC : Hid (∀ w, _) := hac
   clear hac
   rcases har with rfl | rfl | ⟨h0, h3⟩
   · clear hK
     go_enter Tryz.func72, Tryz.ntmps72
     go_wp2_with (first | (go_at_call 89; refine (HC.out _).mono ?_; rintro e w2 ⟨rfl, rfl⟩))
     go_ret
     exact ⟨by rw [hO.out]; rfl, (Below.refl _ _).alloc (Nat.le_refl _) _⟩
   · rw [if_neg (by omega), if_pos rfl] at hK
     simp at hK
     by_cases h2 : kids < 2
     · clear hK
       go_enter Tryz.func72, Tryz.ntmps72
       go_wp2_with (first | (go_at_call 89; refine (HC.out _).mono ?_; rintro e w2 ⟨rfl, rfl⟩))
       go_ret
       exact ⟨by rw [hO.out]; rfl, (Below.refl _ _).alloc (Nat.le_refl _) _⟩
     · have h6 : 6 < kids := hK (by omega)
       clear hK
       go_enter Tryz.func72, Tryz.ntmps72
       go_wp2_with (first | (go_at_call 89; refine (HC.out _).mono ?_; rintro e w2 ⟨rfl, rfl⟩))
       go_ret
       exact ⟨by rw [hO.out]; rfl, (Below.refl _ _).alloc (Nat.le_refl _) _⟩
   · rw [if_neg (by omega), if_neg (by omega)] at hK
     have hne : (kids != ar) = true := by simpa using hK
     have hm1 : (ar == -1) = false := by rw [beq_eq_false_iff_ne]; omega
     clear hK
     go_enter Tryz.func72, Tryz.ntmps72
     go_wp2_with (first | (go_at_call 89; refine (HC.out _).mono ?_; rintro e w2 ⟨rfl, rfl⟩))
     go_ret
     exact ⟨by rw [hO.out]; rfl, (Below.refl _ _).alloc (Nat.le_refl _) _⟩
 | true =>
   have hK' := hK
   unfold kidsOk at hK'
   rcases har with har | har | ⟨h0, h3⟩
   · rw [if_pos har] at hK'
     cases hK'
   · rw [if_neg (by omega), if_pos har] at hK'
     simp at hK'
     exact own_many k num a b c kids w hK har hK'.1 hK'.2
   · rw [if_neg (by omega), if_neg (by omega)] at hK'
     exact own_some k num a b c kids w hK _ rfl h0 h3 (by simpa using hK')
end
section
open Go.RowKit Go.Deep
set_option maxHeartbeats 4000000 in
set_option maxRecDepth 100000 in
theorem z55 (b off cap : Nat) (ns : List Nd) (w : World) (R : Bool) (hm : ns.length ≤ 1048576) (hbw : b < w.heap.size) (hn : NodesAt w b off ns) (hA : SpecAns ns R) :
   Calls Tryz.prog 44 #[.slice (some ⟨b, off, none⟩) ns.length cap] w fun e w' => e = .returned (.bool R) ∧ Below w.heap.size w w' := by
 by_cases hl : 1 ≤ ns.length ∧ ns.length ≤ 300
 · have hrest := hA.rest hl
   obtain ⟨len, hlen⟩ : ∃ len, ns.length = len := ⟨_, rfl⟩
   have Hlen : Hid (ns.length = len) := hlen
   have HR : Hid (Rest ns R ownOk (fun n k => specTree n k 0)) := hrest
   have HN : Hid (NodesAt w b off ns) := hn
   have HL : Hid (1 ≤ len ∧ len ≤ 300) := by show _ ∧ _; omega
   have h1 : (1 : Int) ≤ (len : Int) := by omega
   have h2 : (len : Int) ≤ 300 := by omega
   rw [hlen]
   clear hrest hn hA hl hm hlen
   go_enter Tryz.func44, Tryz.ntmps44
   go_wp2_with fail
   clear h1 h2
   go_loopw [3] (fun i wr => ∃ i' : Nat, i = .int .i64 i' ∧ i' ≤ len ∧ Hid ((ns.take i').all ownOk = true) ∧ Below w.heap.size w wr) (fun i _ => len - (intOf i).toNat)
   case atStart => exact ⟨0, rfl, Nat.zero_le _, rfl, Below.refl _ _⟩
   case round =>
     obtain ⟨i', rfl, hle, HT, hbx⟩ := hrel
     have hnx := HN.out.below hbx hbw
     by_cases hlt : (i' : Int) < (len : Int)
     · have hil : i' < ns.length := by rw [Hlen.out]; omega
       have c0 := hnx i' hil 0 (by omega)
       have c1 := hnx i' hil 1 (by omega)
       have c2 := hnx i' hil 2 (by omega)
       have c3 := hnx i' hil 3 (by omega)
       have c4 := hnx i' hil 4 (by omega)
       have c5 := hnx i' hil 5 (by omega)
       obtain ⟨n, hnn⟩ : ∃ n, ns.getD i' default = n := ⟨_, rfl⟩
       have hF : ownOk n = false → Hid (R = false) := fun h => HR.out.1 (all_false hil (by rw [hnn]; exact h))
       have hT : ownOk n = true → Hid ((ns.take (i' + 1)).all ownOk = true) := fun h => all_take_succ hil HT.out (by rw [hnn]; exact h)
       rw [hnn] at c0 c1 c2 c3 c4 c5
       simp only [Nd.cell, Nat.add_zero] at c0 c1 c2 c3 c4 c5
       have HO : Hid (∀ w, _) := own_calls n
       clear hnx hil hnn HT
       obtain ⟨kd, num, a, bb, cc, kids⟩ := n
       dsimp only at *
       go_wp2_with fail
       refine (HO.out _).mono ?_
       rintro e w2 ⟨rfl, hb2⟩
       have hb3 := hbx.trans (hb2.mono hbx.size)
       clear c0 c1 c2 c3 c4 c5 hb2 HO
       cases ho : ownOk ⟨kd, num, a, bb, cc, kids⟩ with
       | false =>
         have HF := hF ho
         clear hF hT
         go_wp2_with fail
         go_ret
         exact ⟨by rw [HF.out]; rfl, hb3⟩
       | true =>
         have HT := hT ho
         clear hF hT
         go_wp2_with fail
         have hs := z60 hlt
         try rw [z31 (by have := HL.out; omega)]
         exact ⟨⟨i' + 1, rfl, by omega, HT, hb3⟩, hs⟩
     · have e : i' = len := by omega
       subst e
       have hall : ns.all ownOk = true := by
         have := HT.out
         rwa [List.take_of_length_le (by rw [Hlen.out]; exact Nat.le_refl _)] at this
       have HX : Hid (∀ w, NodesAt w b off ns → _) := fun w h => z57 b off cap ns 0 w h (by rw [Hlen.out]; have := HL.out; omega)
       rw [Hlen.out] at HX
       rcases HR.out.2 hall with ⟨hne, hR⟩ | ⟨n, k, g1, g2, g3, g4, hR⟩
       · have hne' : (treeEnd ns 0 == (i' : Int)) = false := by rw [beq_eq_false_iff_ne]; rw [Hlen.out] at hne; exact hne
         clear HT hall hne
         generalize treeEnd ns 0 = te at *
         subst hR
         go_wp2_with fail
         refine (HX.out wr hnx).mono ?_
         rintro e w2 ⟨rfl, rfl⟩
         go_wp2_with fail
         go_ret
         exact ⟨rfl, hbx⟩
       · have hdr : ns.drop 0 = n :: (k.flat ++ []) := by rw [g1]; simp
         have HD : Hid (∀ w, NodesAt w b off ns → _) := fun w h => deep_calls b off cap ns (by rw [Hlen.out]; have := HL.out; omega) (k.flat.length + 1) n k [] 0 w h hdr g2 g3 (Nat.lt_succ_self _)
         have HC : Hid (∀ w, b < w.heap.size → NodesAt w b off ns → _) := fun w hb h => clauses_calls b off cap ns (by rw [Hlen.out]; have := HL.out; omega) (k.flat.length + 1) n k [] 0 0 w (by omega) hb h hdr g2 g3 (Nat.lt_succ_self _)
         rw [Hlen.out] at HD HC
         rw [g4, Hlen.out] at HX
         have HE : Hid (R = (specTree n k 0 && decide (k.deep + 1 ≤ 40))) := hR
         have hee : (((i' : Int)) == (i' : Int)) = true := by simp
         clear HT hall g1 g2 g3 g4 hdr hR HR
         generalize k.deep + 1 = dd at *
         go_wp2_with fail
         refine (HX.out wr hnx).mono ?_
         rintro e w2 ⟨rfl, rfl⟩
         go_wp2_with fail
         refine (HD.out wr hnx).mono ?_
         rintro e w2 ⟨rfl, rfl⟩
         by_cases hdd : (dd : Int) ≤ 40
         · go_wp2_with fail
           refine (HC.out wr (by have := hbx.size; omega) hnx).mono ?_
           rintro e w2 ⟨rfl, hb2⟩
           go_wp2_with fail
           go_ret
           refine ⟨?_, hbx.trans (hb2.mono hbx.size)⟩
           rw [HE.out, decide_eq_true (show dd ≤ 40 by omega), Bool.and_true]
           rfl
         · go_wp2_with fail
           go_ret
           refine ⟨?_, hbx⟩
           rw [HE.out, decide_eq_false (show ¬ dd ≤ 40 by omega), Bool.and_false]
           rfl
 · have hR : R = false := by
     rcases hA with ⟨_, h⟩ | ⟨h1, h2, _⟩ | ⟨h1, h2, _⟩
     · exact h
     · exact absurd ⟨h1, h2⟩ hl
     · exact absurd ⟨h1, h2⟩ hl
   subst hR
   have hl' : (ns.length : Int) < 1 ∨ ((1 : Int) ≤ (ns.length : Int) ∧ (300 : Int) < (ns.length : Int)) := by omega
   clear hA hm hn hl
   generalize ns.length = len at *
   rcases hl' with h | ⟨h, h'⟩
   all_goals
     go_enter Tryz.func44, Tryz.ntmps44
     go_wp2_with fail
     go_ret
     exact ⟨rfl, Below.refl _ _⟩
end
section
open Go.RowKit Go.Deep
set_option maxHeartbeats 8000000 in
set_option maxRecDepth 100000 in
theorem specProgN_calls (bt cn : Nat) (ns : List Nd) (T : Bool) (w : World) (hbt : bt < w.heap.size) (hN : NodesAt w bt 0 ns) (mn : ns.length ≤ 1048576) (hTT : ∀ w' : World, bt < w'.heap.size → NodesAt w' bt 0 ns → Calls Tryz.prog 44 #[.slice (some ⟨bt, 0, none⟩) ns.length cn] w' fun e w'' => e = .returned (.bool T) ∧ Below w'.heap.size w' w'') :
   Calls Tryz.prog 24 #[.agg #[.slice none 0 0, .slice (some ⟨bt, 0, none⟩) ns.length cn]] w fun e w' => e = .returned (.bool (progZ [] ns T)) ∧ Below w.heap.size w w' := by
 have hb1 : Below w.heap.size w (w.alloc (.cells #[.slice none 0 0, .slice (some ⟨bt, 0, none⟩) ns.length cn] 55)) := (Below.refl _ _).alloc (Nat.le_refl _) _
 have HT : Hid (Calls _ _ _ _ _) := hTT (w.alloc (.cells #[.slice none 0 0, .slice (some ⟨bt, 0, none⟩) ns.length cn] 55)) (Nat.lt_of_lt_of_le hbt hb1.size) (hN.below hb1 hbt)
 have HB1 : Hid (Below w.heap.size w (w.alloc (.cells #[.slice none 0 0, .slice (some ⟨bt, 0, none⟩) ns.length cn] 55))) := hb1
 have HK1 : Hid ((w.alloc (.cells #[.slice none 0 0, .slice (some ⟨bt, 0, none⟩) ns.length cn] 55)).heap[w.heap.size]? = some (.cells #[.slice none 0 0, .slice (some ⟨bt, 0, none⟩) ns.length cn] 55)) := (MapKept.heap_alloc w _).1
 obtain ⟨R, hR⟩ : ∃ R, progZ [] ns T = R := ⟨_, rfl⟩
 have HR8 : Hid ((T && ns.all (nodeHas [])) = R) := by
   show _ = R
   rw [← hR]
   simp [progZ]
 have HN : Hid (NodesAt w bt 0 ns) := hN
 rw [hR]
 obtain ⟨ln, hln⟩ : ∃ ln, ns.length = ln := ⟨_, rfl⟩
 have Hlen : Hid (ns.length = ln) := hln
 rw [hln] at HT HB1 HK1 ⊢
 have HM : Hid (ln ≤ 1048576) := by show _ ≤ _; omega
 clear hb1 hR hN mn hTT hln
 go_enter Tryz.func24, Tryz.ntmps24
 go_wp2_with fail
 refine HT.out.mono ?_
 rintro e w2 ⟨rfl, hb2⟩
 have hbw2 := HB1.out.trans (hb2.mono HB1.out.size)
 have kp2 := (hb2.block w.heap.size (by simp)).trans HK1.out
 clear HT HB1 HK1 hb2
 cases T with
 | false =>
   go_wp2_with fail
   go_ret
   exact ⟨by rw [← HR8.out]; rfl, hbw2⟩
 | true =>
   have HR2 : Hid (ns.all (nodeHas []) = R) := HR8.out
   clear HR8
   have pA := z11 kp2 0
   have pB := z11 kp2 1
   simp at pA pB
   go_wp2_with fail
   refine wp_loop_rounds 1 ?_
   rw [rounds_succ]
   go_wp2_with fail
   clear pA pB
   go_loopw [5] (fun j wr => ∃ k : Nat, j = .int .i64 k ∧ k ≤ ln ∧ Hid ((ns.take k).all (nodeHas []) = true) ∧ wr.heap[w.heap.size]? = some (.cells #[.slice none 0 0, .slice (some ⟨bt, 0, none⟩) ln cn] 55) ∧ Below w.heap.size w wr) (fun j _ => ln - (intOf j).toNat)
   case atStart => exact ⟨0, rfl, Nat.zero_le _, rfl, kp2, hbw2⟩
   case round =>
     clear kp2 hbw2
     obtain ⟨k, rfl, hk, HI, kp, hbx⟩ := hrel
     have hAlt := z26 kp
     have pA := z11 kp 0
     have pB := z11 kp 1
     simp at pA pB
     by_cases hlt : (k : Int) < (ln : Int)
     · have hil : k < ns.length := by rw [Hlen.out]; omega
       have hNx := HN.out.below hbx hbt
       have c0 := hNx k hil 0 (by omega)
       have c1 := hNx k hil 1 (by omega)
       have c2 := hNx k hil 2 (by omega)
       have c3 := hNx k hil 3 (by omega)
       have c4 := hNx k hil 4 (by omega)
       have c5 := hNx k hil 5 (by omega)
       obtain ⟨nd, hnd⟩ : ∃ nd, ns.getD k default = nd := ⟨_, rfl⟩
       have hF : nodeHas [] nd = false → Hid (R = false) := fun h => by
         show R = false
         rw [← HR2.out]
         exact has_false hil (by rw [hnd]; exact h)
       have hS : nodeHas [] nd = true → Hid ((ns.take (k + 1)).all (nodeHas []) = true) := fun h => has_step hil HI.out (by rw [hnd]; exact h)
       rw [hnd] at c0 c1 c2 c3 c4 c5
       simp only [Nd.cell, Nat.add_zero, Nat.zero_add] at c0 c1 c2 c3 c4 c5
       obtain ⟨kd, num, a, bb, cc, kids⟩ := nd
       dsimp only at *
       have hpl := effPlace_lt [] a 0
       have hszx := hbx.size
       have HP : Hid (∀ w', _) := fun w' => l2Eff_calls none 0 [] a w' (by simp) (fun h => absurd rfl h)
       simp only [nodeHas] at hF hS
       clear hNx hil hnd HI
       generalize effPlace [] a 0 = pl at *
       generalize effIn [] a = ein at *
       have hq : (kd == 22) = true ∨ ((kd == 22) = false ∧ (kd == 26) = true) ∨ ((kd == 22) = false ∧ (kd == 26) = false) := by
         cases (kd == 22) <;> cases (kd == 26) <;> simp
       rcases hq with k22 | ⟨k22, k26⟩ | ⟨k22, k26⟩
       · by_cases hp : pl < 0
         · have hei : ein = false := hpl.1 hp
           have HF := hF (by rw [hei, k22]; rfl)
           clear hF hS hpl
           go_wp2_with fail
           refine (HP.out _).mono ?_
           rintro e w6 ⟨rfl, rfl⟩
           go_wp2_with fail
           go_ret
           exact ⟨by rw [HF.out]; rfl, hbx.alloc hszx _⟩
         · have hei : ein = true := by
             cases hx : ein with
             | true => rfl
             | false => exact absurd (hpl.2 hx) hp
           have HS := hS (by rw [hei]; simp)
           clear hF hS hpl
           go_wp2_with fail
           refine (HP.out _).mono ?_
           rintro e w6 ⟨rfl, rfl⟩
           go_wp2_with fail
           have hs : ln - (intOf (.int .i64 ((k + 1 : Nat) : Int))).toNat < ln - (intOf (.int .i64 (k : Int))).toNat := by simp only [intOf, Int.toNat_natCast]; omega
           try rw [show wrap64 ((k : Int) + 1) = ((k + 1 : Nat) : Int) by have := HM.out; unfold wrap64; omega]
           exact ⟨⟨k + 1, rfl, by omega, HS, (Below.heap_alloc _ _ _ hAlt).trans kp, hbx.alloc hszx _⟩, hs⟩
       · by_cases hp : pl < 0
         · have hei : ein = false := hpl.1 hp
           have HF := hF (by rw [hei, k26]; simp)
           clear hF hS hpl
           go_wp2_with fail
           refine (HP.out _).mono ?_
           rintro e w6 ⟨rfl, rfl⟩
           go_wp2_with fail
           go_ret
           exact ⟨by rw [HF.out]; rfl, hbx.alloc hszx _⟩
         · have hei : ein = true := by
             cases hx : ein with
             | true => rfl
             | false => exact absurd (hpl.2 hx) hp
           have HS := hS (by rw [hei]; simp)
           clear hF hS hpl
           go_wp2_with fail
           refine (HP.out _).mono ?_
           rintro e w6 ⟨rfl, rfl⟩
           go_wp2_with fail
           have hs : ln - (intOf (.int .i64 ((k + 1 : Nat) : Int))).toNat < ln - (intOf (.int .i64 (k : Int))).toNat := by simp only [intOf, Int.toNat_natCast]; omega
           try rw [show wrap64 ((k : Int) + 1) = ((k + 1 : Nat) : Int) by have := HM.out; unfold wrap64; omega]
           exact ⟨⟨k + 1, rfl, by omega, HS, (Below.heap_alloc _ _ _ hAlt).trans kp, hbx.alloc hszx _⟩, hs⟩
       · have HS := hS (by rw [k22, k26]; rfl)
         clear hF hS hpl HP
         go_wp2_with fail
         have hs : ln - (intOf (.int .i64 ((k + 1 : Nat) : Int))).toNat < ln - (intOf (.int .i64 (k : Int))).toNat := by simp only [intOf, Int.toNat_natCast]; omega
         try rw [show wrap64 ((k : Int) + 1) = ((k + 1 : Nat) : Int) by have := HM.out; unfold wrap64; omega]
         exact ⟨⟨k + 1, rfl, by omega, HS, (Below.heap_alloc _ _ _ hAlt).trans kp, hbx.alloc hszx _⟩, hs⟩
     · have e : k = ln := by omega
       have HT : Hid (R = true) := by
         show R = true
         rw [← HR2.out]
         have := HI.out
         rwa [List.take_of_length_le (by rw [Hlen.out]; omega)] at this
       clear HI
       go_wp2_with fail
       go_ret
       exact ⟨by rw [HT.out]; rfl, hbx⟩
def EffW (W : World) (ae : Option Addr) (ce : Nat) (es : List Ef) : Prop := (ae = none ∧ es = [] ∧ ce = 0) ∨ ∃ be, ae = some ⟨be, 0, none⟩ ∧ be < W.heap.size ∧ EffsAt W be 0 es ∧ es.length ≤ ce
theorem progOk_at {W : World} {ae : Option Addr} {ce bt cn : Nat} {es : List Ef} {ns : List Nd} {T : Bool} (hE : EffW W ae ce es) (hel : es.length ≤ 1000) (hbt : bt < W.heap.size) (hN : NodesAt W bt 0 ns) (hl : ns.length ≤ 300) (hA : SpecAns ns T) :
   Calls Tryz.prog 24 #[.agg #[.slice ae es.length ce, .slice (some ⟨bt, 0, none⟩) ns.length cn]] W fun e W' => e = .returned (.bool (progZ es ns T)) ∧ Below W.heap.size W W' := by
 rcases hE with ⟨rfl, rfl, rfl⟩ | ⟨be, rfl, hbe, hEA, hce⟩
 · exact specProgN_calls bt cn ns T W hbt hN (by omega) (fun w' hb hn => z55 bt 0 cn ns w' T (by omega) hb hn hA)
 · exact z68 be bt ce cn es ns T W hce hbe hbt hEA hN (by omega) (by omega) (fun w' hb hn => z55 bt 0 cn ns w' T (by omega) hb hn hA)
theorem EffW.below {W W' : World} {ae : Option Addr} {ce : Nat} {es : List Ef} (h : EffW W ae ce es) (hb : Below W.heap.size W W') : EffW W' ae ce es := by
 rcases h with h | ⟨be, e, hbe, hEA, hce⟩
 · exact Or.inl h
 · exact Or.inr ⟨be, e, Nat.lt_of_lt_of_le hbe hb.size, hEA.below hb hbe, hce⟩
end
section
open Go.RowKit Go.Deep
def bys (l : List Tx) : List ByteArray := l.map fun x => ⟨x.toArray⟩
theorem bys_len (l : List Tx) : (bys l).length = l.length := by unfold bys; simp
theorem bys_get (l : List Tx) (j : Nat) (h : j < l.length) : (bys l).getD j ⟨#[]⟩ = ⟨(l.getD j []).toArray⟩ := by
 unfold bys
 simp [List.getD, h]
def addGo (s : Tx) : List Tx → Bool → List Tx → List Tx
 | [], pt, acc => if pt then acc else acc ++ [s]
 | y :: r, pt, acc => if pt = false ∧ s < y then addGo s r true (acc ++ [s] ++ [y]) else addGo s r pt (acc ++ [y])
theorem addGo_true (s : Tx) : ∀ (l acc : List Tx), addGo s l true acc = acc ++ l
 | [], acc => by simp [addGo]
 | y :: r, acc => by simp [addGo, addGo_true s r]
theorem addGo_false (s : Tx) : ∀ (l acc : List Tx), addGo s l false acc = acc ++ insL l s
 | [], acc => by simp [addGo, insL]
 | y :: r, acc => by
   unfold addGo insL
   by_cases h : s < y
   · rw [if_pos ⟨rfl, h⟩, if_pos h, addGo_true]
     simp
   · rw [if_neg (fun x => h x.2), if_neg h, addGo_false s r]
     simp
def memB (ss : List ByteArray) (s : ByteArray) : Bool := ss.any fun x => x.toList == s.toList
theorem memB_iff (ss : List ByteArray) (s : ByteArray) : memB ss s = true ↔ s ∈ ss := by
 unfold memB
 rw [List.any_eq_true]
 constructor
 · rintro ⟨x, hx, h⟩
   rw [str_eq, decide_eq_true_eq] at h
   rwa [← h]
 · intro h
   exact ⟨s, h, by rw [str_eq, decide_eq_true_eq]⟩
set_option maxRecDepth 100000 in
theorem in_none (s : ByteArray) (w : World) : Calls Tryz.prog 79 #[.slice none 0 0, .string s] w fun e w' => e = .returned (.bool false) ∧ w' = w := by
 go_enter Tryz.func79, Tryz.ntmps79
 go_wp2_with fail
 refine wp_loop_rounds 1 ?_
 rw [rounds_succ]
 go_wp2_with fail
 go_ret
 exact ⟨rfl, rfl⟩
theorem in_any {v : Value} {ss : List ByteArray} (s : ByteArray) (w : World) (h : NamesV w v ss) (hl : ss.length ≤ 1000000) : Calls Tryz.prog 79 #[v, .string s] w fun e w' => e = .returned (.bool (memB ss s)) ∧ w' = w := by
 rcases h with ⟨rfl, rfl⟩ | ⟨g, o, c, rfl, hg, hc⟩
 · exact in_none s w
 · refine (in_calls g o ss.length c ss s w (Nat.le_refl _) hl hc).mono ?_
   rintro e w' ⟨rfl, rfl⟩
   rw [List.take_length]
   exact ⟨rfl, rfl⟩
theorem add_step {w wr W' : World} {out v' : Value} {acc : List Tx} {y : Tx} {yb : ByteArray} {o : Obj} (hy : (⟨y.toArray⟩ : ByteArray) = yb) (h : wr.ownsRow w.heap.size 9 1 out acc.length (strRow (bys acc)) ∧ Below w.heap.size w wr) (hown : W'.ownsRow w.heap.size 9 1 v' (acc.length + 1) (strRow (bys acc) ++ [.string yb])) (hg : (wr.alloc o).grownBy W' out.ownBlock) :
   W'.ownsRow w.heap.size 9 1 v' (acc ++ [y]).length (strRow (bys (acc ++ [y]))) ∧ Below w.heap.size w W' := by
 subst hy
 have hs := h.2.size
 refine ⟨?_, Below.grown (h.2.alloc (by omega) _) hg (by simp; omega) (fun j hj => (h.1.lt _ hj).1)⟩
 rw [List.length_append, show bys (acc ++ [y]) = bys acc ++ [⟨y.toArray⟩] by unfold bys; rw [List.map_append]; rfl, strRow_snoc]
 exact hown
theorem bytes_back (s : ByteArray) : (⟨s.data.toList.toArray⟩ : ByteArray) = s := rfl
set_option maxHeartbeats 4000000 in
set_option maxRecDepth 100000 in
theorem add_calls {v : Value} {l : List Tx} (s : ByteArray) (w : World) (hv : NamesV w v (bys l)) (hl : l.length ≤ 90000) :
   Calls Tryz.prog 80 #[v, .string s] w fun e w' => ∃ u, e = .returned u ∧ NamesV w' u (bys (addL l s.data.toList)) ∧ Below w.heap.size w w' := by
 obtain ⟨ad, cp, rfl⟩ := hv.slice
 rw [bys_len] at hv ⊢
 obtain ⟨L, hL⟩ : ∃ L, l.length = L := ⟨_, rfl⟩
 have HV := hid hv
 have HL := hid (And.intro hL hl)
 rw [hL] at HV ⊢
 clear hv hl hL
 obtain ⟨i0, hinf, hz0, hz1, hz2⟩ := info_parts info_str
 go_enter Tryz.func80, Tryz.ntmps80
 go_wp2_with fail
 go_loopw [5, 6, 7] (fun out put i wr => ∃ (i' : Nat) (pt : Bool) (acc : List Tx), i = .int .i64 i' ∧ put = .bool pt ∧ i' ≤ L ∧ Hid (wr.ownsRow w.heap.size 9 1 out acc.length (strRow (bys acc)) ∧ Below w.heap.size w wr) ∧ Hid (s.data.toList ∉ l.take i' ∧ addGo s.data.toList (l.drop i') pt acc = insL l s.data.toList ∧ acc.length ≤ i' + pt.toNat)) (fun _ _ i _ => L - (intOf i).toNat)
 case atStart => exact ⟨0, false, [], rfl, rfl, Nat.zero_le _, ⟨World.ownsRow_nil _ _ _ _, Below.refl _ _⟩, ⟨by simp, by rw [List.drop_zero, addGo_false]; rfl, Nat.zero_le _⟩⟩
 case round =>
   obtain ⟨i', pt, acc, rfl, rfl, hle, HO, HA⟩ := hrel
   by_cases hi : (i' : Int) < (L : Int)
   · have hcx := HV.out.cell (by omega : 0 < L)
     obtain ⟨-, g, o, rfl, hg, hc⟩ := hcx
     have hcell := (HO.out.2.cell (p := ⟨g, o + i', none⟩) hg).trans (hc i' (by omega))
     have hil : i' < l.length := by have := HL.out.1; omega
     rw [bys_get l i' hil] at hcell
     obtain ⟨y, hy⟩ : ∃ y, l.getD i' [] = y := ⟨_, rfl⟩
     rw [hy] at hcell
     have hyd : l.drop i' = y :: l.drop (i' + 1) := by rw [List.drop_eq_getElem_cons hil, ← hy]; simp [List.getD, hil]
     have hyt : l.take (i' + 1) = l.take i' ++ [y] := by rw [List.take_add_one, ← hy]; simp [List.getD, hil]
     have HY := hid (And.intro hyd hyt)
     obtain ⟨yb, hyb⟩ : ∃ yb : ByteArray, (⟨y.toArray⟩ : ByteArray) = yb := ⟨_, rfl⟩
     rw [hyb] at hcell
     have HYb := hid hyb
     have hyl : yb.toList = y := by rw [← hyb]; simp
     have HYl := hid hyl
     have HC0 : Hid (w.cell? ⟨g, o + i', none⟩ = some (.string yb)) := (HO.out.2.cell (p := ⟨g, o + i', none⟩) hg).symm.trans hcell
     have HLn : Hid (acc.length ≤ 90001) := by show _ ≤ _; have := HA.out.2.2; have := HL.out; have : pt.toNat ≤ 1 := (by cases pt <;> decide); omega
     clear hc hy hyb hyd hyt hil hyl
     have hi0 : (0 : Int) ≤ (i' : Int) := by omega
     cases heq : (yb.toList == s.toList) with
     | true =>
       have HM : Hid (s.data.toList ∈ l) := by
         show _ ∈ _
         have e1 : y = s.data.toList := by rw [← HYl.out, ← ByteArray.toList_eq]; simpa using heq
         have := List.mem_of_mem_drop (i := i') (l := l) (a := y) (by rw [HY.out.1]; exact List.mem_cons_self)
         rwa [e1] at this
       go_wp2_with fail
       go_ret
       refine ⟨_, rfl, ?_, HO.out.2⟩
       unfold addL
       rw [if_pos HM.out]
       exact HV.out.below HO.out.2
     | false =>
       have hne : y ≠ s.data.toList := by
         intro e1
         rw [HYl.out, e1, ByteArray.toList_eq] at heq
         simp at heq
       have HNe : Hid (s.data.toList ∉ l.take (i' + 1)) := by
         show _ ∉ _
         rw [HY.out.2, List.mem_append, List.mem_singleton]
         rintro (h | h)
         · exact HA.out.1 h
         · exact hne h.symm
       clear hne
       have hstep : L - (intOf (.int .i64 ((i' + 1 : Nat) : Int))).toNat < L - (intOf (.int .i64 (i' : Int))).toNat := lt_step' hi
       cases pt with
       | true =>
         have HG : Hid (addGo s.data.toList (l.drop (i' + 1)) true (acc ++ [y]) = insL l s.data.toList) := by
           show _ = _
           rw [← HA.out.2.1, HY.out.1]
           conv => rhs; unfold addGo
           rw [if_neg (by simp)]
         have HAl := hid HA.out.2.2
         clear HA
         go_wp2_with (first
           | (at_builtin; refine wpList_append_own_at _ rfl _ _ 75 rfl w.heap.size 9 i0 (.string ⟨#[]⟩) 1 16 Tryz.underlying75 hinf hz0 hz1 hz2 rfl (by decide) _ _ _ rfl (HO.out.1.alloc _) ⟨wr.heap.size, 0, none⟩ 1 1 [.string yb] rfl rfl (z64 _ _ rfl _ _) (fun x hx => by simp at hx; subst hx; rfl) (by have := HLn.out; unfold maxLen; omega) (by have := HLn.out; omega) (by have := HO.out.2.size; simp; omega) ?_
              intro v5HOa w5HOa hown' hgrow hnil hat
              have HOa := hid (add_step HYb.out HO.out hown' hgrow)
              clear hown' hgrow hnil hat))
         try rw [z31 (by have := HL.out; omega)]
         exact ⟨⟨i' + 1, true, acc ++ [y], rfl, rfl, by omega, HOa, ⟨HNe.out, HG.out, by have hq := HAl.out; rw [List.length_append]; simp [Bool.toNat] at hq ⊢; omega⟩⟩, hstep⟩
       | false =>
         cases hlt : Op.bytesLess s.toList yb.toList with
         | true =>
           have hsy : s.data.toList < y := by rw [bytesLess_eq, HYl.out, ByteArray.toList_eq] at hlt; exact of_decide_eq_true hlt
           have HG : Hid (addGo s.data.toList (l.drop (i' + 1)) true (acc ++ [s.data.toList] ++ [y]) = insL l s.data.toList) := by
             show _ = _
             rw [← HA.out.2.1, HY.out.1]
             conv => rhs; unfold addGo
             rw [if_pos ⟨rfl, hsy⟩]
           have HAl := hid HA.out.2.2
           have HLn2 : Hid ((acc ++ [s.data.toList]).length ≤ 90002) := by show _ ≤ _; rw [List.length_append]; exact Nat.succ_le_succ HLn.out
           clear HA hsy
           go_wp2_with (first
             | (at_builtin; refine wpList_append_own_at _ rfl _ _ 75 rfl w.heap.size 9 i0 (.string ⟨#[]⟩) 1 16 Tryz.underlying75 hinf hz0 hz1 hz2 rfl (by decide) _ _ _ rfl (HO.out.1.alloc _) ⟨wr.heap.size, 0, none⟩ 1 1 [.string s] rfl rfl (z64 _ _ rfl _ _) (fun x hx => by simp at hx; subst hx; rfl) (by have := HLn.out; unfold maxLen; omega) (by have := HLn.out; omega) (by have := HO.out.2.size; simp; omega) ?_
                intro v5HOb w5HOb hown' hgrow hnil hat
                have HOb := hid (add_step (bytes_back s) HO.out hown' hgrow)
                have hcell2 := (HOb.out.2.cell (p := ⟨g, o + i', none⟩) hg).trans HC0.out
                clear hown' hgrow hnil hat)
             | (at_builtin; refine wpList_append_own_at _ rfl _ _ 75 rfl w.heap.size 9 i0 (.string ⟨#[]⟩) 1 16 Tryz.underlying75 hinf hz0 hz1 hz2 rfl (by decide) _ _ _ rfl (HOb.out.1.alloc _) ⟨w5HOb.heap.size, 0, none⟩ 1 1 [.string yb] rfl rfl (z64 _ _ rfl _ _) (fun x hx => by simp at hx; subst hx; rfl) (by have := HLn2.out; unfold maxLen; omega) (by have := HLn2.out; omega) (by have := HOb.out.2.size; simp; omega) ?_
                intro v5HOc w5HOc hown' hgrow hnil hat
                have HOc := hid (add_step HYb.out HOb.out hown' hgrow)
                clear hown' hgrow hnil hat))
           try rw [z31 (by have := HL.out; omega)]
           exact ⟨⟨i' + 1, true, acc ++ [s.data.toList] ++ [y], rfl, rfl, by omega, HOc, ⟨HNe.out, HG.out, by have hq := HAl.out; rw [List.length_append, List.length_append]; simp [Bool.toNat] at hq ⊢; omega⟩⟩, hstep⟩
         | false =>
           have hsy : ¬ s.data.toList < y := by rw [bytesLess_eq, HYl.out, ByteArray.toList_eq] at hlt; exact of_decide_eq_false hlt
           have HG : Hid (addGo s.data.toList (l.drop (i' + 1)) false (acc ++ [y]) = insL l s.data.toList) := by
             show _ = _
             rw [← HA.out.2.1, HY.out.1]
             conv => rhs; unfold addGo
             rw [if_neg (fun x => hsy x.2)]
           have HAl := hid HA.out.2.2
           clear HA hsy
           go_wp2_with (first
             | (at_builtin; refine wpList_append_own_at _ rfl _ _ 75 rfl w.heap.size 9 i0 (.string ⟨#[]⟩) 1 16 Tryz.underlying75 hinf hz0 hz1 hz2 rfl (by decide) _ _ _ rfl (HO.out.1.alloc _) ⟨wr.heap.size, 0, none⟩ 1 1 [.string yb] rfl rfl (z64 _ _ rfl _ _) (fun x hx => by simp at hx; subst hx; rfl) (by have := HLn.out; unfold maxLen; omega) (by have := HLn.out; omega) (by have := HO.out.2.size; simp; omega) ?_
                intro v5HOd w5HOd hown' hgrow hnil hat
                have HOd := hid (add_step HYb.out HO.out hown' hgrow)
                clear hown' hgrow hnil hat))
           try rw [z31 (by have := HL.out; omega)]
           exact ⟨⟨i' + 1, false, acc ++ [y], rfl, rfl, by omega, HOd, ⟨HNe.out, HG.out, by have hq := HAl.out; rw [List.length_append]; simp [Bool.toNat] at hq ⊢; omega⟩⟩, hstep⟩
   · have e : i' = L := by omega
     subst e
     have hdn : l.drop i' = [] := List.drop_eq_nil_of_le (by have := HL.out.1; omega)
     have htk : l.take i' = l := List.take_of_length_le (by have := HL.out.1; omega)
     have HAd : Hid (addL l s.data.toList = insL l s.data.toList) := by
       show _ = _
       unfold addL
       rw [if_neg]
       have := HA.out.1
       rwa [htk] at this
     have HLn : Hid (acc.length ≤ 90001) := by show _ ≤ _; have := HA.out.2.2; have := HL.out; have : pt.toNat ≤ 1 := (by cases pt <;> decide); omega
     cases pt with
     | true =>
       have HG : Hid (acc = insL l s.data.toList) := by
         show _ = _
         rw [← HA.out.2.1, hdn]
         simp [addGo]
       clear HA hdn htk
       go_wp2_with fail
       go_ret
       refine ⟨_, rfl, ?_, HO.out.2⟩
       rw [HAd.out, ← HG.out]
       exact (names_owns HO.out.1).1
     | false =>
       have HG : Hid (acc ++ [s.data.toList] = insL l s.data.toList) := by
         show _ = _
         rw [← HA.out.2.1, hdn]
         simp [addGo]
       clear HA hdn htk
       go_wp2_with (first
         | (at_builtin; refine wpList_append_own_at _ rfl _ _ 75 rfl w.heap.size 9 i0 (.string ⟨#[]⟩) 1 16 Tryz.underlying75 hinf hz0 hz1 hz2 rfl (by decide) _ _ _ rfl (HO.out.1.alloc _) ⟨wr.heap.size, 0, none⟩ 1 1 [.string s] rfl rfl (z64 _ _ rfl _ _) (fun x hx => by simp at hx; subst hx; rfl) (by have := HLn.out; unfold maxLen; omega) (by have := HLn.out; omega) (by have := HO.out.2.size; simp; omega) ?_
            intro v5HOe w5HOe hown' hgrow hnil hat
            have HOe := hid (add_step (bytes_back s) HO.out hown' hgrow)
            clear hown' hgrow hnil hat))
       go_ret
       refine ⟨_, rfl, ?_, HOe.out.2⟩
       rw [HAd.out, ← HG.out]
       exact (names_owns HOe.out.1).1
end
section
open Go.RowKit Go.Deep
def freeK (old : Nd) : Nat → Fo → List ByteArray → List Tx → List Tx
 | _, .none, _, out => out
 | i, .tree n k r, bd, out => freeK old (i + 1) r bd (if n.kind = 5 then (if memB (bd ++ knownZ old i) n.a then out else addL out n.a.data.toList) else freeK n 0 k (bd ++ knownZ old i) out)
def freeN (n : Nd) (k : Fo) (bd : List ByteArray) (out : List Tx) : List Tx := if n.kind = 5 then (if memB bd n.a then out else addL out n.a.data.toList) else freeK n 0 k bd out
theorem freeK_tree (old n : Nd) (k r : Fo) (i : Nat) (bd : List ByteArray) (out : List Tx) : freeK old i (.tree n k r) bd out = freeK old (i + 1) r bd (freeN n k (bd ++ knownZ old i) out) := by
 unfold freeN
 rw [freeK]
theorem insL_len (s : Tx) : ∀ l : List Tx, (insL l s).length = l.length + 1
 | [] => rfl
 | x :: r => by
   unfold insL
   split
   · rfl
   · rw [List.length_cons, insL_len s r, List.length_cons]
theorem addL_len (l : List Tx) (s : Tx) : (addL l s).length ≤ l.length + 1 := by
 unfold addL
 split
 · omega
 · rw [insL_len]
   exact Nat.le_refl _
theorem freeK_len : ∀ (f : Fo) (old : Nd) (i : Nat) (bd : List ByteArray) (out : List Tx), (freeK old i f bd out).length ≤ out.length + f.flat.length
 | .none, _, _, _, _ => by simp [freeK, Fo.flat]
 | .tree n k r, old, i, bd, out => by
   rw [freeK]
   have h1 := freeK_len r old (i + 1) bd (if n.kind = 5 then (if memB (bd ++ knownZ old i) n.a then out else addL out n.a.data.toList) else freeK n 0 k (bd ++ knownZ old i) out)
   have h2 := freeK_len k n 0 (bd ++ knownZ old i) out
   have h3 := addL_len out n.a.data.toList
   have h4 : (if n.kind = 5 then (if memB (bd ++ knownZ old i) n.a then out else addL out n.a.data.toList) else freeK n 0 k (bd ++ knownZ old i) out).length ≤ out.length + 1 + k.flat.length := by
     repeat' split
     all_goals omega
   simp only [Fo.flat, List.length_cons, List.length_append]
   omega
theorem freeN_len (n : Nd) (k : Fo) (bd : List ByteArray) (out : List Tx) : (freeN n k bd out).length ≤ out.length + 1 + k.flat.length := by
 have h2 := freeK_len k n 0 bd out
 have h3 := addL_len out n.a.data.toList
 unfold freeN
 repeat' split
 all_goals omega
set_option maxHeartbeats 4000000 in
set_option maxRecDepth 100000 in
theorem free_calls (b off cap : Nat) (ns : List Nd) (hm : ns.length ≤ 300) (hok : ∀ m ∈ ns, m.kind = 9 → m.kids ≤ 2) : ∀ (N : Nat) (n : Nd) (k : Fo) (suf : List Nd) (p : Nat) (bd : List ByteArray) (out : List Tx) (bv ov : Value) (w : World), b < w.heap.size → NodesAt w b off ns → ns.drop p = n :: (k.flat ++ suf) → n.kids = k.count → k.wf → k.flat.length < N → NamesV w bv bd → NamesV w ov (bys out) → bd.length + 2 * k.flat.length ≤ 1000 → out.length + k.flat.length ≤ 1000 →
   Calls Tryz.prog 47 #[.slice (some ⟨b, off, none⟩) ns.length cap, .int .i64 (p : Int), bv, ov] w fun e w' => ∃ u, e = .returned u ∧ NamesV w' u (bys (freeN n k bd out)) ∧ Below w.heap.size w w' := by
 intro N
 induction N with
 | zero => intro n k suf p bd out bv ov w _ _ _ _ _ h; omega
 | succ N ih =>
   intro n k suf p bd out bv ov w hbw hn hp hkc hk hN hbd hov hbl hol
   obtain ⟨hpl, hpn, hp1⟩ := at_drop hp
   have c0 := hn p hpl 0 (by omega)
   have c1 := hn p hpl 1 (by omega)
   have c2 := hn p hpl 2 (by omega)
   have c3 := hn p hpl 3 (by omega)
   have c4 := hn p hpl 4 (by omega)
   have c5 := hn p hpl 5 (by omega)
   rw [hpn] at c0 c1 c2 c3 c4 c5
   simp only [Nd.cell, Nat.add_zero] at c0 c1 c2 c3 c4 c5
   have HIH := hid ih
   have HN := hid hn
   have HM := hid hm
   have HP1 := hid hp1
   have HWf := hid hk
   have HNl := hid hN
   have HBd := hid hbd
   have HOv := hid hov
   have HLs := hid (And.intro hbl hol)
   have HK9 := hid (hok n (by rw [← List.take_append_drop p ns, hp]; simp))
   have HPl := hid hpl
   have HCt : Hid (k.count ≤ 1000) := by
     show _ ≤ _
     have := Fo.count_le k
     omega
   obtain ⟨ad3, cp3, rfl⟩ := hov.slice
   obtain ⟨ad2, cp2, rfl⟩ := hbd.slice
   obtain ⟨kd, num, a, bb, cc, kids⟩ := n
   dsimp only at *
   obtain ⟨kc, hkc'⟩ : ∃ kc, k.count = kc := ⟨_, rfl⟩
   rw [hkc'] at hkc
   have HKc := hid hkc'
   subst hkc
   obtain ⟨len, hlen⟩ : ∃ len, ns.length = len := ⟨_, rfl⟩
   have Hlen := hid hlen
   rw [hlen] at hpl ⊢
   have hpl2 : (p : Int) < (len : Int) := by omega
   have hp0 : (0 : Int) ≤ (p : Int) := by omega
   obtain ⟨bl, hbl2⟩ : ∃ bl, bd.length = bl := ⟨_, rfl⟩
   obtain ⟨ol, hol2⟩ : ∃ ol, (bys out).length = ol := ⟨_, rfl⟩
   rw [hbl2, hol2]
   rw [hbl2] at HBd
   rw [hol2] at HOv
   clear ih hn hm hp1 hk hN hbd hov hbl hol hp hpn hkc' hlen hok hbl2 hol2
   go_enter Tryz.func47, Tryz.ntmps47
   by_cases k5 : (kd == 5) = true
   · have hba := (Below.refl w.heap.size w).alloc (Nat.le_refl _) (.cells #[.int .i64 kd, .int .i64 num, .string a, .string bb, .string cc, .int .i64 (kc : Int)] 116)
     have HIn := hid (in_any a _ (HBd.out.below hba) (by have := HLs.out.1; omega))
     have HAd := hid (fun X (hb : Below w.heap.size w X) => add_calls a X (HOv.out.below hb) (by have := HLs.out.2; omega))
     have e5 := hid (show kd = 5 from eq_of_beq k5)
     have HBa := hid hba
     clear hba HIH
     go_wp2_with fail
     refine HIn.out.mono ?_
     rintro e w2 ⟨rfl, rfl⟩
     cases hmb : memB bd a with
     | true =>
       have HT : Hid (freeN ⟨kd, num, a, bb, cc, kc⟩ k bd out = out) := by
         show _ = _
         unfold freeN
         rw [if_pos e5.out, if_pos hmb]
       go_wp2_with fail
       go_ret
       refine ⟨_, rfl, ?_, HBa.out⟩
       rw [HT.out]
       exact HOv.out.below HBa.out
     | false =>
       have HT : Hid (freeN ⟨kd, num, a, bb, cc, kc⟩ k bd out = addL out a.data.toList) := by
         show _ = _
         unfold freeN
         rw [if_pos e5.out, if_neg (by rw [hmb]; decide)]
       go_wp2_with fail
       refine (HAd.out _ HBa.out).mono ?_
       rintro e w3 ⟨u, rfl, hu, hb3⟩
       have HU := hid (And.intro hu hb3)
       clear hu hb3
       go_wp2_with fail
       go_ret
       refine ⟨_, rfl, ?_, HBa.out.trans (HU.out.2.mono HBa.out.size)⟩
       rw [HT.out]
       exact HU.out.1
   · have hne5 := hid (show kd ≠ 5 from fun e => k5 (by rw [e]; rfl))
     obtain ⟨TG, hTG⟩ : ∃ TG, freeN ⟨kd, num, a, bb, cc, kc⟩ k bd out = TG := ⟨_, rfl⟩
     have HTG : Hid (freeK ⟨kd, num, a, bb, cc, kc⟩ 0 k bd out = TG) := by
       show _ = _
       rw [← hTG]
       unfold freeN
       rw [if_neg hne5.out]
     rw [hTG]
     clear hTG
     have hA := (MapKept.heap_alloc w (.cells #[.int .i64 kd, .int .i64 num, .string a, .string bb, .string cc, .int .i64 (kc : Int)] 116)).1
     have hba := (Below.refl w.heap.size w).alloc (Nat.le_refl _) (.cells #[.int .i64 kd, .int .i64 num, .string a, .string bb, .string cc, .int .i64 (kc : Int)] 116)
     have HA := hid (And.intro hA hba)
     clear hA hba
     go_wp2_with fail
     clear c0 c1 c2 c3 c4 c5
     generalize w.alloc (.cells #[.int .i64 kd, .int .i64 num, .string a, .string bb, .string cc, .int .i64 (kc : Int)] 116) = wA at *
     rw [z31 (by have := HPl.out; have := HM.out; omega)]
     generalize p + 1 = p1 at *
     go_loopw [3, 10, 11] (fun o q i wr => ∃ (q' i' : Nat) (r : Fo) (ot : List Tx), q = .int .i64 q' ∧ i = .int .i64 i' ∧ Hid (ns.drop q' = r.flat ++ suf ∧ r.wf ∧ i' + r.count = kc ∧ r.flat.length < N + 1 ∧ r.flat.length ≤ k.flat.length ∧ freeK ⟨kd, num, a, bb, cc, kc⟩ i' r bd ot = TG ∧ ot.length + r.flat.length ≤ 1000) ∧ Hid (NamesV wr o (bys ot)) ∧ Hid (Below wA.heap.size wA wr)) (fun _ _ i _ => kc - (intOf i).toNat)
     case atStart => exact ⟨p1, 0, k, out, rfl, rfl, ⟨HP1.out, HWf.out, by rw [HKc.out]; omega, HNl.out, Nat.le_refl _, HTG.out, by have := HLs.out.2; omega⟩, HOv.out.below HA.out.2, Below.refl _ _⟩
     case round =>
       obtain ⟨q', i', r, ot, rfl, rfl, HR, HOt, HB⟩ := hrel
       have hx := (HB.out.block _ (z26 HA.out.1)).trans HA.out.1
       have c0 := z11 hx 0
       have c1 := z11 hx 1
       have c2 := z11 hx 2
       have c3 := z11 hx 3
       have c4 := z11 hx 4
       have c5 := z11 hx 5
       simp at c0 c1 c2 c3 c4 c5
       have HX := hid hx
       clear hx
       cases r with
       | none =>
         obtain ⟨_, _, h1, _, _, h2, _⟩ := HR.out
         simp only [Fo.count, freeK] at h1 h2
         have h1' : i' = kc := by omega
         subst h1'
         subst h2
         clear HR h1
         go_wp2_with fail
         go_ret
         exact ⟨_, rfl, HOt.out, HA.out.2.trans (HB.out.mono HA.out.2.size)⟩
       | tree n' k' r' =>
         obtain ⟨h0, hw, h1, h3, h3', h4, h5⟩ := HR.out
         obtain ⟨hw0, hw1, hw2⟩ := hw
         simp only [Fo.count, Fo.flat, List.length_cons, List.length_append] at h1 h3 h3' h5
         simp only [Fo.flat, List.cons_append, List.append_assoc] at h0
         obtain ⟨hql, hqn, hq1⟩ := at_drop h0
         have hend : treeEnd ns q' = _ := treeEnd_at h0 hw0 hw1
         have hnew := drop_past hq1
         rw [freeK_tree] at h4
         have hi : (i' : Int) < (kc : Int) := by omega
         have hfl := freeN_len n' k' (bd ++ knownZ ⟨kd, num, a, bb, cc, kc⟩ i') ot
         have HNx : Hid (ns.drop (q' + 1 + k'.flat.length) = r'.flat ++ suf ∧ r'.wf ∧ i' + 1 + r'.count = kc ∧ r'.flat.length < N + 1 ∧ r'.flat.length ≤ k.flat.length ∧ freeK ⟨kd, num, a, bb, cc, kc⟩ (i' + 1) r' bd (freeN n' k' (bd ++ knownZ ⟨kd, num, a, bb, cc, kc⟩ i') ot) = TG ∧ (freeN n' k' (bd ++ knownZ ⟨kd, num, a, bb, cc, kc⟩ i') ot).length + r'.flat.length ≤ 1000) := ⟨hnew, hw2, by omega, by omega, by omega, h4, by omega⟩
         have hkl := knownZ_len ⟨kd, num, a, bb, cc, kc⟩ i'
         have HC := hid (fun (X : World) (bv ov : Value) (h1 : b < X.heap.size) (h2 : NodesAt X b off ns) (h3 : NamesV X bv (bd ++ knownZ ⟨kd, num, a, bb, cc, kc⟩ i')) (h4 : NamesV X ov (bys ot)) => HIH.out n' k' (r'.flat ++ suf) q' (bd ++ knownZ ⟨kd, num, a, bb, cc, kc⟩ i') ot bv ov X h1 h2 h0 hw0 hw1 (by omega) h3 h4 (by rw [List.length_append]; have := HLs.out.1; omega) (by omega))
         have HQ := hid (And.intro hql hend)
         have HBi := hid (fun X => binds_calls ⟨kd, num, a, bb, cc, kc⟩ i' X (fun e => by have := HK9.out e; omega))
         unfold ndV at HBi
         dsimp only at HBi
         have HKl : Hid (bd.length + (knownZ ⟨kd, num, a, bb, cc, kc⟩ i').length ≤ 2000) := by show _ ≤ _; have := HLs.out.1; omega
         clear HR h0 hw0 hw1 hw2 hql hqn hq1 hend hnew h4 h1 h3 h3' h5 hfl hkl
         obtain ⟨ad5, cp5, ho5⟩ := HOt.out.slice
         rw [Hlen.out] at HC
         subst ho5
         have hS : Below wr.heap.size wr wr.drew := (Below.refl _ _).drew
         have q0 := fun (y : World) (h : Below wr.heap.size wr y) => (h.cell (p := ⟨w.heap.size, 0, none⟩) (z26 HX.out)).trans c0
         have q1 := fun (y : World) (h : Below wr.heap.size wr y) => (h.cell (p := ⟨w.heap.size, 1, none⟩) (z26 HX.out)).trans c1
         have q2 := fun (y : World) (h : Below wr.heap.size wr y) => (h.cell (p := ⟨w.heap.size, 2, none⟩) (z26 HX.out)).trans c2
         have q3 := fun (y : World) (h : Below wr.heap.size wr y) => (h.cell (p := ⟨w.heap.size, 3, none⟩) (z26 HX.out)).trans c3
         have q4 := fun (y : World) (h : Below wr.heap.size wr y) => (h.cell (p := ⟨w.heap.size, 4, none⟩) (z26 HX.out)).trans c4
         have q5 := fun (y : World) (h : Below wr.heap.size wr y) => (h.cell (p := ⟨w.heap.size, 5, none⟩) (z26 HX.out)).trans c5
         go_upto_region 1 with fail
         refine z33 (S := fun w' => Below wr.heap.size wr w') (by kernel_rfl) rfl rfl ?_
         refine pick_o 0 (.slice (some ⟨b, off, none⟩) len cap) hS ?_
         refine pick_o 1 (.int .i64 (q' : Int)) hS ?_
         refine pick_o 3 (.slice ad2 bl cp2) hS ?_
         refine pick_o (hy := fun w' hw' => by simp [go_sem, q0 w' hw', q1 w' hw', q2 w' hw', q3 w' hw', q4 w' hw', q5 w' hw']) 5 (.agg #[.int .i64 kd, .int .i64 num, .string a, .string bb, .string cc, .int .i64 (kc : Int)]) hS ?_
         refine pick_o 6 (.int .i64 (i' : Int)) hS ?_
         refine pick_o 9 (.slice ad5 (bys ot).length cp5) hS ?_
         refine z29 (i := 2) (v := .slice (some ⟨wr.heap.size, 0, none⟩) 0 0) (w1 := wr.drew.alloc (.cells #[] 9)) rfl (by kernel_rfl) rfl rfl (by simp [go_sem]) (hS.alloc (Nat.le_refl _) _) (by simp [go_sem]; exact rfl) ?_
         clear c0 c1 c2 c3 c4 c5 q0 q1 q2 q3 q4 q5
         have hX0 := hS.alloc (Nat.le_refl _) (.cells #[] 9)
         have hown0 : (wr.drew.alloc (.cells #[] 9)).ownsRow wr.heap.size 9 1 (.slice (some ⟨wr.heap.size, 0, none⟩) 0 0) 0 (strRow []) := World.ownsRow_made wr.drew #[] 0 (Nat.le_refl _) (Nat.zero_le _) rfl
         generalize wr.drew.alloc (.cells #[] 9) = X0 at *
         have HBdr := hid ((HBd.out.below HA.out.2).below HB.out)
         obtain ⟨v1, X1, hrun1, hown1, hg1, -⟩ := app_names (ss := []) (ys := bd) 75 hown0 (HBdr.out.below hX0) (by have := HKl.out; simp; omega) hX0.size
         have hX1 : Below wr.heap.size wr X1 := Below.grown hX0 hg1 hX0.size (fun j hj => (hown0.lt _ hj).1)
         refine z29 (i := 4) (v := v1) (w1 := X1) rfl (by kernel_rfl) rfl rfl (z52 (s := .tmp 38) (x := .tmp 39) (t := 75) rfl rfl rfl hrun1) hX1 (by simp [go_sem]; exact rfl) ?_
         rw [List.nil_append] at hown1
         clear hrun1 hg1 hown0 hX0
         refine z27 (i := 7) (f := 81) (args := #[.agg #[.int .i64 kd, .int .i64 num, .string a, .string bb, .string cc, .int .i64 (kc : Int)], .int .i64 (i' : Int)]) rfl (by kernel_rfl) rfl rfl (by simp [go_sem]) ?_
         refine (HBi.out X1).mono ?_
         rintro e X2 ⟨sv, rfl, hnv, hb2⟩
         have hX2 := hX1.trans (hb2.mono hX1.size)
         refine ⟨sv, rfl, hX2, ?_⟩
         refine z15 (by simp [go_sem]; exact rfl) ?_
         have hown2 := owns_below hown1 hb2
         obtain ⟨v3, X3, hrun3, hown3, hg3, -⟩ := app_names 75 hown2 hnv (by have := HKl.out; omega) (Nat.le_trans hX1.size hb2.size)
         have hX3 : Below wr.heap.size wr X3 := Below.grown hX2 hg3 hX2.size (fun j hj => (hown2.lt _ hj).1)
         refine z29 (i := 8) (v := v3) (w1 := X3) rfl (by kernel_rfl) rfl rfl (z52 (s := .tmp 40) (x := .tmp 43) (t := 75) rfl rfl rfl hrun3) hX3 (by simp [go_sem]; exact rfl) ?_
         clear hrun3 hg3 hown1 hown2 hnv hb2 hX2 hX1
         have hw3 := HA.out.2.trans ((HB.out.trans (hX3.mono HB.out.size)).mono HA.out.2.size)
         refine z27 (i := 10) (f := 47) (args := #[.slice (some ⟨b, off, none⟩) len cap, .int .i64 (q' : Int), v3, .slice ad5 (bys ot).length cp5]) rfl (by kernel_rfl) rfl rfl (by simp [go_sem]) ?_
         refine (HC.out X3 v3 _ (by have := hw3.size; omega) (HN.out.below hw3 hbw) (names_owns hown3).1 (HOt.out.below hX3)).mono ?_
         rintro e X4 ⟨u, rfl, hu, hb4⟩
         have hX4 := hX3.trans (hb4.mono hX3.size)
         refine ⟨u, rfl, hX4, ?_⟩
         refine z15 (by simp [go_sem]; exact rfl) ?_
         refine z29 (i := 11) (v := u) (w1 := X4) rfl (by kernel_rfl) rfl rfl (by simp [go_sem]) hX4 (by simp [go_sem]; exact rfl) ?_
         refine z32 (by kernel_rfl) ?_
         have hw4 := HB.out.trans (hX4.mono HB.out.size)
         have hw5 := HA.out.2.trans (hw4.mono HA.out.2.size)
         have hT := z57 b off cap ns q' X4 (HN.out.below hw5 hbw) (by have := HM.out; omega)
         rw [HQ.out.2, Hlen.out] at hT
         have HT := hid hT
         have HU := hid (And.intro hu hw4)
         clear hT hu hb4 hw3 hX3 hX4 hw4 hw5 hown3 HC HBi hS
         have hi9 : i' ≤ 1048576 := by have := HNx.out.2.2.1; have := HKc.out; have := HCt.out; omega
         generalize q' + 1 + k'.flat.length = ee at *
         go_wp2_with fail
         refine HT.out.mono ?_
         rintro e w6 ⟨rfl, rfl⟩
         go_wp2_with fail
         try rw [z31 hi9]
         exact ⟨⟨ee, i' + 1, r', _, rfl, rfl, HNx, HU.out.1, HU.out.2⟩, z60 hi⟩
end
section
open Go.RowKit Go.Deep
def leaf5 : Fo → Prop
 | .none => True
 | .tree n k r => (n.kind = 5 → k = .none) ∧ leaf5 k ∧ leaf5 r
theorem leaf5_of : ∀ (f : Fo), f.wf → (∀ m ∈ f.flat, m.kind = 5 → m.kids = 0) → leaf5 f
 | .none, _, _ => trivial
 | .tree n k r, hw, h => by
   obtain ⟨h1, h2, h3⟩ := hw
   refine ⟨fun e => ?_, leaf5_of k h2 (fun m hm => h m (by simp [Fo.flat, hm])), leaf5_of r h3 (fun m hm => h m (by simp [Fo.flat, hm]))⟩
   have h0 := h n (by simp [Fo.flat]) e
   cases k with
   | none => rfl
   | tree n' k' r' =>
     simp only [Fo.count] at h1
     omega
theorem findS_open : ∀ (xs ys : List ByteArray) (sc : Sco) (x : ByteArray), xs.length = ys.length → (findS ((xs.zip ys).foldl (fun s p => p :: s) sc) x ≠ none ↔ x ∈ xs ∨ findS sc x ≠ none)
 | [], ys, sc, x, _ => by simp
 | a :: xs, [], sc, x, h => by simp at h
 | a :: xs, b :: ys, sc, x, h => by
   rw [List.zip_cons_cons, List.foldl_cons, findS_open xs ys ((a, b) :: sc) x (by simpa using h), List.mem_cons]
   by_cases e : a = x
   · subst e
     simp [findS]
   · simp only [findS, if_neg e]
     constructor
     · rintro (h | h)
       · exact Or.inl (Or.inr h)
       · exact Or.inr h
     · rintro ((h | h) | h)
       · exact absurd h.symm e
       · exact Or.inl h
       · exact Or.inr h
theorem texts_app (a b : List ByteArray) : textsOf (a ++ b) = textsOf a ++ textsOf b := by unfold textsOf; rw [List.map_append]
theorem free_pure : ∀ (f : Fo) (old new : Nd) (i : Nat) (bd : List ByteArray) (sc : Sco) (s : Wst), leaf5 f → old.kind = new.kind → (∀ x, x ∈ bd ↔ findS sc x ≠ none) → freeK old i f bd ((textsOf s.free).foldl addL []) = (textsOf (kidsW old new i f sc s).free).foldl addL []
 | .none, _, _, _, _, _, _, _, _, _ => rfl
 | .tree n k r, old, new, i, bd, sc, s, hl, hk, hb => by
   obtain ⟨h1, h2, h3⟩ := hl
   have hb2 : ∀ x, x ∈ bd ++ knownZ old i ↔ findS (openS old new i sc) x ≠ none := fun x => by
     unfold openS
     rw [findS_open _ _ _ _ (knownZ_same hk i), List.mem_append, ← hb x, or_comm]
   rw [freeK, kidsW, ← free_pure r old new (i + 1) bd sc _ h3 hk hb]
   congr 1
   by_cases e : n.kind = 5
   · rw [if_pos e, h1 e]
     simp only [kidsW, stepW]
     unfold lostZ
     by_cases hf : findS (openS old new i sc) n.a = none
     · rw [if_neg (by rw [memB_iff, hb2]; exact fun h => h hf), if_pos ⟨e, hf⟩, texts_app, List.foldl_append]
       rfl
     · rw [if_pos (by rw [memB_iff, hb2]; exact hf), if_neg (fun h => hf h.2), List.append_nil]
   · rw [if_neg e, ← free_pure k n _ 0 _ _ _ h2 (renZ_kind _ _ _).symm hb2]
     congr 1
     unfold stepW lostZ
     rw [if_neg (fun h => e h.1)]
     simp
theorem free_whole (n : Nd) (k : Fo) (hl : leaf5 (.tree n k .none)) : freeN n k [] [] = freeOf (wholeW n k) := by
 obtain ⟨h1, h2, -⟩ := hl
 unfold freeN freeOf wholeW walkW
 by_cases e : n.kind = 5
 · rw [if_pos e, h1 e, if_neg (by rw [memB_iff]; simp)]
   simp only [kidsW, stepW, lostZ, findS]
   rw [if_pos ⟨e, trivial⟩]
   rfl
 · rw [if_neg e, ← free_pure k n _ 0 [] [] _ h2 (renZ_kind _ _ _).symm (fun x => by simp [findS])]
   congr 1
   unfold stepW lostZ
   rw [if_neg (fun h => e h.1)]
   rfl
theorem own_kids {m : Nd} (h : ownOk m = true) : (m.kind = 9 → m.kids ≤ 2) ∧ (m.kind = 5 → m.kids = 0) := by
 simp only [ownOk, Bool.and_eq_true] at h
 have hk := h.1
 constructor
 · intro e
   rw [e] at hk
   have : m.kids = 2 := of_decide_eq_true hk
   omega
 · intro e
   rw [e] at hk
   exact of_decide_eq_true hk
set_option maxRecDepth 100000 in
theorem specFree_calls {b off cap : Nat} {ns : List Nd} {n : Nd} {k : Fo} (w : World) (hm : ns.length ≤ 300) (hbw : b < w.heap.size) (hn : NodesAt w b off ns) (hA : SpecAns ns true) (hall : ns.all ownOk = true) (h1 : ns = n :: k.flat) (h2 : n.kids = k.count) (h3 : k.wf) :
   Calls Tryz.prog 25 #[.slice (some ⟨b, off, none⟩) ns.length cap] w fun e w' => ∃ u, e = .returned u ∧ NamesV w' u (bys (freeOf (wholeW n k))) ∧ Below w.heap.size w w' := by
 have HT := hid (z55 b off cap ns w true (by omega) hbw hn hA)
 have hown : ∀ m ∈ ns, ownOk m = true := fun m hm => List.all_eq_true.1 hall m hm
 have hl : leaf5 (.tree n k .none) := leaf5_of _ ⟨h2, h3, trivial⟩ (fun m hm => (own_kids (hown m (by rw [h1]; simpa [Fo.flat] using hm))).2)
 have hkl : k.flat.length ≤ 300 := by rw [h1, List.length_cons] at hm; omega
 have HF := hid (fun X (hb : Below w.heap.size w X) => free_calls b off cap ns hm (fun m hm => (own_kids (hown m hm)).1) (k.flat.length + 1) n k [] 0 [] [] _ _ X (by have := hb.size; omega) (hn.below hb hbw) (by rw [h1]; simp) h2 h3 (Nat.lt_succ_self _) (names_none X) (names_none X) (by simp; omega) (by simp; omega))
 rw [← free_whole n k hl]
 clear hn hA hall hown hl hkl hm
 generalize ns.length = len at *
 go_enter Tryz.func25, Tryz.ntmps25
 go_wp2_with fail
 refine HT.out.mono ?_
 rintro e w2 ⟨rfl, hb2⟩
 go_wp2_with fail
 refine (HF.out w2 hb2).mono ?_
 rintro e w3 ⟨u, rfl, hu, hb3⟩
 have HU := hid (And.intro hu (hb2.trans (hb3.mono hb2.size)))
 clear hu hb3
 go_wp2_with fail
 go_ret
 exact ⟨_, rfl, HU.out.1, HU.out.2⟩

end
section
open Go.RowKit Go.Deep

section
variable {W0 : World} {Mb : Nat} {ae : Option Addr} {ce b off cap : Nat} {es : List Ef} {ns : List Nd} {K : Nat}
theorem part_all (cx : Cx W0 Mb ae b off es ns) (hk1 : K ≤ 1000) : ∀ F, PartC W0 Mb ae ce b off cap es ns K F := by
 intro F
 induction F with
 | zero => intro t ss s v W hF; have := t.size_pos; omega
 | succ F ih =>
   intro t ss s v W hF hs hK hB h hv
   by_cases n1 : t.n.kind = 1
   · rw [part1 n1]; exact part_c1 cx hk1 hF hs hK hB h hv n1
   by_cases n2 : t.n.kind = 2
   · rw [part2 n2]; exact part_c2 cx hk1 hF hs hK hB h hv n2
   by_cases n3 : t.n.kind = 3
   · rw [part3 n3]; exact part_c3 cx hk1 hF hs hK hB h hv n3
   by_cases n4 : t.n.kind = 4
   · rw [part4 n4]; exact part_c4 cx hk1 hF hs hK hB h hv n4
   by_cases n5 : t.n.kind = 5
   · rw [part5 n5]; exact part_c5 cx hk1 hF hs hK hB h hv n5
   by_cases n6 : t.n.kind = 6
   · rw [part6 n6]; exact part_c6 cx hk1 hF hs hK hB h hv n6
   by_cases n8 : t.n.kind = 8
   · rw [part8 n8]; exact part_c8 cx hk1 ih hF hs hK hB h hv n8
   by_cases n9 : t.n.kind = 9
   · rw [part9 n9]; exact part_c9 cx hk1 ih hF hs hK hB h hv n9
   by_cases n10 : t.n.kind = 10
   · rw [part10 n10]; exact part_c10 cx hk1 ih hF hs hK hB h hv n10
   by_cases n20 : t.n.kind = 20
   · rw [part20 n20]; exact part_c20 cx hk1 ih hF hs hK hB h hv n20
   by_cases nh : t.n.kind = 23 ∨ t.n.kind = 24
   · rw [partH nh]; exact part_h cx hk1 ih hF hs hK hB h hv nh
   · have n23 : t.n.kind ≠ 23 := fun e => nh (Or.inl e)
     have n24 : t.n.kind ≠ 24 := fun e => nh (Or.inr e)
     rw [partK n1 n2 n3 n4 n5 n6 n8 n9 n10 n20 n23 n24]
     exact part_k cx hk1 ih hF hs hK hB h hv ⟨n1, n2, n3, n4, n5, n6, n8, n9, n10, n20, n23, n24⟩
end
def pend (s : Cs) (i : Nat) : Nat := ((s.later.drop i).map (fun l => l.t.size)).sum
theorem pend_next {s : Cs} {i : Nat} (h : i < s.later.length) : pend s i = (s.later.getD i default).t.size + pend s (i + 1) := by
 have e : s.later.getD i default = s.later[i] := by simp [List.getD, h]
 rw [e]
 unfold pend
 rw [List.drop_eq_getElem_cons h, List.map_cons, List.sum_cons]
theorem rest_split (s : Cs) (i : Nat) : s.rest = ((s.later.take i).map (fun l => l.t.size)).sum + pend s i := by
 unfold Cs.rest pend
 conv => lhs; rw [← List.take_append_drop i s.later]
 rw [List.map_append, List.sum_append]
def nextZ (es : List Ef) (l : Lt) (s : Cs) : Cs := (partZ es 400 l.t l.names (s.lead l.fr l.wh)).put ⟨9, 0, 0, 0⟩
theorem next_r {ns : List Nd} {es : List Ef} {s : Cs} {i : Nat} (hi : i < s.later.length) (hl : ns.length ≤ 300) (hok : LOk ns 1000 s) (hB : s.out.length + 10 * s.rest + 3000 * pend s i ≤ 900001) (hP : i + pend s i ≤ 300) :
   LOk ns 1000 (nextZ es (s.later.getD i default) s) ∧ (nextZ es (s.later.getD i default) s).out.length + 10 * (nextZ es (s.later.getD i default) s).rest + 3000 * pend (nextZ es (s.later.getD i default) s) (i + 1) ≤ 900001 ∧ i + 1 + pend (nextZ es (s.later.getD i default) s) (i + 1) ≤ 300 ∧ i + 1 ≤ (nextZ es (s.later.getD i default) s).later.length := by
 obtain ⟨l, hl2⟩ : ∃ l, s.later.getD i default = l := ⟨_, rfl⟩
 have hp := pend_next hi
 rw [hl2] at hp ⊢
 have hmem : l ∈ s.later := by rw [← hl2]; exact getD_mem hi
 obtain ⟨h1, ⟨h2, -⟩, h3⟩ := hok l hmem
 have hsz := h1.lt.2.2
 have hpos := l.t.size_pos
 have r := ((Rs.lead ns 1000 s l.fr l.wh).trans (part_r (ns := ns) (K := 1000) (es := es) 400 l.t l.names (s.lead l.fr l.wh) (by omega) h1 h2)).trans (Rs.put ns 1000 _ ⟨9, 0, 0, 0⟩)
 have r' : Rs ns 1000 (10 * l.t.size) (l.t.size - 1) s (nextZ es l s) := r.mono (by omega) (by omega)
 obtain ⟨q, hq⟩ := r'.pre
 have e1 := rest_split s (i + 1)
 have e2 := rest_split (nextZ es l s) (i + 1)
 have e3 : (nextZ es l s).later.take (i + 1) = s.later.take (i + 1) := by rw [hq, List.take_append_of_le_length (by omega)]
 rw [e3] at e2
 have c1 := r'.cost
 have c2 := r'.rest
 have c3 := r'.len
 refine ⟨r'.ok hok, ?_, ?_, by omega⟩
 · omega
 · omega
theorem cm_start {W : World} (ve vt : Value) : Cm (W.alloc (.cells #[ve, vt, .slice none 0 0, .slice none 0 0] 80)) W.heap.size ve vt ⟨[], []⟩ [] (.slice none 0 0) (.slice none 0 0) (W.alloc (.cells #[ve, vt, .slice none 0 0, .slice none 0 0] 80)) :=
 ⟨(MapKept.heap_alloc W _).1, World.ownsRow_nil _ _ _ _, World.ownsRow_nil _ _ _ _, fun x hx => by simp at hx, rfl, rfl, rfl, rfl, Nat.le_refl _, fun _ _ _ => rfl, by simp⟩
theorem spec_ans_one {ns : List Nd} {T T' : Bool} (h : SpecAns ns T) (h' : SpecAns ns T') : T = T' := by
 rcases h with ⟨a1, rfl⟩ | ⟨a1, a2, a3, rfl⟩ | ⟨a1, a2, n, k, e1, e2, e3, h⟩ <;> rcases h' with ⟨b1, rfl⟩ | ⟨b1, b2, b3, rfl⟩ | ⟨b1, b2, n', k', e1', e2', e3', h'⟩
 · rfl
 · rfl
 · omega
 · rfl
 · rfl
 · exact absurd (end_of_tree e1' e2' e3') a3
 · omega
 · exact absurd (end_of_tree e1 e2 e3) b3
 · obtain ⟨rfl, rfl⟩ := tree_inj e1 e2 e3 e1' e2' e3'
   rw [h, h']
def CompZ (es : List Ef) (ns : List Nd) (x : Bool) (cs : List In) : Prop :=
 (x = false ∧ cs = [] ∧ ∀ T, SpecAns ns T → progZ es ns T = true → ∃ n k, ns = n :: k.flat ∧ n.kids = k.count ∧ k.wf ∧ freeOf (wholeW n k) ≠ []) ∨
 (x = true ∧ ∃ n k, (∃ T, SpecAns ns T ∧ progZ es ns T = true) ∧ ns = n :: k.flat ∧ n.kids = k.count ∧ k.wf ∧ freeOf (wholeW n k) = [] ∧ cs = codeZ es n k)
def CompR (es : List Ef) (ns : List Nd) (W : World) (e : Ending) (W' : World) : Prop :=
 ∃ v cs x, e = .returned (.tuple #[v, .bool x]) ∧ W'.ownsRow W.heap.size 31 4 v cs.length (rowZ In.cell 4 cs) ∧ cs.length ≤ 950000 ∧ Below W.heap.size W W' ∧ CompZ es ns x cs
def CompPost (es : List Ef) (ns : List Nd) (W : World) (e : Ending) (W' : World) : Prop :=
 ∃ v cs x, e = .returned (.tuple #[v, .bool x]) ∧ W'.ownsRow W.heap.size 31 4 v cs.length (rowZ In.cell 4 cs) ∧ cs.length ≤ 950000 ∧ Below W.heap.size W W' ∧ (x = false → cs = []) ∧ (x = true → ∃ n k, ns = n :: k.flat ∧ n.kids = k.count ∧ k.wf ∧ cs = codeZ es n k)
theorem cm_below {W W0 : World} {Mb : Nat} {ve vt : Value} {s : Cs} {ls : List (Lt × Value)} {vo vl : Value} {X : World} (h : Cm W0 Mb ve vt s ls vo vl X) (hb : Below W.heap.size W W0) (hM : W.heap.size ≤ Mb) : Below W.heap.size W X :=
 ⟨h.os.trans hb.os, h.tape.trans hb.tape, h.output.trans hb.output, Nat.le_trans hb.size h.size, fun q hq => (h.kept q (Nat.lt_of_lt_of_le hq hb.size) (by omega)).trans (hb.block q hq)⟩
set_option maxHeartbeats 8000000 in
set_option maxRecDepth 100000 in
theorem compile_callsR {W : World} {ae : Option Addr} {ce bt cn : Nat} {es : List Ef} {ns : List Nd} (hE : EffW W ae ce es) (hel : es.length ≤ 1000) (hbt : bt < W.heap.size) (hN : NodesAt W bt 0 ns) (hl : ns.length ≤ 300) :
   Calls Tryz.prog 14 #[.agg #[.slice ae es.length ce, .slice (some ⟨bt, 0, none⟩) ns.length cn]] W (CompR es ns W) := by
 obtain ⟨T, hSA, -⟩ := answers ns
 have hA := (MapKept.heap_alloc W (.cells #[.slice ae es.length ce, .slice (some ⟨bt, 0, none⟩) ns.length cn] 55)).1
 have hB1 := (Below.refl W.heap.size W).alloc (Nat.le_refl _) (.cells #[.slice ae es.length ce, .slice (some ⟨bt, 0, none⟩) ns.length cn] 55)
 obtain ⟨Y, hY⟩ : ∃ Y, W.alloc (.cells #[.slice ae es.length ce, .slice (some ⟨bt, 0, none⟩) ns.length cn] 55) = Y := ⟨_, rfl⟩
 rw [hY] at hA hB1
 have HP := hid (progOk_at (cn := cn) (hE.below hB1) hel (Nat.lt_of_lt_of_le hbt hB1.size) (hN.below hB1 hbt) hl hSA)
 have HY := hid hY
 have HA := hid hA
 have HB1 := hid hB1
 have HE := hid hE
 have HN := hid (And.intro hbt hN)
 have HL := hid (And.intro hel hl)
 have HSA := hid hSA
 have e0 := z11 HA.out 0
 have e1 := z11 HA.out 1
 simp at e0 e1
 clear hE hel hbt hN hl hSA hA hB1 hY
 go_enter Tryz.func14, Tryz.ntmps14
 go_upto_region 1 with fail
 rw [HY.out]
 clear HY
 go_wp2_with fail
 refine HP.out.mono ?_
 rintro e X1 ⟨rfl, hb2⟩
 have HB2 := hid (HB1.out.trans (hb2.mono HB1.out.size))
 have HA2 := hid ((hb2.block W.heap.size (z26 HA.out)).trans HA.out)
 clear hb2 HP e0 e1
 have e0 := z11 HA2.out 0
 have e1 := z11 HA2.out 1
 simp at e0 e1
 cases hR : progZ es ns T with
 | false =>
   go_wp2_with fail
   go_ret2
   exact ⟨_, [], false, rfl, World.ownsRow_nil _ _ _ _, Nat.zero_le _, HB2.out, Or.inl ⟨rfl, rfl, fun T' h1 h2 => by rw [spec_ans_one h1 HSA.out, hR] at h2; cases h2⟩⟩
 | true =>
   have hT : T = true := by
     unfold progZ at hR
     simp only [Bool.and_eq_true] at hR
     exact hR.2.1
   subst hT
   have HR := hid hR
   clear hR
   obtain ⟨n, k, g1, g2, g3, hown⟩ : ∃ (n : Nd) (k : Fo), ns = n :: k.flat ∧ n.kids = k.count ∧ k.wf ∧ ns.all ownOk = true := by
     rcases HSA.out with ⟨-, h⟩ | ⟨-, -, -, h⟩ | ⟨-, -, n, k, e1, e2, e3, h⟩
     · cases h
     · cases h
     · have h' := h.symm
       simp only [Bool.and_eq_true] at h'
       exact ⟨n, k, e1, e2, e3, h'.1⟩
   have HG := hid (And.intro g1 (And.intro g2 g3))
   have HF := hid (specFree_calls (cap := cn) X1 HL.out.2 (Nat.lt_of_lt_of_le HN.out.1 HB2.out.size) (HN.out.2.below HB2.out HN.out.1) HSA.out hown g1 g2 g3)
   clear g1 g2 g3 hown
   go_wp2_with fail
   refine HF.out.mono ?_
   rintro e X2 ⟨u, rfl, hu, hb3⟩
   obtain ⟨au, cu, rfl⟩ := hu.slice
   have HB3 := hid (HB2.out.trans (hb3.mono HB2.out.size))
   have HA3 := hid ((hb3.block W.heap.size (z26 HA2.out)).trans HA2.out)
   obtain ⟨L, hL⟩ : ∃ L, (bys (freeOf (wholeW n k))).length = L := ⟨_, rfl⟩
   rw [hL]
   have HLn := hid hL
   clear hu hb3 HF e0 e1 hL
   by_cases hL0 : (0 : Int) < (L : Int)
   · go_wp2_with fail
     go_ret2
     exact ⟨_, [], false, rfl, World.ownsRow_nil _ _ _ _, Nat.zero_le _, HB3.out, Or.inl ⟨rfl, rfl, fun _ _ _ => ⟨n, k, HG.out.1, HG.out.2.1, HG.out.2.2, fun e => by have := HLn.out; rw [e] at this; simp [bys] at this; omega⟩⟩⟩
   · have HFr := hid (show freeOf (wholeW n k) = [] from List.eq_nil_of_length_eq_zero (by have := HLn.out; rw [bys_len] at this; omega))
     have e0 := z11 HA3.out 0
     have e1 := z11 HA3.out 1
     simp at e0 e1
     have hC := cm_start (W := X2) (.slice ae es.length ce) (.slice (some ⟨bt, 0, none⟩) ns.length cn)
     have hB4 := (Below.refl X2.heap.size X2).alloc (Nat.le_refl _) (.cells #[.slice ae es.length ce, .slice (some ⟨bt, 0, none⟩) ns.length cn, .slice none 0 0, .slice none 0 0] 80)
     obtain ⟨W0, hW0⟩ : ∃ W0, X2.alloc (.cells #[.slice ae es.length ce, .slice (some ⟨bt, 0, none⟩) ns.length cn, .slice none 0 0, .slice none 0 0] 80) = W0 := ⟨_, rfl⟩
     rw [hW0] at hC hB4
     have HW0 := hid hW0
     have HB4 := hid (HB3.out.trans (hB4.mono HB3.out.size))
     have hbt2 : bt < X2.heap.size := Nat.lt_of_lt_of_le HN.out.1 HB3.out.size
     have HX : Hid (Cx W0 X2.heap.size ae bt 0 es ns) := by
       refine ⟨Nat.lt_of_lt_of_le hbt2 hB4.size, by omega, HN.out.2.below HB4.out HN.out.1, HL.out.2, HL.out.1, fun he => ?_⟩
       rcases HE.out with ⟨-, h, -⟩ | ⟨be, h1, h2, h3, -⟩
       · exact absurd h he
       · have h4 : be < X2.heap.size := Nat.lt_of_lt_of_le h2 HB3.out.size
         exact ⟨be, 0, h1, Nat.lt_of_lt_of_le h4 hB4.size, by omega, h3.below HB4.out h2⟩
     have HPA := hid (part_all (ce := ce) (cap := cn) (K := 1000) HX.out (Nat.le_refl _) 400)
     have HS := hid (stands_of HSA.out HG.out.1 HG.out.2.1 HG.out.2.2)
     have HSz : Hid ((⟨n, k, 0⟩ : Tp).size ≤ 300) := by
       show _ ≤ _
       have := HL.out.2
       rw [HG.out.1, List.length_cons] at this
       exact this
     have S0 : Hid (CmE W0 X2.heap.size (.slice ae es.length ce) (.slice (some ⟨bt, 0, none⟩) ns.length cn) ⟨[], []⟩ W0) := ⟨_, _, _, hC⟩
     have HM : Hid (W.heap.size ≤ X2.heap.size) := HB3.out.size
     have HC0 := hid (HPA.out ⟨n, k, 0⟩ [] ⟨[], []⟩ (.slice none 0 0) W0 (by have := HSz.out; omega) HS.out (by have := HSz.out; simp; omega) (by have := HSz.out; simp [Cs.rest]; omega) S0.out (Or.inl ⟨rfl, rfl⟩))
     have R0 := hid (part_r (ns := ns) (K := 1000) (es := es) 400 ⟨n, k, 0⟩ [] ⟨[], []⟩ (by have := HSz.out; omega) HS.out (by have := HSz.out; simp; omega))
     obtain ⟨Mb, hMb⟩ : ∃ Mb, X2.heap.size = Mb := ⟨_, rfl⟩
     rw [hMb] at HX HPA S0 HM HC0
     clear hC hB4 hW0 hbt2 S0
     go_upto_region 4 with fail
     rw [HW0.out]
     try rw [hMb]
     clear HW0 e0 e1 hMb
     go_wp2_with fail
     refine HC0.out.mono ?_
     rintro e X4 ⟨⟨x4, rfl⟩, h4, -⟩
     obtain ⟨s4, hs4⟩ : ∃ x, partZ es 400 ⟨n, k, 0⟩ [] ⟨[], []⟩ = x := ⟨_, rfl⟩
     rw [hs4] at h4 R0
     have S4 := hid h4
     have HS4 := hid hs4
     clear h4 hs4 HC0
     have HR0 : Hid (s4.out.length + 10 * s4.rest ≤ 3000 ∧ s4.rest ≤ 299 ∧ LOk ns 1000 s4) := by
       have h1 := R0.out.cost
       have h2 := R0.out.rest
       have h3 := HSz.out
       have h4 : (⟨[], []⟩ : Cs).rest = 0 := rfl
       have h5 : (⟨[], []⟩ : Cs).out.length = 0 := rfl
       exact ⟨by omega, by omega, R0.out.ok (fun l hl => by cases hl)⟩
     go_wp2_with fail
     refine (z35 ⟨0, 0, 0, 0⟩ S4.out (by have := HR0.out.1; omega)).mono ?_
     rintro e X5 ⟨rfl, h5, -⟩
     obtain ⟨n5, hn5⟩ : ∃ m, s4.out.length = m := ⟨_, rfl⟩
     rw [hn5]
     have S5 := hid h5
     clear h5 hn5
     obtain ⟨FIN, hFIN⟩ : ∃ x, codeZ es n k = x := ⟨_, rfl⟩
     have HFIN : Hid ((restZ es 400 0 (s4.put ⟨0, 0, 0, 0⟩)).out = FIN) := by
       show _ = _
       rw [← hFIN, ← HS4.out]
       rfl
     have HFQ := hid hFIN
     clear hFIN
     go_wp2_with fail
     go_loopw [5] (fun i wr => ∃ (i' : Nat) (s : Cs), i = .int .i64 (i' : Int) ∧ Hid (CmE W0 Mb (.slice ae es.length ce) (.slice (some ⟨bt, 0, none⟩) ns.length cn) s wr ∧ LOk ns 1000 s ∧ s.out.length + 10 * s.rest + 3000 * pend s i' ≤ 900001 ∧ i' + pend s i' ≤ 300 ∧ i' ≤ s.later.length ∧ (restZ es (400 - i') i' s).out = FIN)) (fun i _ => 400 - (intOf i).toNat)
     case atStart =>
       refine ⟨0, _, rfl, S5.out, ?_, ?_, ?_, Nat.zero_le _, HFIN.out⟩
       · exact (Rs.put ns 1000 s4 ⟨0, 0, 0, 0⟩).ok HR0.out.2.2
       · have h1 := HR0.out
         have h2 : (s4.put ⟨0, 0, 0, 0⟩).rest = s4.rest := rfl
         have h3 : pend (s4.put ⟨0, 0, 0, 0⟩) 0 = s4.rest := rfl
         have h4 : (s4.put ⟨0, 0, 0, 0⟩).out.length = s4.out.length + 1 := by simp [Cs.put]
         omega
       · have h1 := HR0.out
         have h3 : pend (s4.put ⟨0, 0, 0, 0⟩) 0 = s4.rest := rfl
         omega
     case round =>
       obtain ⟨i', s, rfl, HI⟩ := hrel
       obtain ⟨ls, vo, vl, hcm⟩ := HI.out.1
       obtain ⟨adl, cpl, hvl⟩ := own_slice hcm.lrow
       subst hvl
       have hll : ls.length = s.later.length := by rw [← hcm.lfst, List.length_map]
       have d3 := z11 hcm.blk 3
       simp at d3
       by_cases hi : (i' : Int) < (ls.length : Int)
       · have hil : i' < s.later.length := by omega
         obtain ⟨gl, hgl⟩ : ∃ g, adl = some ⟨g, 0, none⟩ := by
           obtain ⟨-, ⟨-, h0⟩ | ⟨g, cap, cur, e, -⟩⟩ := hcm.lrow
           · omega
           · cases e
             exact ⟨g, rfl⟩
         subst hgl
         have hcs : ∀ c, c < 4 → wr.cell? ⟨gl, i' * 4 + c, none⟩ = some (ltV (ls.getD i' default) c) := fun c hc => by
           rw [hcm.lrow.cellAt (i' * 4 + c) (by omega), z48 ltV 4 (by decide) ls _ (by omega)]
           rw [show (i' * 4 + c) / 4 = i' by omega, show (i' * 4 + c) % 4 = c by omega]
         have hmem : ls.getD i' default ∈ ls := getD_mem (by omega)
         have hls : s.later.getD i' default = (ls.getD i' default).1 := by
           rw [← hcm.lfst]
           simp [List.getD, show i' < ls.length by omega]
         obtain ⟨⟨l, v⟩, hlv⟩ : ∃ x, ls.getD i' default = x := ⟨_, rfl⟩
         rw [hlv] at hcs hmem hls
         have hnm := hcm.lnam _ hmem
         dsimp only at hls hnm
         obtain ⟨adv, cpv, rfl⟩ := hnm.is
         have b0 := hcs 0 (by omega)
         have b1 := hcs 1 (by omega)
         have b2 := hcs 2 (by omega)
         have b3 := hcs 3 (by omega)
         simp only [ltV, Nat.add_zero] at b0 b1 b2 b3
         have hlm : l ∈ s.later := by rw [← hls]; exact getD_mem hil
         obtain ⟨q1, q2, q3⟩ := HI.out.2.1 l hlm
         have HQ := hid (And.intro q1 (And.intro q2 q3))
         have hnx := next_r (es := es) hil HL.out.2 HI.out.2.1 HI.out.2.2.1 HI.out.2.2.2.1
         rw [hls] at hnx
         have HNx := hid hnx
         have hpn := pend_next hil
         rw [hls] at hpn
         have HPn := hid hpn
         have HFn : Hid ((restZ es (400 - (i' + 1)) (i' + 1) (nextZ es l s)).out = FIN) := by
           have h1 := HI.out.2.2.2.2.2
           rw [show 400 - i' = (400 - (i' + 1)) + 1 by have := HI.out.2.2.2.1; omega, restZ, if_pos hil] at h1
           dsimp only at h1
           have hd : s.later.getD i' ⟨default, [], 0, 0⟩ = l := hls
           rw [hd] at h1
           exact h1
         have hA5 := (MapKept.heap_alloc wr (.cells #[.int .i64 (l.t.at_ : Int), .slice adv l.names.length cpv, .int .i64 (l.fr : Int), .int .i64 (l.wh : Int)] 84)).1
         have hB5 := (Below.refl wr.heap.size wr).alloc (Nat.le_refl _) (.cells #[.int .i64 (l.t.at_ : Int), .slice adv l.names.length cpv, .int .i64 (l.fr : Int), .int .i64 (l.wh : Int)] 84)
         obtain ⟨V, hV⟩ : ∃ V, wr.alloc (.cells #[.int .i64 (l.t.at_ : Int), .slice adv l.names.length cpv, .int .i64 (l.fr : Int), .int .i64 (l.wh : Int)] 84) = V := ⟨_, rfl⟩
         rw [hV] at hA5 hB5
         have HV := hid hV
         have HA5 := hid hA5
         have V0 := hid (HI.out.1.below hB5)
         have VN := hid (hnm.frame (Cf.of_below hB5))
         have hi0 : (0 : Int) ≤ (i' : Int) := by omega
         have hstep : 400 - (intOf (.int .i64 ((i' + 1 : Nat) : Int))).toNat < 400 - (intOf (.int .i64 (i' : Int))).toNat := by
           have := HI.out.2.2.2.1
           simp only [intOf, Int.toNat_natCast]
           omega
         clear hcm hll hil hcs hmem hls hlv hnm hlm q1 q2 q3 hnx hpn hA5 hB5 hV
         go_upto_region 10 with fail
         rw [HV.out]
         clear HV b0 b1 b2 b3 d3
         have x2 := z11 HA5.out 2
         have x3 := z11 HA5.out 3
         simp at x2 x3
         go_wp2_with fail
         refine (lead2_calls l.fr l.wh V0.out (by have := HI.out.2.2.1; omega) HQ.out.2.2 (by have := HQ.out.2.1.2; omega)).mono ?_
         rintro e E1 ⟨⟨⟨y1, rfl⟩, h1, f1⟩, l1⟩
         have E1S := hid h1
         have E1N := hid (VN.out.frame f1)
         have E1A := hid ((l1 _ _ HA5.out).trans HA5.out)
         clear h1 f1 l1 x2 x3
         have y0 := z11 E1A.out 0
         have y1 := z11 E1A.out 1
         simp at y0 y1
         go_wp2_with fail
         refine (HPA.out l.t l.names _ _ _ (by have := HQ.out.1.lt.2.2; have := HL.out.2; omega) HQ.out.1 HQ.out.2.1.1 (by have h1 := HI.out.2.2.1; have h2 := HQ.out.1.lt.2.2; have h3 := HL.out.2; have h4 : (s.lead l.fr l.wh).out.length = s.out.length := lead_len _ _ _; have h5 : (s.lead l.fr l.wh).rest = s.rest := rfl; omega) E1S.out E1N.out).mono ?_
         rintro e E2 ⟨⟨z2, rfl⟩, h2, -⟩
         have E2S := hid h2
         clear h2 y0 y1
         have HOut : Hid ((partZ es 400 l.t l.names (s.lead l.fr l.wh)).out.length ≤ 950000) := by
           show _ ≤ _
           have h1 := HNx.out.2.1
           have h2 : (nextZ es l s).out.length = (partZ es 400 l.t l.names (s.lead l.fr l.wh)).out.length + 1 := by simp [nextZ, Cs.put]
           omega
         go_wp2_with fail
         refine (z35 ⟨9, 0, 0, 0⟩ E2S.out (by have := HOut.out; omega)).mono ?_
         rintro e E3 ⟨rfl, h3, -⟩
         obtain ⟨m3, hm3⟩ : ∃ m, (partZ es 400 l.t l.names (s.lead l.fr l.wh)).out.length = m := ⟨_, rfl⟩
         rw [hm3]
         have E3S : Hid (CmE W0 Mb (.slice ae es.length ce) (.slice (some ⟨bt, 0, none⟩) ns.length cn) (nextZ es l s) E3) := h3
         clear h3 hm3
         have hi9 : Hid (i' ≤ 1000) := by show _ ≤ _; have := HI.out.2.2.2.1; omega
         go_wp2_with fail
         try rw [z31 (by have := hi9.out; omega)]
         exact ⟨⟨i' + 1, nextZ es l s, rfl, E3S.out, HNx.out.1, HNx.out.2.1, HNx.out.2.2.1, HNx.out.2.2.2, HFn.out⟩, hstep⟩
       · have hie : ¬ i' < s.later.length := by omega
         have HFn : Hid (s.out = FIN) := by
           have h1 := HI.out.2.2.2.2.2
           rw [show 400 - i' = (399 - i') + 1 by have := HI.out.2.2.2.1; omega, restZ, if_neg hie] at h1
           exact h1
         obtain ⟨ado, cpo, hvo⟩ := own_slice hcm.orow
         subst hvo
         have d2 := z11 hcm.blk 2
         simp at d2
         have HCm := hid hcm
         clear hcm hll
         go_wp2_with fail
         go_ret2
         exact ⟨_, s.out, true, rfl, own_base HCm.out.orow HB4.out.size, by have := HI.out.2.2.1; omega, cm_below HCm.out HB4.out HM.out, Or.inr ⟨rfl, n, k, ⟨true, HSA.out, HR.out⟩, HG.out.1, HG.out.2.1, HG.out.2.2, HFr.out, by rw [HFn.out, HFQ.out]⟩⟩
theorem compile_calls {W : World} {ae : Option Addr} {ce bt cn : Nat} {es : List Ef} {ns : List Nd} (hE : EffW W ae ce es) (hel : es.length ≤ 1000) (hbt : bt < W.heap.size) (hN : NodesAt W bt 0 ns) (hl : ns.length ≤ 300) :
   Calls Tryz.prog 14 #[.agg #[.slice ae es.length ce, .slice (some ⟨bt, 0, none⟩) ns.length cn]] W (CompPost es ns W) := by
 refine (compile_callsR hE hel hbt hN hl).mono ?_
 rintro e W' ⟨v, cs, x, h1, h2, h3, h4, h5⟩
 refine ⟨v, cs, x, h1, h2, h3, h4, fun hx => ?_, fun hx => ?_⟩
 · rcases h5 with ⟨-, h, -⟩ | ⟨h, -⟩
   · exact h
   · rw [hx] at h; cases h
 · rcases h5 with ⟨h, -⟩ | ⟨-, n, k, -, g1, g2, g3, -, g4⟩
   · rw [hx] at h; cases h
   · exact ⟨n, k, g1, g2, g3, g4⟩
end
section
open Go.RowKit Go.Deep
theorem Gen.setNext {d : Dr} {ve : Value} {W : World} {s : Cn} (h : Gen d ve W s) (x : Nat) : Gen d ve (W.setCell ⟨d.G, 3, none⟩ (.int .i64 (x : Int))) { s with next := x } ∧ Grew d W (W.setCell ⟨d.G, 3, none⟩ (.int .i64 (x : Int))) := by
 have ho : ∀ q, q ≠ d.G → (W.setCell ⟨d.G, 3, none⟩ (.int .i64 (x : Int))).heap[q]? = W.heap[q]? := fun q hq => Below.heap_setCell W ⟨d.G, 3, none⟩ _ q hq
 have hg : Grew d W (W.setCell ⟨d.G, 3, none⟩ (.int .i64 (x : Int))) := ⟨rfl, rfl, rfl, by simp [World.setCell], fun q hq => ho q hq.2.2⟩
 exact ⟨⟨h.rd.same hg (ho _ h.ne), by simp [World.setCell, Array.getElem?_modify, h.blk], h.ne⟩, hg⟩
theorem Gen.setLeft {d : Dr} {ve : Value} {W : World} {s : Cn} (h : Gen d ve W s) (x : Int) : Gen d ve (W.setCell ⟨d.G, 2, none⟩ (.int .i64 x)) { s with left := x } ∧ Grew d W (W.setCell ⟨d.G, 2, none⟩ (.int .i64 x)) := by
 have ho : ∀ q, q ≠ d.G → (W.setCell ⟨d.G, 2, none⟩ (.int .i64 x)).heap[q]? = W.heap[q]? := fun q hq => Below.heap_setCell W ⟨d.G, 2, none⟩ _ q hq
 have hg : Grew d W (W.setCell ⟨d.G, 2, none⟩ (.int .i64 x)) := ⟨rfl, rfl, rfl, by simp [World.setCell], fun q hq => ho q hq.2.2⟩
 exact ⟨⟨h.rd.same hg (ho _ h.ne), by simp [World.setCell, Array.getElem?_modify, h.blk], h.ne⟩, hg⟩
theorem Gen.ltG {d : Dr} {ve : Value} {W : World} {s : Cn} (h : Gen d ve W s) : d.G < W.heap.size := z26 h.blk
theorem Gen.ltB {d : Dr} {ve : Value} {W : World} {s : Cn} (h : Gen d ve W s) : d.B < W.heap.size := z26 h.rd.blk
theorem Gen.c0 {d : Dr} {ve : Value} {W : World} {s : Cn} (h : Gen d ve W s) : W.cell? ⟨d.G, 0, none⟩ = some (.pointer (some ⟨d.B, 0, none⟩)) := by rw [z11 h.blk]; rfl
theorem Gen.c1 {d : Dr} {ve : Value} {W : World} {s : Cn} (h : Gen d ve W s) : W.cell? ⟨d.G, 1, none⟩ = some ve := by rw [z11 h.blk]; rfl
theorem Gen.c2 {d : Dr} {ve : Value} {W : World} {s : Cn} (h : Gen d ve W s) : W.cell? ⟨d.G, 2, none⟩ = some (.int .i64 s.left) := by rw [z11 h.blk]; rfl
theorem Gen.c3 {d : Dr} {ve : Value} {W : World} {s : Cn} (h : Gen d ve W s) : W.cell? ⟨d.G, 3, none⟩ = some (.int .i64 (s.next : Int)) := by rw [z11 h.blk]; rfl
theorem Gen.f2 {d : Dr} {ve : Value} {W : World} {s : Cn} (h : Gen d ve W s) : W.frozen? ⟨d.G, 2, none⟩ = false := z13 h.blk 2
theorem Gen.f3 {d : Dr} {ve : Value} {W : World} {s : Cn} (h : Gen d ve W s) : W.frozen? ⟨d.G, 3, none⟩ = false := z13 h.blk 3
theorem gen_pick {d : Dr} {ve : Value} {W : World} {s : Cn} (h : Gen d ve W s) (hp : s.p ≤ 1000000) (n : Int) (hn : 0 < n) :
   Calls Tryz.prog 16 #[.pointer (some ⟨d.B, 0, none⟩), .int .i64 n] W fun e W' => ∃ m : Int, e = .returned (.int .i64 m) ∧ 0 ≤ m ∧ m < n ∧ Gen d ve W' { s with p := s.p + 1 } ∧ Grew d W W' := by
 refine (z71 h.rd hp n hn).mono ?_
 rintro e W' ⟨m, rfl, h0, h1, hr, hg, -, ho⟩
 exact ⟨m, rfl, h0, h1, ⟨hr, (ho _ (Ne.symm h.ne)).trans h.blk, h.ne⟩, hg⟩
theorem cell_old {W : World} {o : Obj} {p : Addr} {v : Value} (hp : p.block < W.heap.size) (h : W.cell? p = some v) : (W.alloc o).cell? p = some v :=
 (((Below.refl W.heap.size W).alloc (Nat.le_refl _) o).cell hp).trans h
theorem digit_run (m : Int) (h0 : 0 < m) (h1 : m < 7) : ∃ s : ByteArray, s.size = 1 ∧ ∀ W : World, (convert 22 9 (.slice (some ⟨W.heap.size, 0, none⟩) 1 1)).run Tryz.prog (W.alloc (.cells #[.int .u8 (48 + m)] 5)) = .ok (.string s) (W.alloc (.cells #[.int .u8 (48 + m)] 5)) := by
 refine ⟨⟨#[UInt8.ofNat (48 + m.toNat)]⟩, rfl, fun W => ?_⟩
 have h := run_convert_bytes_back (P := Tryz.prog) (W.alloc (.cells #[.int .u8 (48 + m)] 5)) 22 9 5 ⟨W.heap.size, 0, none⟩ 1 [UInt8.ofNat (48 + m.toNat)] Tryz.underlying22 Tryz.underlying5 Tryz.underlying9 (fun i hi => by
   have h0 : i = 0 := by simpa using hi
   subst h0
   simp [Addr.add]
   omega)
 exact h
set_option maxRecDepth 100000 in
theorem digit_zero (W : World) : Calls Tryz.prog 84 #[.int .i64 0] W fun e W' => e = .returned (.string ⟨#[48]⟩) ∧ W' = W := by
 go_enter Tryz.func84, Tryz.ntmps84
 go_wp2_with fail
 go_ret
 exact ⟨rfl, rfl⟩
set_option maxRecDepth 100000 in
theorem digit_calls (m : Int) (x : ByteArray) (hx : x.size = 1) (h2 : 0 < m) (h1 : m < 7) (hr : ∀ W : World, (convert 22 9 (.slice (some ⟨W.heap.size, 0, none⟩) 1 1)).run Tryz.prog (W.alloc (.cells #[.int .u8 (48 + m)] 5)) = .ok (.string x) (W.alloc (.cells #[.int .u8 (48 + m)] 5))) (W : World) : Calls Tryz.prog 84 #[.int .i64 m] W fun e W' => e = .returned (.string (x ++ ⟨#[]⟩)) ∧ W' = W.alloc (.cells #[.int .u8 (48 + m)] 5) := by
 have hrun := hr W
 have hm : ¬ m = 0 := by omega
 have e0 : (m == 0) = false := by simp [hm]
 have e1 : m % 10 = m := by omega
 have e2 : m / 10 = 0 := by omega
 clear hr
 go_enter Tryz.func84, Tryz.ntmps84
 go_wp2_with fail
 refine wp_loop_rounds 2 ?_
 rw [rounds_succ]
 go_wp2_with fail
 rw [e2, rounds_succ]
 go_wp2_with fail
 go_ret
 exact ⟨rfl, rfl⟩
theorem digit_any (m : Int) (h0 : 0 ≤ m) (h1 : m < 7) : ∃ x : ByteArray, x.size ≤ 50 ∧ ∀ W, Calls Tryz.prog 84 #[.int .i64 m] W fun e W' => e = .returned (.string x) ∧ Below W.heap.size W W' := by
 by_cases hm : m = 0
 · subst hm
   refine ⟨⟨#[48]⟩, by decide, fun W => (digit_zero W).mono ?_⟩
   rintro e W' ⟨rfl, rfl⟩
   exact ⟨rfl, Below.refl _ _⟩
 · obtain ⟨x, hx, hr⟩ := digit_run m (by omega) h1
   refine ⟨x ++ ⟨#[]⟩, ?_, fun W => (digit_calls m x hx (by omega) h1 hr W).mono ?_⟩
   · rw [ByteArray.size_append, hx]
     decide
   · rintro e W' ⟨rfl, rfl⟩
     exact ⟨rfl, (Below.refl _ _).alloc (Nat.le_refl _) _⟩
def sixV : Array Value := #[.string ⟨#[120]⟩, .string ⟨#[121]⟩, .string ⟨#[122]⟩, .string ⟨#[110]⟩, .string ⟨#[109]⟩, .string ⟨#[113]⟩]
theorem six_get (r : Int) (h0 : 0 ≤ r) (h1 : r < 6) : ∃ y : ByteArray, y.size = 1 ∧ sixV[r.toNat]? = some (.string y) := by
 have h : r = 0 ∨ r = 1 ∨ r = 2 ∨ r = 3 ∨ r = 4 ∨ r = 5 := by omega
 rcases h with rfl | rfl | rfl | rfl | rfl | rfl <;> exact ⟨_, rfl, rfl⟩
theorem six_cell {X : World} (r : Int) (y : ByteArray) (h : sixV[r.toNat]? = some (.string y)) : (X.alloc (.cells sixV 9)).cell? ⟨X.heap.size, r.toNat, none⟩ = some (.string y) := by
 rw [z11 (MapKept.heap_alloc X _).1, h]
set_option maxHeartbeats 4000000 in
set_option maxRecDepth 100000 in
theorem name_calls {d : Dr} {ve : Value} {W : World} {s : Cn} (h : Gen d ve W s) (hn : s.next ≤ 1000000) :
   Calls Tryz.prog 57 #[.pointer (some ⟨d.G, 0, none⟩)] W fun e W' => ∃ x, e = .returned (.string x) ∧ Brief x ∧ Gen d ve W' { s with next := s.next + 1 } ∧ Grew d W W' := by
 have HG := hid h
 have HN := hid (h.setNext (s.next + 1))
 obtain ⟨n, hn'⟩ : ∃ n : Nat, s.next = n := ⟨_, rfl⟩
 have c3 := h.c3
 have f3 := h.f3
 rw [hn'] at c3 hn HN ⊢
 obtain ⟨G, hGe⟩ : ∃ G, d.G = G := ⟨_, rfl⟩
 rw [hGe] at c3 f3 HN ⊢
 go_enter Tryz.func57, Tryz.ntmps57
 go_wp2_with fail
 have e1 : ((n : Int) + 1) = ((n + 1 : Nat) : Int) := by omega
 rw [e1]
 have cN := HN.out.1.c3
 have hGl := HN.out.1.ltG
 rw [hGe] at cN hGl
 clear c3 f3 HG h e1
 generalize W.setCell ⟨G, 3, none⟩ (.int .i64 ((n + 1 : Nat) : Int)) = W1 at *
 dsimp only at cN
 have hN0 : (0 : Int) ≤ ((n + 1 : Nat) : Int) := by omega
 generalize hNe : ((n + 1 : Nat) : Int) = N at *
 obtain ⟨m, hm⟩ : ∃ m, N % 7 = m := ⟨_, rfl⟩
 have hm0 : 0 ≤ m := by omega
 have hm1 : m < 7 := by omega
 obtain ⟨x, hx, hD⟩ := digit_any m hm0 hm1
 have HD := hid hD
 have HX := hid hx
 obtain ⟨r, hr⟩ : ∃ r, N % 6 = r := ⟨_, rfl⟩
 have hr0 : 0 ≤ r := by omega
 have hr1 : r < 6 := by omega
 have ht6 : N.tmod 6 = r := (Int.tmod_eq_emod_of_nonneg hN0).trans hr
 have ht7 : N.tmod 7 = m := (Int.tmod_eq_emod_of_nonneg hN0).trans hm
 obtain ⟨y, hy, hsix⟩ := six_get r hr0 hr1
 have HY := hid hy
 have HN1 : Hid (Gen d ve W1.drew { s with next := n + 1 } ∧ Grew d W W1.drew) := ⟨HN.out.1.drew, HN.out.2.drew⟩
 have cD : W1.drew.cell? ⟨G, 3, none⟩ = some (.int .i64 N) := cN
 have hGD : G < W1.drew.heap.size := hGl
 clear hNe hn hn' hGe hm hm0 hm1 hr cN hGl HN hD hx
 refine z33 (S := fun w' => w'.cell? ⟨G, 3, none⟩ = some (.int .i64 N)) (by kernel_rfl) rfl rfl ?_
 generalize W1.drew = D at *
 refine pick_o 1 (.pointer (some ⟨G, 0, none⟩)) cD ?_
 refine pick_o 2 (.pointer (some ⟨G, 0, none⟩)) cD ?_
 refine pick_o 3 (.pointer (some ⟨G, 3, none⟩)) cD ?_
 refine pick_o (hy := fun w' hw => by simp [go_sem, hw]) 4 (.int .i64 N) cD ?_
 refine pick_o (hy := fun w' hw => by simp [go_sem, ht6]) 5 (.int .i64 r) cD ?_
 refine pick_o 8 (.pointer (some ⟨G, 0, none⟩)) cD ?_
 refine pick_o 9 (.pointer (some ⟨G, 0, none⟩)) cD ?_
 refine pick_o 10 (.pointer (some ⟨G, 3, none⟩)) cD ?_
 refine pick_o (hy := fun w' hw => by simp [go_sem, hw]) 11 (.int .i64 N) cD ?_
 refine pick_o (hy := fun w' hw => by simp [go_sem, ht7]) 12 (.int .i64 m) cD ?_
 have hx := HX.out
 refine z46 (i := 0) (j := 13) (by kernel_rfl) ?_ ?_
 · have cy := six_cell (X := D) r y hsix
   have c1 := cell_old (o := .cells sixV 9) hGD cD
   have HB1 : Hid (Below D.heap.size D (D.alloc (.cells sixV 9))) := (Below.refl _ _).alloc (Nat.le_refl _) _
   have hq : D.heap.size < (D.alloc (.cells sixV 9)).heap.size := by simp
   refine ⟨_, .slice (some ⟨D.heap.size, 0, none⟩) 6 6, D.alloc (.cells sixV 9), rfl, rfl, by simp [go_sem, sixV], c1, ?_⟩
   refine z15 (by simp [go_sem]; exact rfl) ?_
   generalize D.alloc (.cells sixV 9) = X1 at *
   refine pick_o (hy := fun w' hw => by simp [go_sem, hr0, hr1]) 6 (.pointer (some ⟨D.heap.size, r.toNat, none⟩)) c1 ?_
   refine z54 (fun w' => w'.cell? ⟨G, 3, none⟩ = some (.int .i64 N) ∧ w'.cell? ⟨D.heap.size, r.toNat, none⟩ = some (.string y)) (fun w h => h.1) ?_
   refine pick_o (hy := fun w' hw => by simp [go_sem, hw.2]) 7 (.string y) ⟨c1, cy⟩ ?_
   refine z27 (i := 13) (f := 84) (args := #[.int .i64 m]) rfl (by kernel_rfl) rfl rfl (by simp [go_sem]) ?_
   refine (HD.out X1).mono ?_
   rintro e X2 ⟨rfl, hb⟩
   have HB2 := hid hb
   have c2 := (hb.cell (p := ⟨G, 3, none⟩) (block_lt_of_cell c1)).trans c1
   have cy2 := (hb.cell (p := ⟨D.heap.size, r.toNat, none⟩) hq).trans cy
   clear hb
   refine ⟨_, rfl, ⟨c2, cy2⟩, ?_⟩
   refine z15 (by simp [go_sem]; exact rfl) ?_
   refine z12 (i := 14) (v := .string (y ++ x)) (by kernel_rfl) rfl (by kernel_rfl) (by kernel_rfl) rfl rfl (fun w' hw => by simp [go_sem, HY.out]; omega) ⟨c2, cy2⟩ (by simp [go_sem]; exact rfl) ?_
   refine pick_o 15 (.string (y ++ x)) ⟨c2, cy2⟩ ?_
   refine z32 (by kernel_rfl) ?_
   go_wp2_with fail
   go_ret
   exact ⟨_, rfl, by unfold Brief; rw [ByteArray.size_append, HY.out]; have := HX.out; omega, (HN1.out.1.below HB1.out).below HB2.out, HN1.out.2.trans ((Grew.of_below HB1.out).trans (Grew.of_below HB2.out))⟩
 · refine ⟨_, 84, #[.int .i64 m], rfl, rfl, by simp [go_sem], ?_⟩
   refine (HD.out D).mono ?_
   rintro e X1 ⟨rfl, hb⟩
   have HB1 := hid hb
   have c1 := (hb.cell (p := ⟨G, 3, none⟩) hGD).trans cD
   have hGX : G < X1.heap.size := block_lt_of_cell c1
   clear hb
   refine ⟨_, rfl, c1, ?_⟩
   refine z15 (by simp [go_sem]; exact rfl) ?_
   have cy := six_cell (X := X1) r y hsix
   have c2 := cell_old (o := .cells sixV 9) hGX c1
   have HB2 : Hid (Below X1.heap.size X1 (X1.alloc (.cells sixV 9))) := (Below.refl _ _).alloc (Nat.le_refl _) _
   refine z29 (i := 0) (v := .slice (some ⟨X1.heap.size, 0, none⟩) 6 6) (w1 := X1.alloc (.cells sixV 9)) rfl (by kernel_rfl) rfl rfl (by simp [go_sem, sixV]) c2 (by simp [go_sem]; exact rfl) ?_
   generalize X1.alloc (.cells sixV 9) = X2 at *
   refine pick_o (hy := fun w' hw => by simp [go_sem, hr0, hr1]) 6 (.pointer (some ⟨X1.heap.size, r.toNat, none⟩)) c2 ?_
   refine z54 (fun w' => w'.cell? ⟨G, 3, none⟩ = some (.int .i64 N) ∧ w'.cell? ⟨X1.heap.size, r.toNat, none⟩ = some (.string y)) (fun w h => h.1) ?_
   refine pick_o (hy := fun w' hw => by simp [go_sem, hw.2]) 7 (.string y) ⟨c2, cy⟩ ?_
   refine z12 (i := 14) (v := .string (y ++ x)) (by kernel_rfl) rfl (by kernel_rfl) (by kernel_rfl) rfl rfl (fun w' hw => by simp [go_sem, HY.out]; omega) ⟨c2, cy⟩ (by simp [go_sem]; exact rfl) ?_
   refine pick_o 15 (.string (y ++ x)) ⟨c2, cy⟩ ?_
   refine z32 (by kernel_rfl) ?_
   go_wp2_with fail
   go_ret
   exact ⟨_, rfl, by unfold Brief; rw [ByteArray.size_append, HY.out]; have := HX.out; omega, (HN1.out.1.below HB1.out).below HB2.out, HN1.out.2.trans ((Grew.of_below HB1.out).trans (Grew.of_below HB2.out))⟩
end
section
open Go.RowKit Go.Deep
theorem knows_owns {d : Dr} {W : World} {B : Nat} {v : Value} {ks : List Kn} (h : W.ownsRow B 161 3 v ks.length (rowZ Kn.cell 3 ks)) (hb : ∀ k ∈ ks, Brief k.name) (h1 : d.B < B) (h2 : d.G < B) : KnowsD d W v ks :=
 ⟨lies_owns (by decide) h h1 h2, hb⟩
theorem know_lit {d : Dr} (W : World) (k : Kn) (h1 : d.B < W.heap.size) (h2 : d.G < W.heap.size) : Lies d (W.alloc (.cells #[.string k.name, .int .i64 k.ty, .int .i64 k.res] 161)) (.slice (some ⟨W.heap.size, 0, none⟩) 1 1) [k].length 3 (fun i => Kn.cell ([k].getD (i / 3) default) (i % 3)) :=
 lies_lit (f := Kn.cell) (sz := 3) (by decide) W 161 [k] _ rfl h1 h2
theorem kadd_step {W wr W' : World} {acc ks : List Kn} {out v' : Value} {o : Obj} (h : wr.ownsRow W.heap.size 161 3 out acc.length (rowZ Kn.cell 3 acc) ∧ Below W.heap.size W wr ∧ ∀ k ∈ acc, Brief k.name) (hk : ∀ k ∈ ks, Brief k.name) (h' : W'.ownsRow W.heap.size 161 3 v' (acc ++ ks).length (rowZ Kn.cell 3 (acc ++ ks)) ∧ (wr.alloc o).grownBy W' out.ownBlock) :
   W'.ownsRow W.heap.size 161 3 v' (acc ++ ks).length (rowZ Kn.cell 3 (acc ++ ks)) ∧ Below W.heap.size W W' ∧ ∀ k ∈ acc ++ ks, Brief k.name :=
 ⟨h'.1, (h.2.1.alloc h.2.1.size o).grown h'.2 (by have := h.2.1.size; simp; omega) (fun k hk => (h.1.lt k hk).1), fun k hx => by
   rw [List.mem_append] at hx
   rcases hx with hx | hx
   · exact h.2.2 k hx
   · exact hk k hx⟩
set_option maxHeartbeats 4000000 in
set_option maxRecDepth 100000 in
theorem kadd_calls {d : Dr} {v : Value} {ks : List Kn} (nm : ByteArray) (ty res : Int) (W : World) (h1 : d.B < W.heap.size) (h2 : d.G < W.heap.size) (hk : KnowsD d W v ks) (hb : Brief nm) (hl : ks.length ≤ 1000) :
   Calls Tryz.prog 58 #[v, .string nm, .int .i64 ty, .int .i64 res] W fun e W' => ∃ u, e = .returned u ∧ ∃ ks', KnowsD d W' u ks' ∧ ks'.length ≤ ks.length + 1 ∧ Below W.heap.size W W' := by
 obtain ⟨L, hL⟩ : ∃ L, ks.length = L := ⟨_, rfl⟩
 have HK := hid hk
 have HL := hid (And.intro hL (And.intro hl (And.intro hb (And.intro h1 h2))))
 obtain ⟨ad, cp, rfl⟩ := hk.is
 rw [hL] at HK ⊢
 clear hk hb hl h1 h2 hL
 obtain ⟨i0, hinf, hz0, hz1, hz2⟩ := info_parts info_know
 go_enter Tryz.func58, Tryz.ntmps58
 go_wp2_with fail
 go_loopw [9, 10] (fun out i wr => ∃ (i' : Nat) (acc : List Kn), i = .int .i64 i' ∧ i' ≤ L ∧ Hid (acc.length ≤ i') ∧ Hid (wr.ownsRow W.heap.size 161 3 out acc.length (rowZ Kn.cell 3 acc) ∧ Below W.heap.size W wr ∧ ∀ k ∈ acc, Brief k.name)) (fun _ i _ => L - (intOf i).toNat)
 case atStart => exact ⟨0, [], rfl, Nat.zero_le _, Nat.zero_le _, World.ownsRow_nil _ _ _ _, Below.refl _ _, fun k hk => by simp at hk⟩
 case round =>
   obtain ⟨i', acc, rfl, hle, HA, HO⟩ := hrel
   by_cases hi : (i' : Int) < (L : Int)
   · obtain ⟨b, off, xn, xt, xr, rfl, -, hbr, hq, c0, c1, c2⟩ := HK.out.at (i := i') (by omega)
     have c0 := (HO.out.2.1.cell (p := ⟨b, off + i' * 3, none⟩) hq.1).trans c0
     have c1 := (HO.out.2.1.cell (p := ⟨b, off + i' * 3 + 1, none⟩) hq.1).trans c1
     have c2 := (HO.out.2.1.cell (p := ⟨b, off + i' * 3 + 2, none⟩) hq.1).trans c2
     have hi0 : (0 : Int) ≤ (i' : Int) := by omega
     have hstep : L - (intOf (.int .i64 ((i' + 1 : Nat) : Int))).toNat < L - (intOf (.int .i64 (i' : Int))).toNat := z60 hi
     have HBr : Hid (∀ k ∈ [(⟨xn, xt, xr⟩ : Kn)], Brief k.name) := fun k hk => by rw [List.mem_singleton] at hk; rw [hk]; exact hbr
     have HS := hid (And.intro (show d.B < wr.heap.size by have := HO.out.2.1.size; have := HL.out; omega) (show d.G < wr.heap.size by have := HO.out.2.1.size; have := HL.out; omega))
     clear hbr hq
     go_wp2_with (at_builtin; refine z36 rfl _ _ 123 rfl _ _ rfl rfl (fun ty => app_row kn_one Tryz.underlying123 hinf hz0 hz1 hz2 rfl (by decide) (by decide) (HO.out.1.alloc _) (know_lit wr ⟨xn, xt, xr⟩ HS.out.1 HS.out.2) (by have := HA.out; have := HL.out; simp; omega) (by have := HO.out.2.1.size; simp; omega) ty) ?_; intro v5 w5 hv5; have HO5 := hid (kadd_step HO.out HBr.out hv5); clear hv5)
     · try rw [z31 (by have := HL.out; omega)]
       exact ⟨⟨i' + 1, acc ++ [⟨xn, xt, xr⟩], rfl, by omega, by show _ ≤ _; have := HA.out; simp; omega, HO5⟩, hstep⟩
     · try rw [z31 (by have := HL.out; omega)]
       exact ⟨⟨i' + 1, acc, rfl, by omega, by show _ ≤ _; have := HA.out; omega, HO⟩, hstep⟩
   · have e : i' = L := by omega
     subst e
     have HBr : Hid (∀ k ∈ [(⟨nm, ty, res⟩ : Kn)], Brief k.name) := fun k hk => by rw [List.mem_singleton] at hk; rw [hk]; exact HL.out.2.2.1
     have HS := hid (And.intro (show d.B < wr.heap.size by have := HO.out.2.1.size; have := HL.out; omega) (show d.G < wr.heap.size by have := HO.out.2.1.size; have := HL.out; omega))
     go_wp2_with (at_builtin; refine z36 rfl _ _ 123 rfl _ _ rfl rfl (fun ty_ => app_row kn_one Tryz.underlying123 hinf hz0 hz1 hz2 rfl (by decide) (by decide) (HO.out.1.alloc _) (know_lit wr ⟨nm, ty, res⟩ HS.out.1 HS.out.2) (by have := HA.out; have := HL.out; simp; omega) (by have := HO.out.2.1.size; simp; omega) ty_) ?_; intro v5 w5 hv5; have HO5 := hid (kadd_step HO.out HBr.out hv5); clear hv5)
     go_ret
     refine ⟨_, rfl, acc ++ [⟨nm, ty, res⟩], knows_owns HO5.out.1 HO5.out.2.2 HL.out.2.2.2.1 HL.out.2.2.2.2, ?_, HO5.out.2.1⟩
     have := HA.out
     simp
     omega
def NodesPost (d : Dr) (ve : Value) (W : World) (s : Cn) (c : Nat) (e : Ending) (W' : World) : Prop :=
 ∃ v ns s' t, e = .returned v ∧ NodesD d W' v ns ∧ (1 ≤ ns.length ∧ ns.length ≤ t) ∧ Gen d ve W' s' ∧ Grew d W W' ∧ Spent s s' t c
def NodesPost0 (d : Dr) (ve : Value) (W : World) (s : Cn) (c : Nat) (e : Ending) (W' : World) : Prop :=
 ∃ v ns s' t, e = .returned v ∧ NodesD d W' v ns ∧ ns.length ≤ t ∧ Gen d ve W' s' ∧ Grew d W W' ∧ Spent s s' t c
theorem nodes_none (d : Dr) (W : World) : NodesD d W (.slice none 0 0) [] := ⟨Or.inl ⟨rfl, rfl⟩, fun n hn => by simp at hn⟩
theorem Spent.refl (s : Cn) (c : Nat) : Spent s s 0 c := ⟨by omega, by omega, by omega, by omega, by omega⟩
theorem nd_lit {d : Dr} (W : World) (n : Nd) (h1 : d.B < W.heap.size) (h2 : d.G < W.heap.size) (hb : Brief n.a ∧ Brief n.b ∧ Brief n.c) : NodesD d (W.alloc (.cells #[.int .i64 n.kind, .int .i64 n.num, .string n.a, .string n.b, .string n.c, .int .i64 n.kids] 116)) (.slice (some ⟨W.heap.size, 0, none⟩) 1 1) [n] :=
 ⟨lies_lit (f := Nd.cell) (sz := 6) (by decide) W 116 [n] _ rfl h1 h2, fun x hx => by rw [List.mem_singleton] at hx; rw [hx]; exact hb⟩
set_option maxHeartbeats 4000000 in
set_option maxRecDepth 100000 in
theorem z63 {d : Dr} {ve v : Value} {W : World} {s : Cn} {ks : List Kn} (ty : Int) (h : Gen d ve W s) (hp : s.p ≤ 1000000) (hk : KnowsD d W v ks) (hl : ks.length ≤ 1000) :
   Calls Tryz.prog 83 #[.pointer (some ⟨d.G, 0, none⟩), v, .int .i64 ty] W (NodesPost0 d ve W s 1) := by
 obtain ⟨L, hL⟩ : ∃ L, ks.length = L := ⟨_, rfl⟩
 have HK := hid hk
 have HG := hid h
 have HL := hid (And.intro hL (And.intro hl hp))
 have g0 := h.c0
 obtain ⟨ad, cp, rfl⟩ := hk.is
 rw [hL] at HK ⊢
 obtain ⟨G, hGe⟩ : ∃ G, d.G = G := ⟨_, rfl⟩
 have HGe := hid hGe
 obtain ⟨B, hBe⟩ : ∃ B, d.B = B := ⟨_, rfl⟩
 have HBe := hid hBe
 rw [hGe, hBe] at g0
 rw [hGe]
 clear hk hl hp hL h hGe hBe
 go_enter Tryz.func83, Tryz.ntmps83
 go_wp2_with fail
 go_loopw [7, 8] (fun n i wr => ∃ (i' n' : Nat), n = .int .i64 n' ∧ i = .int .i64 i' ∧ i' ≤ L ∧ Hid (n' ≤ i') ∧ wr = W) (fun _ i _ => L - (intOf i).toNat)
 case atStart => exact ⟨0, 0, rfl, rfl, Nat.zero_le _, Nat.zero_le _, rfl⟩
 case round =>
   obtain ⟨i', n', rfl, rfl, hle, HN, rfl⟩ := hrel
   by_cases hi : (i' : Int) < (L : Int)
   · obtain ⟨b, off, xn, xt, xr, rfl, -, -, hq, c0, c1, c2⟩ := HK.out.at (i := i') (by omega)
     have hi0 : (0 : Int) ≤ (i' : Int) := by omega
     have hstep : L - (intOf (.int .i64 ((i' + 1 : Nat) : Int))).toNat < L - (intOf (.int .i64 (i' : Int))).toNat := z60 hi
     clear hq c0 c2
     go_wp2_with fail
     · rw [z31 (x := i') (by have := HL.out; omega), z31 (x := n') (by have := HL.out; have := HN.out; omega)]
       exact ⟨⟨i' + 1, n' + 1, rfl, rfl, by omega, by show _ ≤ _; have := HN.out; omega, by first | rfl | trivial⟩, hstep⟩
     · rw [z31 (x := i') (by have := HL.out; omega)]
       exact ⟨⟨i' + 1, n', rfl, rfl, by omega, by show _ ≤ _; have := HN.out; omega, by first | rfl | trivial⟩, hstep⟩
   · rename World => Wo
     by_cases hn0 : n' = 0
     · subst hn0
       go_wp2_with fail
       go_ret
       exact ⟨_, [], s, 0, rfl, nodes_none _ _, by simp, HG.out, Grew.refl _ _, Spent.refl _ _⟩
     · have hz : ((n' : Int) == 0) = false := by simp; omega
       have HP := hid (gen_pick HG.out (by have := HL.out; omega) (n' : Int) (by omega))
       rw [HBe.out] at HP
       go_wp2_with fail
       refine HP.out.mono ?_
       rintro e W2 ⟨k0, rfl, hk0, hk1, hg2, hgr2⟩
       have HG2 := hid (And.intro hg2 hgr2)
       have HK2 := hid (HK.out.grew hgr2)
       have HKk : Hid (k0 ≤ 1000) := by show _ ≤ _; have := HL.out; have := HN.out; omega
       clear HP hk1 hg2 hgr2 HK HG g0 hz hn0
       go_wp2_with fail
       go_loopw [9, 10] (fun k i wr => ∃ (i' : Nat) (k' : Int), k = .int .i64 k' ∧ i = .int .i64 i' ∧ i' ≤ L ∧ 0 ≤ k' ∧ Hid (k' ≤ 1000) ∧ wr = W2) (fun _ i _ => L - (intOf i).toNat)
       case atStart => exact ⟨0, k0, rfl, rfl, Nat.zero_le _, hk0, HKk, rfl⟩
       case round =>
         obtain ⟨i2, k2, rfl, rfl, hle2, hk20, HK21, rfl⟩ := hrel
         by_cases hi2 : (i2 : Int) < (L : Int)
         · obtain ⟨b, off, xn, xt, xr, rfl, -, hbr, hq, c0, c1, c2⟩ := HK2.out.at (i := i2) (by omega)
           have HBr := hid hbr
           have hi0 : (0 : Int) ≤ (i2 : Int) := by omega
           have hstep : L - (intOf (.int .i64 ((i2 + 1 : Nat) : Int))).toNat < L - (intOf (.int .i64 (i2 : Int))).toNat := z60 hi2
           clear hq c2 hbr
           by_cases hk2 : k2 = 0
           · subst hk2
             go_wp2_with fail
             · go_ret
               exact ⟨_, [⟨5, 0, xn, ByteArray.empty, ByteArray.empty, 0⟩], _, 1, rfl, nd_lit wr ⟨5, 0, xn, ByteArray.empty, ByteArray.empty, 0⟩ HG2.out.1.ltB HG2.out.1.ltG ⟨HBr.out, z14, z14⟩, by simp, HG2.out.1.alloc _, HG2.out.2.alloc _, by unfold Spent; dsimp only; omega⟩
             · rw [z31 (x := i2) (by have := HL.out; omega)]
               exact ⟨⟨i2 + 1, 0, rfl, rfl, by omega, Int.le_refl _, by show _ ≤ _; omega, by first | rfl | trivial⟩, hstep⟩
           · have hz2 : (k2 == 0) = false := by simp [hk2]
             have HW : Hid (wrap64 (k2 - 1) = k2 - 1) := by show _ = _; have := HK21.out; unfold wrap64; omega
             go_wp2_with fail
             · rw [z31 (x := i2) (by have := HL.out; omega)]
               try rw [HW.out]
               exact ⟨⟨i2 + 1, k2 - 1, rfl, rfl, by omega, by omega, by show _ ≤ _; have := HK21.out; omega, by first | rfl | trivial⟩, hstep⟩
             · rw [z31 (x := i2) (by have := HL.out; omega)]
               exact ⟨⟨i2 + 1, k2, rfl, rfl, by omega, hk20, HK21, by first | rfl | trivial⟩, hstep⟩
         · go_wp2_with fail
           go_ret
           exact ⟨_, [], _, 1, rfl, nodes_none _ _, by simp, HG2.out.1, HG2.out.2, by unfold Spent; dsimp only; omega⟩
def At (d : Dr) (ve : Value) (W : World) (s : Cn) (X : World) (s' : Cn) (t c : Nat) : Prop := Gen d ve X s' ∧ Grew d W X ∧ Spent s s' t c
theorem Spent.trans {s s1 s2 : Cn} {t t' c c' : Nat} (h : Spent s s1 t c) (g : Spent s1 s2 t' c') : Spent s s2 (t + t') (c + c') := by
 unfold Spent at h g ⊢
 omega
theorem Spent.mono {s s1 : Cn} {t c c' : Nat} (h : Spent s s1 t c) (hc : c ≤ c') : Spent s s1 t c' := by
 unfold Spent at h ⊢
 omega
theorem At.start {d : Dr} {ve : Value} {W : World} {s : Cn} (h : Gen d ve W s) : At d ve W s W s 0 0 := ⟨h, Grew.refl _ _, Spent.refl _ _⟩
theorem At.step {d : Dr} {ve : Value} {W X X' : World} {s s1 s2 : Cn} {t t' c c' : Nat} (h : At d ve W s X s1 t c) (h1 : Gen d ve X' s2) (h2 : Grew d X X') (h3 : Spent s1 s2 t' c') : At d ve W s X' s2 (t + t') (c + c') := ⟨h1, h.2.1.trans h2, h.2.2.trans h3⟩
theorem At.below {d : Dr} {ve : Value} {W X X' : World} {s s1 : Cn} {t c : Nat} (h : At d ve W s X s1 t c) (hb : Below X.heap.size X X') : At d ve W s X' s1 t c := ⟨h.1.below hb, h.2.1.trans (Grew.of_below hb), h.2.2⟩
theorem At.alloc {d : Dr} {ve : Value} {W X : World} {s s1 : Cn} {t c : Nat} (h : At d ve W s X s1 t c) (o : Obj) : At d ve W s (X.alloc o) s1 t c := h.below ((Below.refl _ _).alloc (Nat.le_refl _) o)
theorem At.drew {d : Dr} {ve : Value} {W X : World} {s s1 : Cn} {t c : Nat} (h : At d ve W s X s1 t c) : At d ve W s X.drew s1 t c := ⟨h.1.drew, h.2.1.drew, h.2.2⟩
theorem At.fit {d : Dr} {ve : Value} {W X : World} {s s1 : Cn} {t c C : Nat} (h : At d ve W s X s1 t c) (hf : Fit s C) (C' : Nat) (hc : c + C' ≤ C) : Fit s1 C' := by
 have h3 := h.2.2
 unfold Spent at h3
 unfold Fit at hf ⊢
 omega
theorem At.done {d : Dr} {ve : Value} {W X : World} {s s1 : Cn} {t c C : Nat} {v : Value} {ns : List Nd} (h : At d ve W s X s1 t c) (k : Nat) (hn : NodesD d X v ns) (hl : 1 ≤ ns.length ∧ ns.length ≤ t + k) (hc : c + k ≤ C) : NodesPost d ve W s C (.returned v) X :=
 ⟨v, ns, s1, t + k, rfl, hn, hl, h.1, h.2.1, by have h3 := h.2.2; unfold Spent at h3 ⊢; omega⟩
theorem At.done0 {d : Dr} {ve : Value} {W X : World} {s s1 : Cn} {t c C : Nat} {v : Value} {ns : List Nd} (h : At d ve W s X s1 t c) (k : Nat) (hn : NodesD d X v ns) (hl : ns.length ≤ t + k) (hc : c + k ≤ C) : NodesPost0 d ve W s C (.returned v) X :=
 ⟨v, ns, s1, t + k, rfl, hn, hl, h.1, h.2.1, by have h3 := h.2.2; unfold Spent at h3 ⊢; omega⟩
theorem At.pick {d : Dr} {ve : Value} {W X : World} {s s1 : Cn} {t c C : Nat} (h : At d ve W s X s1 t c) (hf : Fit s C) (hc : c < C) (n : Int) (hn : 0 < n) :
   Calls Tryz.prog 16 #[.pointer (some ⟨d.B, 0, none⟩), .int .i64 n] X fun e X' => ∃ (m : Int) (s2 : Cn), e = .returned (.int .i64 m) ∧ 0 ≤ m ∧ m < n ∧ At d ve W s X' s2 (t + 1) (c + 1) ∧ Grew d X X' := by
 have hf1 := h.fit hf 1 (by omega)
 refine (gen_pick h.1 (by unfold Fit at hf1; omega) n hn).mono ?_
 rintro e X' ⟨m, rfl, h0, h1, hg, hgr⟩
 exact ⟨m, _, rfl, h0, h1, h.step hg hgr (by unfold Spent; dsimp only; omega), hgr⟩
theorem At.name {d : Dr} {ve : Value} {W X : World} {s s1 : Cn} {t c C : Nat} (h : At d ve W s X s1 t c) (hf : Fit s C) (hc : c < C) :
   Calls Tryz.prog 57 #[.pointer (some ⟨d.G, 0, none⟩)] X fun e X' => ∃ (x : ByteArray) (s2 : Cn), e = .returned (.string x) ∧ Brief x ∧ At d ve W s X' s2 (t + 1) (c + 1) ∧ Grew d X X' := by
 have hf1 := h.fit hf 1 (by omega)
 refine (name_calls h.1 (by unfold Fit at hf1; omega)).mono ?_
 rintro e X' ⟨x, rfl, hb, hg, hgr⟩
 exact ⟨x, _, rfl, hb, h.step hg hgr (by unfold Spent; dsimp only; omega), hgr⟩
theorem At.nodes {d : Dr} {ve : Value} {W X : World} {s s1 : Cn} {t c c' : Nat} {f : FuncId} {args : Array Value} (h : At d ve W s X s1 t c) (hc : Calls Tryz.prog f args X (NodesPost d ve X s1 c')) :
   Calls Tryz.prog f args X fun e X' => ∃ v ns s2 t', e = .returned v ∧ NodesD d X' v ns ∧ (1 ≤ ns.length ∧ ns.length ≤ t') ∧ At d ve W s X' s2 (t + t') (c + c') ∧ Grew d X X' := by
 refine hc.mono ?_
 rintro e X' ⟨v, ns, s2, t', rfl, hn, hl, hg, hgr, hsp⟩
 exact ⟨v, ns, s2, t', rfl, hn, hl, h.step hg hgr hsp, hgr⟩
theorem At.nodes0 {d : Dr} {ve : Value} {W X : World} {s s1 : Cn} {t c c' : Nat} {f : FuncId} {args : Array Value} (h : At d ve W s X s1 t c) (hc : Calls Tryz.prog f args X (NodesPost0 d ve X s1 c')) :
   Calls Tryz.prog f args X fun e X' => ∃ v ns s2 t', e = .returned v ∧ NodesD d X' v ns ∧ ns.length ≤ t' ∧ At d ve W s X' s2 (t + t') (c + c') ∧ Grew d X X' := by
 refine hc.mono ?_
 rintro e X' ⟨v, ns, s2, t', rfl, hn, hl, hg, hgr, hsp⟩
 exact ⟨v, ns, s2, t', rfl, hn, hl, h.step hg hgr hsp, hgr⟩
theorem At.node {d : Dr} {ve : Value} {W X : World} {s s1 : Cn} {t c : Nat} (h : At d ve W s X s1 t c) (k n : Int) :
   Calls Tryz.prog 31 #[.int .i64 k, .int .i64 n] X fun e X' => ∃ v ns, e = .returned v ∧ NodesD d X' v ns ∧ ns.length = 1 ∧ At d ve W s X' s1 t c ∧ Grew d X X' := by
 refine (node_calls (d := d) k n X h.1.ltB h.1.ltG).mono ?_
 rintro e X' ⟨v, rfl, hn, hb⟩
 exact ⟨v, _, rfl, hn, rfl, h.below hb, Grew.of_below hb⟩
theorem At.add {d : Dr} {ve v : Value} {W X : World} {s s1 : Cn} {t c : Nat} {ks : List Kn} (h : At d ve W s X s1 t c) (nm : ByteArray) (ty res : Int) (hk : KnowsD d X v ks) (hb : Brief nm) (hl : ks.length ≤ 1000) :
   Calls Tryz.prog 58 #[v, .string nm, .int .i64 ty, .int .i64 res] X fun e X' => ∃ u ks', e = .returned u ∧ KnowsD d X' u ks' ∧ ks'.length ≤ ks.length + 1 ∧ At d ve W s X' s1 t c ∧ Grew d X X' := by
 refine (kadd_calls nm ty res X h.1.ltB h.1.ltG hk hb hl).mono ?_
 rintro e X' ⟨u, rfl, ks', hk', hl', hbl⟩
 exact ⟨u, ks', rfl, hk', hl', h.below hbl, Grew.of_below hbl⟩
theorem z47 {d : Dr} {X : World} (ls : List (Value × List Nd)) (c : Array Value) (hc : c = (ls.map Prod.fst).toArray) (h1 : d.B < X.heap.size) (h2 : d.G < X.heap.size) (h : ∀ x ∈ ls, NodesD d X x.1 x.2) :
   KidsV d (X.alloc (.cells c 53)) (.slice (some ⟨X.heap.size, 0, none⟩) ls.length ls.length) ls := by
 subst hc
 have hh := (MapKept.heap_alloc X (.cells (ls.map Prod.fst).toArray 53)).1
 refine ⟨Or.inr ⟨_, 0, _, rfl, Nat.le_refl _, rfl, ⟨z26 hh, by omega, by omega⟩, fun i hi => ?_⟩, fun x hx => (h x hx).grew (Grew.of_below ((Below.refl _ _).alloc (Nat.le_refl _) _))⟩
 rw [Nat.zero_add, z11 hh i, List.getElem?_toArray]
 rw [Nat.mul_one] at hi
 simp [List.getD, hi]
theorem At.put {d : Dr} {ve : Value} {W X : World} {s s1 : Cn} {t c : Nat} (h : At d ve W s X s1 t c) (ls : List (Value × List Nd)) (cs : Array Value) (m : Nat) (k nm kd : Int) (a b e' : ByteArray) (hc : cs = (ls.map Prod.fst).toArray) (hm : m = ls.length) (hls : ∀ x ∈ ls, NodesD d X x.1 x.2) (hb : Brief a ∧ Brief b ∧ Brief e') (hl : ls.length ≤ 1000) (hfl : (flatL ls).length ≤ 800000) :
   Calls Tryz.prog 56 #[.agg #[.int .i64 k, .int .i64 nm, .string a, .string b, .string e', .int .i64 kd], .slice (some ⟨X.heap.size, 0, none⟩) m m] (X.alloc (.cells cs 53)) fun e X' => ∃ v ns, e = .returned v ∧ NodesD d X' v ns ∧ ns.length = 1 + (flatL ls).length ∧ At d ve W s X' s1 t c ∧ Grew d X X' := by
 subst hm
 have hB : (X.alloc (.cells cs 53)).heap.size = X.heap.size + 1 := by simp
 refine (gput_calls (d := d) k nm kd a b e' (X.alloc (.cells cs 53)) _ ls (by rw [hB]; have := h.1.ltB; omega) (by rw [hB]; have := h.1.ltG; omega) (z47 ls cs hc h.1.ltB h.1.ltG hls) hb hl hfl).mono ?_
 rintro e X' ⟨v, rfl, hn, hbl⟩
 exact ⟨v, _, rfl, hn, by simp; omega, (h.alloc _).below hbl, (Grew.of_below ((Below.refl _ _).alloc (Nat.le_refl _) _)).trans (Grew.of_below hbl)⟩
theorem At.put1 {d : Dr} {ve : Value} {W X : World} {s s1 : Cn} {t c : Nat} (h : At d ve W s X s1 t c) (k nm kd : Int) (a b e' : ByteArray) {v1 : Value} {n1 : List Nd} (h1 : NodesD d X v1 n1) (hb : Brief a ∧ Brief b ∧ Brief e') (hfl : n1.length ≤ 800000) :
   Calls Tryz.prog 56 #[.agg #[.int .i64 k, .int .i64 nm, .string a, .string b, .string e', .int .i64 kd], .slice (some ⟨X.heap.size, 0, none⟩) 1 1] (X.alloc (.cells #[v1] 53)) fun e X' => ∃ v ns, e = .returned v ∧ NodesD d X' v ns ∧ ns.length = 1 + n1.length ∧ At d ve W s X' s1 t c ∧ Grew d X X' := by
 have hf : (flatL [(v1, n1)]).length = n1.length := by simp [flatL]
 rw [← hf]
 exact h.put [(v1, n1)] _ 1 k nm kd a b e' rfl rfl (fun x hx => by simp at hx; subst hx; exact h1) hb (by simp) (by omega)
theorem At.put2 {d : Dr} {ve : Value} {W X : World} {s s1 : Cn} {t c : Nat} (h : At d ve W s X s1 t c) (k nm kd : Int) (a b e' : ByteArray) {v1 v2 : Value} {n1 n2 : List Nd} (h1 : NodesD d X v1 n1) (h2 : NodesD d X v2 n2) (hb : Brief a ∧ Brief b ∧ Brief e') (hfl : n1.length + n2.length ≤ 800000) :
   Calls Tryz.prog 56 #[.agg #[.int .i64 k, .int .i64 nm, .string a, .string b, .string e', .int .i64 kd], .slice (some ⟨X.heap.size, 0, none⟩) 2 2] (X.alloc (.cells #[v1, v2] 53)) fun e X' => ∃ v ns, e = .returned v ∧ NodesD d X' v ns ∧ ns.length = 1 + (n1.length + n2.length) ∧ At d ve W s X' s1 t c ∧ Grew d X X' := by
 have hf : (flatL [(v1, n1), (v2, n2)]).length = n1.length + n2.length := by simp [flatL]
 rw [← hf]
 exact h.put [(v1, n1), (v2, n2)] _ 2 k nm kd a b e' rfl rfl (fun x hx => by simp at hx; rcases hx with rfl | rfl; exact h1; exact h2) hb (by simp) (by omega)
theorem At.put3 {d : Dr} {ve : Value} {W X : World} {s s1 : Cn} {t c : Nat} (h : At d ve W s X s1 t c) (k nm kd : Int) (a b e' : ByteArray) {v1 v2 v3 : Value} {n1 n2 n3 : List Nd} (h1 : NodesD d X v1 n1) (h2 : NodesD d X v2 n2) (h3 : NodesD d X v3 n3) (hb : Brief a ∧ Brief b ∧ Brief e') (hfl : n1.length + n2.length + n3.length ≤ 800000) :
   Calls Tryz.prog 56 #[.agg #[.int .i64 k, .int .i64 nm, .string a, .string b, .string e', .int .i64 kd], .slice (some ⟨X.heap.size, 0, none⟩) 3 3] (X.alloc (.cells #[v1, v2, v3] 53)) fun e X' => ∃ v ns, e = .returned v ∧ NodesD d X' v ns ∧ ns.length = 1 + (n1.length + n2.length + n3.length) ∧ At d ve W s X' s1 t c ∧ Grew d X X' := by
 have hf : (flatL [(v1, n1), (v2, n2), (v3, n3)]).length = n1.length + n2.length + n3.length := by simp [flatL]; omega
 rw [← hf]
 exact h.put [(v1, n1), (v2, n2), (v3, n3)] _ 3 k nm kd a b e' rfl rfl (fun x hx => by simp at hx; rcases hx with rfl | rfl | rfl; exact h1; exact h2; exact h3) hb (by simp) (by omega)
end
section
open Go.RowKit Go.Deep
theorem At.bound {d : Dr} {ve : Value} {W X : World} {s s1 : Cn} {t c C : Nat} (h : At d ve W s X s1 t c) (hf : Fit s C) (hc : c ≤ C) (hC : C ≤ 1000) : t ≤ 400000 := by
 have h3 := h.2.2
 unfold Spent at h3
 unfold Fit at hf
 omega
set_option maxHeartbeats 4000000 in
set_option maxRecDepth 100000 in
theorem leaf1 {d : Dr} {ve v : Value} {W : World} {s : Cn} {ks : List Kn} (ty : Int) (ht : ty = 1) (h : Gen d ve W s) (hf : Fit s 4) (hk : KnowsD d W v ks) (hl : ks.length ≤ 999) :
   Calls Tryz.prog 55 #[.pointer (some ⟨d.G, 0, none⟩), .int .i64 ty, v] W (NodesPost d ve W s 4) := by
 have HF := hid hf
 have A0 := hid (At.start h)
 have HKn := hid hk
 have HKl := hid hl
 have HK := hid (A0.out.nodes0 (z63 ty h (by unfold Fit at hf; omega) hk (by omega)))
 obtain ⟨ad, cp, rfl⟩ := hk.is
 clear hk hl h hf
 subst ht
 go_enter Tryz.func55, Tryz.ntmps55
 go_wp2_with fail
 refine HK.out.mono ?_
 rintro e X1 ⟨v1, n1, s1, t1, rfl, hn1, hl1, ha1, hg1⟩
 have A1 := hid ha1
 have N1 := hid (And.intro hn1 hl1)
 have G1 := hid hg1
 obtain ⟨ad1, cp1, rfl⟩ := hn1.is
 obtain ⟨l1, hl1e⟩ : ∃ l, n1.length = l := ⟨_, rfl⟩
 have HL1 := hid hl1e
 rw [hl1e] at N1 ⊢
 clear hn1 hl1 ha1 hg1 HK hl1e A0
 by_cases hz : l1 = 0
 · subst hz
   have g0 := A1.out.1.c0
   go_wp2_with fail
   refine (A1.out.pick HF.out (by omega) 10 (by decide)).mono ?_
   rintro e X2 ⟨m2, s2, rfl, hm2, hM2, ha, hg⟩
   have A2 := hid ha
   have G2 := hid hg
   clear ha hg
   clear g0
   go_wp2_with fail
   refine (A2.out.node 1 m2).mono ?_
   rintro e X3 ⟨v3, n3, rfl, hn3, hl3, ha, hg⟩
   have A3 := hid ha
   have G3 := hid hg
   clear ha hg
   have N3 := hid (And.intro hn3 hl3)
   obtain ⟨ad3, cp3, rfl⟩ := hn3.is
   clear hn3 hl3
   go_wp2_with fail
   go_ret
   exact A3.out.done 1 N3.out.1 (by have := N3.out.2; omega) (by omega)
 · have hz' : (0 : Int) < (l1 : Int) := by omega
   have g0 := A1.out.1.c0
   go_wp2_with fail
   refine (A1.out.pick HF.out (by omega) 3 (by decide)).mono ?_
   rintro e X2 ⟨m2, s2, rfl, hm2, hM2, ha, hg⟩
   have A2 := hid ha
   have G2 := hid hg
   clear ha hg
   clear g0
   by_cases hm : 0 < m2
   · go_wp2_with fail
     go_ret
     exact A2.out.done 0 (N1.out.1.grew G2.out) (by have := N1.out.2; have := HL1.out; omega) (by omega)
   · have hm0 : m2 = 0 := by omega
     subst hm0
     have g0 := A2.out.1.c0
     go_wp2_with fail
     refine (A2.out.pick HF.out (by omega) 10 (by decide)).mono ?_
     rintro e X3 ⟨m3, s3, rfl, hm3, hM3, ha, hg⟩
     have A3 := hid ha
     have G3 := hid hg
     clear ha hg
     clear g0
     go_wp2_with fail
     refine (A3.out.node 1 m3).mono ?_
     rintro e X4 ⟨v4, n4, rfl, hn4, hl4, ha, hg⟩
     have A4 := hid ha
     have G4 := hid hg
     clear ha hg
     have N4 := hid (And.intro hn4 hl4)
     obtain ⟨ad4, cp4, rfl⟩ := hn4.is
     clear hn4 hl4
     go_wp2_with fail
     go_ret
     exact A4.out.done 1 N4.out.1 (by have := N4.out.2; omega) (by omega)
set_option maxHeartbeats 4000000 in
set_option maxRecDepth 100000 in
theorem leaf2 {d : Dr} {ve v : Value} {W : World} {s : Cn} {ks : List Kn} (ty : Int) (ht : ty = 2) (h : Gen d ve W s) (hf : Fit s 4) (hk : KnowsD d W v ks) (hl : ks.length ≤ 999) :
   Calls Tryz.prog 55 #[.pointer (some ⟨d.G, 0, none⟩), .int .i64 ty, v] W (NodesPost d ve W s 4) := by
 have HF := hid hf
 have A0 := hid (At.start h)
 have HKn := hid hk
 have HKl := hid hl
 have HK := hid (A0.out.nodes0 (z63 ty h (by unfold Fit at hf; omega) hk (by omega)))
 obtain ⟨ad, cp, rfl⟩ := hk.is
 clear hk hl h hf
 subst ht
 go_enter Tryz.func55, Tryz.ntmps55
 go_wp2_with fail
 refine HK.out.mono ?_
 rintro e X1 ⟨v1, n1, s1, t1, rfl, hn1, hl1, ha1, hg1⟩
 have A1 := hid ha1
 have N1 := hid (And.intro hn1 hl1)
 have G1 := hid hg1
 obtain ⟨ad1, cp1, rfl⟩ := hn1.is
 obtain ⟨l1, hl1e⟩ : ∃ l, n1.length = l := ⟨_, rfl⟩
 have HL1 := hid hl1e
 rw [hl1e] at N1 ⊢
 clear hn1 hl1 ha1 hg1 HK hl1e A0
 by_cases hz : l1 = 0
 · subst hz
   have g0 := A1.out.1.c0
   go_wp2_with fail
   refine (A1.out.pick HF.out (by omega) 2 (by decide)).mono ?_
   rintro e X2 ⟨m2, s2, rfl, hm2, hM2, ha, hg⟩
   have A2 := hid ha
   have G2 := hid hg
   clear ha hg
   clear g0
   go_wp2_with fail
   refine (A2.out.node 2 m2).mono ?_
   rintro e X3 ⟨v3, n3, rfl, hn3, hl3, ha, hg⟩
   have A3 := hid ha
   have G3 := hid hg
   clear ha hg
   have N3 := hid (And.intro hn3 hl3)
   obtain ⟨ad3, cp3, rfl⟩ := hn3.is
   clear hn3 hl3
   go_wp2_with fail
   go_ret
   exact A3.out.done 1 N3.out.1 (by have := N3.out.2; omega) (by omega)
 · have hz' : (0 : Int) < (l1 : Int) := by omega
   have g0 := A1.out.1.c0
   go_wp2_with fail
   refine (A1.out.pick HF.out (by omega) 3 (by decide)).mono ?_
   rintro e X2 ⟨m2, s2, rfl, hm2, hM2, ha, hg⟩
   have A2 := hid ha
   have G2 := hid hg
   clear ha hg
   clear g0
   by_cases hm : 0 < m2
   · go_wp2_with fail
     go_ret
     exact A2.out.done 0 (N1.out.1.grew G2.out) (by have := N1.out.2; have := HL1.out; omega) (by omega)
   · have hm0 : m2 = 0 := by omega
     subst hm0
     have g0 := A2.out.1.c0
     go_wp2_with fail
     refine (A2.out.pick HF.out (by omega) 2 (by decide)).mono ?_
     rintro e X3 ⟨m3, s3, rfl, hm3, hM3, ha, hg⟩
     have A3 := hid ha
     have G3 := hid hg
     clear ha hg
     clear g0
     go_wp2_with fail
     refine (A3.out.node 2 m3).mono ?_
     rintro e X4 ⟨v4, n4, rfl, hn4, hl4, ha, hg⟩
     have A4 := hid ha
     have G4 := hid hg
     clear ha hg
     have N4 := hid (And.intro hn4 hl4)
     obtain ⟨ad4, cp4, rfl⟩ := hn4.is
     clear hn4 hl4
     go_wp2_with fail
     go_ret
     exact A4.out.done 1 N4.out.1 (by have := N4.out.2; omega) (by omega)
set_option maxHeartbeats 4000000 in
set_option maxRecDepth 100000 in
theorem leaf3 {d : Dr} {ve v : Value} {W : World} {s : Cn} {ks : List Kn} (ty : Int) (ht : ty = 3) (h : Gen d ve W s) (hf : Fit s 4) (hk : KnowsD d W v ks) (hl : ks.length ≤ 999) :
   Calls Tryz.prog 55 #[.pointer (some ⟨d.G, 0, none⟩), .int .i64 ty, v] W (NodesPost d ve W s 4) := by
 have HF := hid hf
 have A0 := hid (At.start h)
 have HKn := hid hk
 have HKl := hid hl
 have HK := hid (A0.out.nodes0 (z63 ty h (by unfold Fit at hf; omega) hk (by omega)))
 obtain ⟨ad, cp, rfl⟩ := hk.is
 clear hk hl h hf
 subst ht
 go_enter Tryz.func55, Tryz.ntmps55
 go_wp2_with fail
 refine HK.out.mono ?_
 rintro e X1 ⟨v1, n1, s1, t1, rfl, hn1, hl1, ha1, hg1⟩
 have A1 := hid ha1
 have N1 := hid (And.intro hn1 hl1)
 have G1 := hid hg1
 obtain ⟨ad1, cp1, rfl⟩ := hn1.is
 obtain ⟨l1, hl1e⟩ : ∃ l, n1.length = l := ⟨_, rfl⟩
 have HL1 := hid hl1e
 rw [hl1e] at N1 ⊢
 clear hn1 hl1 ha1 hg1 HK hl1e A0
 by_cases hz : l1 = 0
 · subst hz
   go_wp2_with fail
   refine (A1.out.node 3 0).mono ?_
   rintro e X2 ⟨v2, n2, rfl, hn2, hl2, ha, hg⟩
   have A2 := hid ha
   have G2 := hid hg
   clear ha hg
   have N2 := hid (And.intro hn2 hl2)
   obtain ⟨ad2, cp2, rfl⟩ := hn2.is
   clear hn2 hl2
   go_wp2_with fail
   go_ret
   exact A2.out.done 1 N2.out.1 (by have := N2.out.2; omega) (by omega)
 · have hz' : (0 : Int) < (l1 : Int) := by omega
   have g0 := A1.out.1.c0
   go_wp2_with fail
   refine (A1.out.pick HF.out (by omega) 3 (by decide)).mono ?_
   rintro e X2 ⟨m2, s2, rfl, hm2, hM2, ha, hg⟩
   have A2 := hid ha
   have G2 := hid hg
   clear ha hg
   clear g0
   by_cases hm : 0 < m2
   · go_wp2_with fail
     go_ret
     exact A2.out.done 0 (N1.out.1.grew G2.out) (by have := N1.out.2; have := HL1.out; omega) (by omega)
   · have hm0 : m2 = 0 := by omega
     subst hm0
     go_wp2_with fail
     refine (A2.out.node 3 0).mono ?_
     rintro e X3 ⟨v3, n3, rfl, hn3, hl3, ha, hg⟩
     have A3 := hid ha
     have G3 := hid hg
     clear ha hg
     have N3 := hid (And.intro hn3 hl3)
     obtain ⟨ad3, cp3, rfl⟩ := hn3.is
     clear hn3 hl3
     go_wp2_with fail
     go_ret
     exact A3.out.done 1 N3.out.1 (by have := N3.out.2; omega) (by omega)
set_option maxHeartbeats 4000000 in
set_option maxRecDepth 100000 in
theorem leaf4 {d : Dr} {ve v : Value} {W : World} {s : Cn} {ks : List Kn} (ty : Int) (ht : ty = 4) (h : Gen d ve W s) (hf : Fit s 4) (hk : KnowsD d W v ks) (hl : ks.length ≤ 999) :
   Calls Tryz.prog 55 #[.pointer (some ⟨d.G, 0, none⟩), .int .i64 ty, v] W (NodesPost d ve W s 4) := by
 have HF := hid hf
 have A0 := hid (At.start h)
 have HKn := hid hk
 have HKl := hid hl
 have HK := hid (A0.out.nodes0 (z63 ty h (by unfold Fit at hf; omega) hk (by omega)))
 obtain ⟨ad, cp, rfl⟩ := hk.is
 clear hk hl h hf
 subst ht
 go_enter Tryz.func55, Tryz.ntmps55
 go_wp2_with fail
 refine HK.out.mono ?_
 rintro e X1 ⟨v1, n1, s1, t1, rfl, hn1, hl1, ha1, hg1⟩
 have A1 := hid ha1
 have N1 := hid (And.intro hn1 hl1)
 have G1 := hid hg1
 obtain ⟨ad1, cp1, rfl⟩ := hn1.is
 obtain ⟨l1, hl1e⟩ : ∃ l, n1.length = l := ⟨_, rfl⟩
 have HL1 := hid hl1e
 rw [hl1e] at N1 ⊢
 clear hn1 hl1 ha1 hg1 HK hl1e A0
 by_cases hz : l1 = 0
 · subst hz
   go_wp2_with fail
   refine (A1.out.node 4 0).mono ?_
   rintro e X2 ⟨v2, n2, rfl, hn2, hl2, ha, hg⟩
   have A2 := hid ha
   have G2 := hid hg
   clear ha hg
   have N2 := hid (And.intro hn2 hl2)
   obtain ⟨ad2, cp2, rfl⟩ := hn2.is
   clear hn2 hl2
   go_wp2_with fail
   go_ret
   exact A2.out.done 1 N2.out.1 (by have := N2.out.2; omega) (by omega)
 · have hz' : (0 : Int) < (l1 : Int) := by omega
   have g0 := A1.out.1.c0
   go_wp2_with fail
   refine (A1.out.pick HF.out (by omega) 3 (by decide)).mono ?_
   rintro e X2 ⟨m2, s2, rfl, hm2, hM2, ha, hg⟩
   have A2 := hid ha
   have G2 := hid hg
   clear ha hg
   clear g0
   by_cases hm : 0 < m2
   · go_wp2_with fail
     go_ret
     exact A2.out.done 0 (N1.out.1.grew G2.out) (by have := N1.out.2; have := HL1.out; omega) (by omega)
   · have hm0 : m2 = 0 := by omega
     subst hm0
     go_wp2_with fail
     refine (A2.out.node 4 0).mono ?_
     rintro e X3 ⟨v3, n3, rfl, hn3, hl3, ha, hg⟩
     have A3 := hid ha
     have G3 := hid hg
     clear ha hg
     have N3 := hid (And.intro hn3 hl3)
     obtain ⟨ad3, cp3, rfl⟩ := hn3.is
     clear hn3 hl3
     go_wp2_with fail
     go_ret
     exact A3.out.done 1 N3.out.1 (by have := N3.out.2; omega) (by omega)
set_option maxHeartbeats 4000000 in
set_option maxRecDepth 100000 in
theorem gleaf5 {d : Dr} {ve v : Value} {W : World} {s : Cn} {ks : List Kn} (ty : Int) (h1 : ty ≠ 1) (h2 : ty ≠ 2) (h3 : ty ≠ 3) (h4 : ty ≠ 4) (h : Gen d ve W s) (hf : Fit s 10) (hk : KnowsD d W v ks) (hl : ks.length ≤ 998) :
   Calls Tryz.prog 55 #[.pointer (some ⟨d.G, 0, none⟩), .int .i64 ty, v] W (NodesPost d ve W s 10) := by
 have HF := hid hf
 have A0 := hid (At.start h)
 have HKn := hid hk
 have HKl := hid hl
 have HK := hid (A0.out.nodes0 (z63 ty h (by unfold Fit at hf; omega) hk (by omega)))
 obtain ⟨ad, cp, rfl⟩ := hk.is
 clear hk hl h hf
 have e1 : (ty == 1) = false := by simp [h1]
 have e2 : (ty == 2) = false := by simp [h2]
 have e3 : (ty == 3) = false := by simp [h3]
 have e4 : (ty == 4) = false := by simp [h4]
 clear h1 h2 h3 h4
 go_enter Tryz.func55, Tryz.ntmps55
 go_wp2_with fail
 refine HK.out.mono ?_
 rintro e X1 ⟨v1, n1, s1, t1, rfl, hn1, hl1, ha1, hg1⟩
 have A1 := hid ha1
 have N1 := hid (And.intro hn1 hl1)
 have G1 := hid hg1
 obtain ⟨ad1, cp1, rfl⟩ := hn1.is
 obtain ⟨l1, hl1e⟩ : ∃ l, n1.length = l := ⟨_, rfl⟩
 have HL1 := hid hl1e
 rw [hl1e] at N1 ⊢
 clear hn1 hl1 ha1 hg1 HK hl1e A0
 by_cases hz : l1 = 0
 · subst hz
   go_wp2_with fail
   refine (A1.out.name HF.out (by omega)).mono ?_
   rintro e X2 ⟨x2, s2, rfl, hb2, ha, hg⟩
   have A2 := hid ha
   have G2 := hid hg
   clear ha hg
   have B2 := hid hb2
   clear hb2
   go_wp2_with fail
   refine (A2.out.add x2 1 0 (HKn.out.grew (G1.out.trans G2.out)) B2.out (by have := HKl.out; omega)).mono ?_
   rintro e X3 ⟨u3, ks3, rfl, hk3, hkl3, ha, hg⟩
   have A3 := hid ha
   have G3 := hid hg
   clear ha hg
   have K3 := hid (And.intro hk3 hkl3)
   clear hk3 hkl3
   go_wp2_with fail
   refine (A3.out.nodes (leaf1 1 rfl A3.out.1 (A3.out.fit HF.out 4 (by omega)) K3.out.1 (by have := K3.out.2; have := HKl.out; omega))).mono ?_
   rintro e X4 ⟨v4, n4, s4, t4, rfl, hn4, hl4, ha, hg⟩
   have A4 := hid ha
   have G4 := hid hg
   clear ha hg
   have N4 := hid (And.intro hn4 hl4)
   obtain ⟨ad4, cp4, rfl⟩ := hn4.is
   clear hn4 hl4
   go_wp2_with fail
   refine (A4.out.put1 6 0 0 x2 ByteArray.empty ByteArray.empty N4.out.1 ⟨B2.out, z14, z14⟩ (by have := A4.out.bound HF.out (by omega) (by decide); have := N4.out.2; omega)).mono ?_
   rintro e X5 ⟨v5, n5, rfl, hn5, hl5, ha, hg⟩
   have A5 := hid ha
   have G5 := hid hg
   clear ha hg
   have N5 := hid (And.intro hn5 hl5)
   obtain ⟨ad5, cp5, rfl⟩ := hn5.is
   clear hn5 hl5
   go_wp2_with fail
   go_ret
   exact A5.out.done 1 N5.out.1 (by have := N5.out.2; have := N4.out.2; omega) (by omega)
 · have hz' : (0 : Int) < (l1 : Int) := by omega
   have g0 := A1.out.1.c0
   go_wp2_with fail
   refine (A1.out.pick HF.out (by omega) 3 (by decide)).mono ?_
   rintro e X2 ⟨m2, s2, rfl, hm2, hM2, ha, hg⟩
   have A2 := hid ha
   have G2 := hid hg
   clear ha hg
   clear g0
   by_cases hm : 0 < m2
   · go_wp2_with fail
     go_ret
     exact A2.out.done 0 (N1.out.1.grew G2.out) (by have := N1.out.2; have := HL1.out; omega) (by omega)
   · have hm0 : m2 = 0 := by omega
     subst hm0
     go_wp2_with fail
     refine (A2.out.name HF.out (by omega)).mono ?_
     rintro e X3 ⟨x3, s3, rfl, hb3, ha, hg⟩
     have A3 := hid ha
     have G3 := hid hg
     clear ha hg
     have B3 := hid hb3
     clear hb3
     go_wp2_with fail
     refine (A3.out.add x3 1 0 (HKn.out.grew (G1.out.trans (G2.out.trans G3.out))) B3.out (by have := HKl.out; omega)).mono ?_
     rintro e X4 ⟨u4, ks4, rfl, hk4, hkl4, ha, hg⟩
     have A4 := hid ha
     have G4 := hid hg
     clear ha hg
     have K4 := hid (And.intro hk4 hkl4)
     clear hk4 hkl4
     go_wp2_with fail
     refine (A4.out.nodes (leaf1 1 rfl A4.out.1 (A4.out.fit HF.out 4 (by omega)) K4.out.1 (by have := K4.out.2; have := HKl.out; omega))).mono ?_
     rintro e X5 ⟨v5, n5, s5, t5, rfl, hn5, hl5, ha, hg⟩
     have A5 := hid ha
     have G5 := hid hg
     clear ha hg
     have N5 := hid (And.intro hn5 hl5)
     obtain ⟨ad5, cp5, rfl⟩ := hn5.is
     clear hn5 hl5
     go_wp2_with fail
     refine (A5.out.put1 6 0 0 x3 ByteArray.empty ByteArray.empty N5.out.1 ⟨B3.out, z14, z14⟩ (by have := A5.out.bound HF.out (by omega) (by decide); have := N5.out.2; omega)).mono ?_
     rintro e X6 ⟨v6, n6, rfl, hn6, hl6, ha, hg⟩
     have A6 := hid ha
     have G6 := hid hg
     clear ha hg
     have N6 := hid (And.intro hn6 hl6)
     obtain ⟨ad6, cp6, rfl⟩ := hn6.is
     clear hn6 hl6
     go_wp2_with fail
     go_ret
     exact A6.out.done 1 N6.out.1 (by have := N6.out.2; have := N5.out.2; omega) (by omega)
theorem Fit.mono {s : Cn} {c c' : Nat} (h : Fit s c) (hc : c' ≤ c) : Fit s c' := by
 unfold Fit at h ⊢
 omega
theorem NodesPost.mono {d : Dr} {ve : Value} {W W' : World} {s : Cn} {c c' : Nat} {e : Ending} (h : NodesPost d ve W s c e W') (hc : c ≤ c') : NodesPost d ve W s c' e W' := by
 obtain ⟨v, ns, s', t, h1, h2, h3, h4, h5, h6⟩ := h
 exact ⟨v, ns, s', t, h1, h2, h3, h4, h5, h6.mono hc⟩
theorem leaf_calls {d : Dr} {ve v : Value} {W : World} {s : Cn} {ks : List Kn} (ty : Int) (h : Gen d ve W s) (hf : Fit s 10) (hk : KnowsD d W v ks) (hl : ks.length ≤ 998) :
   Calls Tryz.prog 55 #[.pointer (some ⟨d.G, 0, none⟩), .int .i64 ty, v] W (NodesPost d ve W s 10) := by
 by_cases h1 : ty = 1
 · exact (leaf1 ty h1 h (hf.mono (by omega)) hk (by omega)).mono fun e W' h => h.mono (by omega)
 by_cases h2 : ty = 2
 · exact (leaf2 ty h2 h (hf.mono (by omega)) hk (by omega)).mono fun e W' h => h.mono (by omega)
 by_cases h3 : ty = 3
 · exact (leaf3 ty h3 h (hf.mono (by omega)) hk (by omega)).mono fun e W' h => h.mono (by omega)
 by_cases h4 : ty = 4
 · exact (leaf4 ty h4 h (hf.mono (by omega)) hk (by omega)).mono fun e W' h => h.mono (by omega)
 exact gleaf5 ty h1 h2 h3 h4 h hf hk hl
end
section
open Go.RowKit Go.Deep
def EffsD (d : Dr) (W : World) (v : Value) (es : List Ef) : Prop := Lies d W v es.length 3 (fun i => (es.getD (i / 3) default).cell (i % 3)) ∧ ∀ e ∈ es, Brief e.name
theorem EffsD.grew {d : Dr} {W W' : World} {v : Value} {es : List Ef} (h : EffsD d W v es) (g : Grew d W W') : EffsD d W' v es := ⟨h.1.grew g, h.2⟩
theorem EffsD.is {d : Dr} {W : World} {v : Value} {es : List Ef} (h : EffsD d W v es) : ∃ ad cp, v = .slice ad es.length cp := h.1.is
theorem EffsD.at {d : Dr} {W : World} {ad : Option Addr} {n cp : Nat} {es : List Ef} (h : EffsD d W (.slice ad n cp) es) {i : Nat} (hi : i < n) : ∃ b off nm ar re, ad = some ⟨b, off, none⟩ ∧ es.getD i default = ⟨nm, ar, re⟩ ∧ Brief nm ∧ d.free W b ∧ W.cell? ⟨b, off + i * 3, none⟩ = some (.string nm) ∧ W.cell? ⟨b, off + i * 3 + 1, none⟩ = some (.int .i64 ar) ∧ W.cell? ⟨b, off + i * 3 + 2, none⟩ = some (.int .i64 re) := by
 obtain ⟨h, hB⟩ := h
 obtain ⟨hl, -, b, off, rfl, hq, hc⟩ := h.at (by omega)
 obtain ⟨k, hk⟩ : ∃ k, es.getD i default = k := ⟨_, rfl⟩
 have hb := hB _ (getD_mem (l := es) (k := i) (by omega))
 have e : ∀ c, c < 3 → W.cell? ⟨b, off + (i * 3 + c), none⟩ = some (k.cell c) := fun c hc' => by
   rw [hc (i * 3 + c) (by omega), ← hk]
   exact congrArg some (cell_div es Ef.cell 3 i c hc')
 rw [hk] at hb
 obtain ⟨nm, ar, re⟩ := k
 exact ⟨b, off, nm, ar, re, rfl, hk, hb, hq, e 0 (by omega), e 1 (by omega), e 2 (by omega)⟩

structure Env (d : Dr) (ve : Value) (es : List Ef) (X : World) (v : Value) (ks : List Kn) (vm : Value) (ms : List Bool) (D : Nat) : Prop where
 know : KnowsD d X v ks
 may : BoolsD d X vm ms
 len : ms.length = es.length
 effs : EffsD d X ve es
 room : ks.length + 4 * D ≤ 400
 few : es.length ≤ 4
theorem Env.grew {d : Dr} {ve : Value} {es : List Ef} {X X' : World} {v : Value} {ks : List Kn} {vm : Value} {ms : List Bool} {D : Nat} (h : Env d ve es X v ks vm ms D) (g : Grew d X X') : Env d ve es X' v ks vm ms D :=
 ⟨h.know.grew g, h.may.grew g, h.len, h.effs.grew g, h.room, h.few⟩
theorem Env.down {d : Dr} {ve : Value} {es : List Ef} {X : World} {v : Value} {ks : List Kn} {vm : Value} {ms : List Bool} {D : Nat} (h : Env d ve es X v ks vm ms (D + 1)) : Env d ve es X v ks vm ms D :=
 ⟨h.know, h.may, h.len, h.effs, by have := h.room; omega, h.few⟩
theorem Env.with {d : Dr} {ve : Value} {es : List Ef} {X : World} {v u : Value} {ks ks' : List Kn} {vm : Value} {ms : List Bool} {D : Nat} (h : Env d ve es X v ks vm ms (D + 1)) (hk : KnowsD d X u ks') (hl : ks'.length ≤ ks.length + 4) : Env d ve es X u ks' vm ms D :=
 ⟨hk, h.may, h.len, h.effs, by have := h.room; omega, h.few⟩
theorem Env.let {d : Dr} {ve : Value} {es : List Ef} {X : World} {v um : Value} {ks : List Kn} {vm : Value} {ms ms' : List Bool} {D : Nat} (h : Env d ve es X v ks vm ms (D + 1)) (hm : BoolsD d X um ms') (hl : ms'.length = es.length) : Env d ve es X v ks um ms' D :=
 ⟨h.know, hm, hl, h.effs, by have := h.room; omega, h.few⟩
def OfC (d : Dr) (ve : Value) (es : List Ef) (D : Nat) : Prop :=
 ∀ (deep ty : Int) (v vm : Value) (ks : List Kn) (ms : List Bool) (X : World) (s : Cn), deep ≤ D → -100 ≤ deep → Fit s 10 → Gen d ve X s → Env d ve es X v ks vm ms D →
   Calls Tryz.prog 30 #[.pointer (some ⟨d.G, 0, none⟩), .int .i64 ty, v, vm, .int .i64 deep] X (NodesPost d ve X s 10)
set_option maxRecDepth 100000 in
theorem z65 (b : Int) (W : World) : Calls Tryz.prog 85 #[.int .i64 b] W fun e W' => e = .returned (.int .i64 b) ∧ W = W' := by
 go_enter Tryz.func85, Tryz.ntmps85
 go_wp2_with fail
 go_ret
 exact ⟨rfl, rfl⟩
theorem nd_lit_at {d : Dr} (W : World) (n : Nd) (q : Nat) (hq : W.heap.size = q) (h1 : d.B < W.heap.size) (h2 : d.G < W.heap.size) (hb : Brief n.a ∧ Brief n.b ∧ Brief n.c) : NodesD d (W.alloc (.cells #[.int .i64 n.kind, .int .i64 n.num, .string n.a, .string n.b, .string n.c, .int .i64 n.kids] 116)) (.slice (some ⟨q, 0, none⟩) 1 1) [n] := by
 subst hq
 exact nd_lit W n h1 h2 hb
theorem two_get (a b : Int) (m : Int) (h0 : 0 ≤ m) (h1 : m < 2) : ∃ k : Int, (#[.int .i64 a, .int .i64 b] : Array Value)[m.toNat]? = some (.int .i64 k) := by
 have h : m = 0 ∨ m = 1 := by omega
 rcases h with rfl | rfl <;> exact ⟨_, rfl⟩
theorem KidsV.grew {d : Dr} {X X' : World} {v : Value} {ls : List (Value × List Nd)} (h : KidsV d X v ls) (g : Grew d X X') : KidsV d X' v ls := ⟨h.1.grew g, fun x hx => (h.2 x hx).grew g⟩
theorem At.put_kids {d : Dr} {ve : Value} {W X : World} {s s1 : Cn} {t c : Nat} (h : At d ve W s X s1 t c) {ls : List (Value × List Nd)} {vk : Value} (k nm kd : Int) (a b e' : ByteArray) (hk : KidsV d X vk ls) (hb : Brief a ∧ Brief b ∧ Brief e') (hl : ls.length ≤ 1000) (hfl : (flatL ls).length ≤ 800000) :
   Calls Tryz.prog 56 #[.agg #[.int .i64 k, .int .i64 nm, .string a, .string b, .string e', .int .i64 kd], vk] X fun e X' => ∃ v ns, e = .returned v ∧ NodesD d X' v ns ∧ ns.length = 1 + (flatL ls).length ∧ At d ve W s X' s1 t c ∧ Grew d X X' := by
 refine (gput_calls (d := d) k nm kd a b e' X _ ls h.1.ltB h.1.ltG hk hb hl hfl).mono ?_
 rintro e X' ⟨v, rfl, hn, hbl⟩
 exact ⟨v, _, rfl, hn, by simp; omega, h.below hbl, Grew.of_below hbl⟩
end
section
open Go.RowKit Go.Deep
theorem none_post {d : Dr} {ve : Value} {W X : World} {s s1 : Cn} {t c C : Nat} (h : At d ve W s X s1 t c) (hc : c ≤ C) : NodesPost0 d ve W s C (.returned (.slice none 0 0)) X :=
 h.done0 0 (nodes_none _ _) (by simp) (by omega)
set_option maxHeartbeats 8000000 in
set_option maxRecDepth 100000 in
theorem cont_calls {d : Dr} {ve v vm : Value} {es : List Ef} {W : World} {s : Cn} {ks : List Kn} {ms : List Bool} {D : Nat} (ty : Int) (deep : Int) (hO : OfC d ve es D) (h1 : deep ≤ D) (h2 : -90 ≤ deep) (h3 : D ≤ 100) (h : Gen d ve W s) (hf : Fit s 30) (hE : Env d ve es W v ks vm ms (D + 1)) :
   Calls Tryz.prog 60 #[.pointer (some ⟨d.G, 0, none⟩), .int .i64 ty, v, vm, .int .i64 deep] W (NodesPost0 d ve W s 30) := by
 have HF := hid hf
 have HO := hid hO
 have A0 := hid (At.start h)
 have HE := hid hE
 have HD := hid (And.intro h1 (And.intro h2 h3))
 have hdu : deep ≤ 1000 := by omega
 obtain ⟨ad, cp, rfl⟩ := hE.know.is
 obtain ⟨adm, cpm, rfl⟩ := hE.may.is
 clear hO h1 h3 h hf hE
 obtain ⟨L, hL⟩ : ∃ L, ks.length = L := ⟨_, rfl⟩
 have HL : Hid (ks.length = L ∧ L ≤ 1000) := ⟨hL, by have := HE.out.room; omega⟩
 rw [hL] at HE ⊢
 clear hL
 have hL0 : Hid (wrap64 ((L : Int) - 1) = (L : Int) - 1) := by show _ = _; have := HL.out.2; unfold wrap64; omega
 go_enter Tryz.func60, Tryz.ntmps60
 go_wp2_with fail
 try rw [hL0.out]
 go_loopw [11] (fun i wr => ∃ i' : Nat, i = .int .i64 ((i' : Int) - 1) ∧ i' ≤ L ∧ wr = W) (fun i _ => (intOf i + 1).toNat)
 case atStart => exact ⟨L, rfl, Nat.le_refl _, rfl⟩
 case round =>
   obtain ⟨i', rfl, hle, rfl⟩ := hrel
   by_cases hz : i' = 0
   · subst hz
     go_wp2_with fail
     go_ret
     exact none_post A0.out (by omega)
   · obtain ⟨j, rfl⟩ : ∃ j, i' = j + 1 := ⟨i' - 1, by omega⟩
     have ej : ((j + 1 : Nat) : Int) - 1 = (j : Int) := by omega
     rw [ej]
     obtain ⟨b, off, xn, xt, xr, rfl, -, hbr, hq, c0, c1, c2⟩ := HE.out.know.at (i := j) (by omega)
     have HQ := hid (And.intro hq hbr)
     have hj0 : (0 : Int) ≤ (j : Int) := by omega
     have hjl : (j : Int) < (L : Int) := by omega
     have HW : Hid (wrap64 ((j : Int) - 1) = (j : Int) - 1) := by show _ = _; have := HL.out.2; unfold wrap64; omega
     have hstep : (intOf (.int .i64 ((j : Int) - 1)) + 1).toNat < (intOf (.int .i64 (j : Int)) + 1).toNat := by simp [intOf]
     clear hq hbr hz
     by_cases hty : (xt == wrap64 (10 + ty)) = true
     · go_upto_region 5 with fail
       refine z33 (S := fun w' => w'.cell? ⟨b, off + j * 3, none⟩ = some (.string xn) ∧ w'.cell? ⟨b, off + j * 3 + 2, none⟩ = some (.int .i64 xr)) (by kernel_rfl) rfl rfl ?_
       have A1 := hid A0.out.drew
       have G1 := hid (Grew.refl d wr).drew
       generalize wr.drew = X1 at *
       refine pick_o 0 (.agg #[.int .i64 7, .int .i64 0, .string ⟨#[]⟩, .string ⟨#[]⟩, .string ⟨#[]⟩, .int .i64 0]) ⟨((G1.out.cell (p := ⟨b, off + j * 3, none⟩) HQ.out.1).trans c0), ((G1.out.cell (p := ⟨b, off + j * 3 + 2, none⟩) HQ.out.1).trans c2)⟩ ?_
       refine pick_o 1 (.slice (some ⟨b, off, none⟩) L cp) ⟨((G1.out.cell (p := ⟨b, off + j * 3, none⟩) HQ.out.1).trans c0), ((G1.out.cell (p := ⟨b, off + j * 3 + 2, none⟩) HQ.out.1).trans c2)⟩ ?_
       refine pick_o 2 (.int .i64 (j : Int)) ⟨((G1.out.cell (p := ⟨b, off + j * 3, none⟩) HQ.out.1).trans c0), ((G1.out.cell (p := ⟨b, off + j * 3 + 2, none⟩) HQ.out.1).trans c2)⟩ ?_
       refine pick_o (hy := fun w' hw => by simp [go_sem, hj0, hjl]) 3 (.pointer (some ⟨b, off + j * 3, none⟩)) ⟨((G1.out.cell (p := ⟨b, off + j * 3, none⟩) HQ.out.1).trans c0), ((G1.out.cell (p := ⟨b, off + j * 3 + 2, none⟩) HQ.out.1).trans c2)⟩ ?_
       refine pick_o 4 (.pointer (some ⟨b, off + j * 3, none⟩)) ⟨((G1.out.cell (p := ⟨b, off + j * 3, none⟩) HQ.out.1).trans c0), ((G1.out.cell (p := ⟨b, off + j * 3 + 2, none⟩) HQ.out.1).trans c2)⟩ ?_
       refine pick_o (hy := fun w' hw => by simp [go_sem, hw.1]) 5 (.string xn) ⟨((G1.out.cell (p := ⟨b, off + j * 3, none⟩) HQ.out.1).trans c0), ((G1.out.cell (p := ⟨b, off + j * 3 + 2, none⟩) HQ.out.1).trans c2)⟩ ?_
       refine pick_o 6 (.agg #[.int .i64 5, .int .i64 0, .string xn, .string ⟨#[]⟩, .string ⟨#[]⟩, .int .i64 0]) ⟨((G1.out.cell (p := ⟨b, off + j * 3, none⟩) HQ.out.1).trans c0), ((G1.out.cell (p := ⟨b, off + j * 3 + 2, none⟩) HQ.out.1).trans c2)⟩ ?_
       refine pick_o 8 (.pointer (some ⟨d.G, 0, none⟩)) ⟨((G1.out.cell (p := ⟨b, off + j * 3, none⟩) HQ.out.1).trans c0), ((G1.out.cell (p := ⟨b, off + j * 3 + 2, none⟩) HQ.out.1).trans c2)⟩ ?_
       refine pick_o 9 (.slice (some ⟨b, off, none⟩) L cp) ⟨((G1.out.cell (p := ⟨b, off + j * 3, none⟩) HQ.out.1).trans c0), ((G1.out.cell (p := ⟨b, off + j * 3 + 2, none⟩) HQ.out.1).trans c2)⟩ ?_
       refine pick_o 10 (.int .i64 (j : Int)) ⟨((G1.out.cell (p := ⟨b, off + j * 3, none⟩) HQ.out.1).trans c0), ((G1.out.cell (p := ⟨b, off + j * 3 + 2, none⟩) HQ.out.1).trans c2)⟩ ?_
       refine pick_o (hy := fun w' hw => by simp [go_sem, hj0, hjl]) 11 (.pointer (some ⟨b, off + j * 3, none⟩)) ⟨((G1.out.cell (p := ⟨b, off + j * 3, none⟩) HQ.out.1).trans c0), ((G1.out.cell (p := ⟨b, off + j * 3 + 2, none⟩) HQ.out.1).trans c2)⟩ ?_
       refine pick_o 12 (.pointer (some ⟨b, off + j * 3 + 2, none⟩)) ⟨((G1.out.cell (p := ⟨b, off + j * 3, none⟩) HQ.out.1).trans c0), ((G1.out.cell (p := ⟨b, off + j * 3 + 2, none⟩) HQ.out.1).trans c2)⟩ ?_
       refine pick_o (hy := fun w' hw => by simp [go_sem, hw.2]) 13 (.int .i64 xr) ⟨((G1.out.cell (p := ⟨b, off + j * 3, none⟩) HQ.out.1).trans c0), ((G1.out.cell (p := ⟨b, off + j * 3 + 2, none⟩) HQ.out.1).trans c2)⟩ ?_
       refine pick_o 14 (.slice (some ⟨b, off, none⟩) L cp) ⟨((G1.out.cell (p := ⟨b, off + j * 3, none⟩) HQ.out.1).trans c0), ((G1.out.cell (p := ⟨b, off + j * 3 + 2, none⟩) HQ.out.1).trans c2)⟩ ?_
       refine pick_o 15 (.slice adm ms.length cpm) ⟨((G1.out.cell (p := ⟨b, off + j * 3, none⟩) HQ.out.1).trans c0), ((G1.out.cell (p := ⟨b, off + j * 3 + 2, none⟩) HQ.out.1).trans c2)⟩ ?_
       refine pick_o 16 (.int .i64 deep) ⟨((G1.out.cell (p := ⟨b, off + j * 3, none⟩) HQ.out.1).trans c0), ((G1.out.cell (p := ⟨b, off + j * 3 + 2, none⟩) HQ.out.1).trans c2)⟩ ?_
       refine z46 (i := 7) (j := 17) (by kernel_rfl) ?_ ?_
       · have NL : Hid (NodesD d (X1.alloc (.cells #[.int .i64 5, .int .i64 0, .string xn, .string ⟨#[]⟩, .string ⟨#[]⟩, .int .i64 0] 116)) (.slice (some ⟨X1.heap.size, 0, none⟩) 1 1) [⟨5, 0, xn, ByteArray.empty, ByteArray.empty, 0⟩] ∧ [(⟨5, 0, xn, ByteArray.empty, ByteArray.empty, 0⟩ : Nd)].length = 1) := ⟨nd_lit (d := d) X1 ⟨5, 0, xn, ByteArray.empty, ByteArray.empty, 0⟩ A1.out.1.ltB A1.out.1.ltG ⟨HQ.out.2, z14, z14⟩, rfl⟩
         have A2 := hid (A1.out.alloc (.cells #[.int .i64 5, .int .i64 0, .string xn, .string ⟨#[]⟩, .string ⟨#[]⟩, .int .i64 0] 116))
         have G2 := hid ((Grew.refl d X1).alloc (.cells #[.int .i64 5, .int .i64 0, .string xn, .string ⟨#[]⟩, .string ⟨#[]⟩, .int .i64 0] 116))
         refine ⟨_, .slice (some ⟨X1.heap.size, 0, none⟩) 1 1, X1.alloc (.cells #[.int .i64 5, .int .i64 0, .string xn, .string ⟨#[]⟩, .string ⟨#[]⟩, .int .i64 0] 116), rfl, rfl, by simp [go_sem], ⟨(((G1.out.trans G2.out).cell (p := ⟨b, off + j * 3, none⟩) HQ.out.1).trans c0), (((G1.out.trans G2.out).cell (p := ⟨b, off + j * 3 + 2, none⟩) HQ.out.1).trans c2)⟩, ?_⟩
         refine z15 (by simp [go_sem]; exact rfl) ?_
         generalize X1.alloc (.cells #[.int .i64 5, .int .i64 0, .string xn, .string ⟨#[]⟩, .string ⟨#[]⟩, .int .i64 0] 116) = X2 at *
         refine z27 (i := 17) (f := 30) (args := #[.pointer (some ⟨d.G, 0, none⟩), .int .i64 xr, .slice (some ⟨b, off, none⟩) L cp, .slice adm ms.length cpm, .int .i64 deep]) rfl (by kernel_rfl) rfl rfl (by simp [go_sem]) ?_
         refine (A2.out.nodes (HO.out deep xr _ _ _ _ _ _ (by have := HD.out; omega) (by have := HD.out; omega) (A2.out.fit HF.out 10 (by omega)) A2.out.1 (HE.out.grew (G1.out.trans G2.out)).down)).mono ?_
         rintro e X3 ⟨v3, n3, s3, t3, rfl, hn3, hl3, ha, hg⟩
         have A3 := hid ha
         have G3 := hid hg
         clear ha hg
         have N3 := hid (And.intro hn3 hl3)
         obtain ⟨ad3, cp3, rfl⟩ := hn3.is
         clear hn3 hl3
         refine ⟨_, rfl, ⟨(((G1.out.trans (G2.out.trans G3.out)).cell (p := ⟨b, off + j * 3, none⟩) HQ.out.1).trans c0), (((G1.out.trans (G2.out.trans G3.out)).cell (p := ⟨b, off + j * 3 + 2, none⟩) HQ.out.1).trans c2)⟩, ?_⟩
         refine z15 (by simp [go_sem]; exact rfl) ?_
         have KV : Hid (KidsV d (X3.alloc (.cells #[.slice (some ⟨X1.heap.size, 0, none⟩) 1 1, .slice ad3 n3.length cp3] 53)) (.slice (some ⟨X3.heap.size, 0, none⟩) 2 2) [(.slice (some ⟨X1.heap.size, 0, none⟩) 1 1, [(⟨5, 0, xn, ByteArray.empty, ByteArray.empty, 0⟩ : Nd)]), (.slice ad3 n3.length cp3, n3)]) := (z47 [(.slice (some ⟨X1.heap.size, 0, none⟩) 1 1, [(⟨5, 0, xn, ByteArray.empty, ByteArray.empty, 0⟩ : Nd)]), (.slice ad3 n3.length cp3, n3)] _ rfl A3.out.1.ltB A3.out.1.ltG (fun x hx => by simp at hx; rcases hx with rfl | rfl; exact (NL.out.1.grew G3.out); exact N3.out.1))
         have A4 := hid (A3.out.alloc (.cells #[.slice (some ⟨X1.heap.size, 0, none⟩) 1 1, .slice ad3 n3.length cp3] 53))
         have G4 := hid ((Grew.refl d X3).alloc (.cells #[.slice (some ⟨X1.heap.size, 0, none⟩) 1 1, .slice ad3 n3.length cp3] 53))
         refine z29 (i := 18) (v := .slice (some ⟨X3.heap.size, 0, none⟩) 2 2) (w1 := X3.alloc (.cells #[.slice (some ⟨X1.heap.size, 0, none⟩) 1 1, .slice ad3 n3.length cp3] 53)) rfl (by kernel_rfl) rfl rfl (by simp [go_sem]) ⟨(((G1.out.trans (G2.out.trans (G3.out.trans G4.out))).cell (p := ⟨b, off + j * 3, none⟩) HQ.out.1).trans c0), (((G1.out.trans (G2.out.trans (G3.out.trans G4.out))).cell (p := ⟨b, off + j * 3 + 2, none⟩) HQ.out.1).trans c2)⟩ (by simp [go_sem]; exact rfl) ?_
         generalize X3.alloc (.cells #[.slice (some ⟨X1.heap.size, 0, none⟩) 1 1, .slice ad3 n3.length cp3] 53) = X4 at *
         refine z27 (i := 19) (f := 56) (args := #[.agg #[.int .i64 7, .int .i64 0, .string ⟨#[]⟩, .string ⟨#[]⟩, .string ⟨#[]⟩, .int .i64 0], .slice (some ⟨X3.heap.size, 0, none⟩) 2 2]) rfl (by kernel_rfl) rfl rfl (by simp [go_sem]) ?_
         refine (A4.out.put_kids 7 0 0 ⟨#[]⟩ ⟨#[]⟩ ⟨#[]⟩ KV.out ⟨z14, z14, z14⟩ (by simp) (by have := A4.out.bound HF.out (by omega) (by decide); have := N3.out.2; simp [flatL]; omega)).mono ?_
         rintro e X5 ⟨v5, n5, rfl, hn5, hl5, ha, hg⟩
         have A5 := hid ha
         have G5 := hid hg
         clear ha hg
         have N5 := hid (And.intro hn5 hl5)
         obtain ⟨ad5, cp5, rfl⟩ := hn5.is
         clear hn5 hl5
         refine ⟨_, rfl, ⟨(((G1.out.trans (G2.out.trans (G3.out.trans (G4.out.trans G5.out)))).cell (p := ⟨b, off + j * 3, none⟩) HQ.out.1).trans c0), (((G1.out.trans (G2.out.trans (G3.out.trans (G4.out.trans G5.out)))).cell (p := ⟨b, off + j * 3 + 2, none⟩) HQ.out.1).trans c2)⟩, ?_⟩
         refine z15 (by simp [go_sem]; exact rfl) ?_
         refine pick_o 20 (.slice ad5 n5.length cp5) ⟨(((G1.out.trans (G2.out.trans (G3.out.trans (G4.out.trans G5.out)))).cell (p := ⟨b, off + j * 3, none⟩) HQ.out.1).trans c0), (((G1.out.trans (G2.out.trans (G3.out.trans (G4.out.trans G5.out)))).cell (p := ⟨b, off + j * 3 + 2, none⟩) HQ.out.1).trans c2)⟩ ?_
         refine z32 (by kernel_rfl) ?_
         go_wp2_with fail
         go_ret
         exact A5.out.done0 5 N5.out.1 (by have := N5.out.2; have := N3.out.2; simp [flatL] at *; omega) (by omega)
       · refine ⟨_, 30, #[.pointer (some ⟨d.G, 0, none⟩), .int .i64 xr, .slice (some ⟨b, off, none⟩) L cp, .slice adm ms.length cpm, .int .i64 deep], rfl, rfl, by simp [go_sem], ?_⟩
         refine (A1.out.nodes (HO.out deep xr _ _ _ _ _ _ (by have := HD.out; omega) (by have := HD.out; omega) (A1.out.fit HF.out 10 (by omega)) A1.out.1 (HE.out.grew G1.out).down)).mono ?_
         rintro e X2 ⟨v2, n2, s2, t2, rfl, hn2, hl2, ha, hg⟩
         have A2 := hid ha
         have G2 := hid hg
         clear ha hg
         have N2 := hid (And.intro hn2 hl2)
         obtain ⟨ad2, cp2, rfl⟩ := hn2.is
         clear hn2 hl2
         refine ⟨_, rfl, ⟨(((G1.out.trans G2.out).cell (p := ⟨b, off + j * 3, none⟩) HQ.out.1).trans c0), (((G1.out.trans G2.out).cell (p := ⟨b, off + j * 3 + 2, none⟩) HQ.out.1).trans c2)⟩, ?_⟩
         refine z15 (by simp [go_sem]; exact rfl) ?_
         have NL : Hid (NodesD d (X2.alloc (.cells #[.int .i64 5, .int .i64 0, .string xn, .string ⟨#[]⟩, .string ⟨#[]⟩, .int .i64 0] 116)) (.slice (some ⟨X2.heap.size, 0, none⟩) 1 1) [⟨5, 0, xn, ByteArray.empty, ByteArray.empty, 0⟩] ∧ [(⟨5, 0, xn, ByteArray.empty, ByteArray.empty, 0⟩ : Nd)].length = 1) := ⟨nd_lit (d := d) X2 ⟨5, 0, xn, ByteArray.empty, ByteArray.empty, 0⟩ A2.out.1.ltB A2.out.1.ltG ⟨HQ.out.2, z14, z14⟩, rfl⟩
         have A3 := hid (A2.out.alloc (.cells #[.int .i64 5, .int .i64 0, .string xn, .string ⟨#[]⟩, .string ⟨#[]⟩, .int .i64 0] 116))
         have G3 := hid ((Grew.refl d X2).alloc (.cells #[.int .i64 5, .int .i64 0, .string xn, .string ⟨#[]⟩, .string ⟨#[]⟩, .int .i64 0] 116))
         refine z29 (i := 7) (v := .slice (some ⟨X2.heap.size, 0, none⟩) 1 1) (w1 := X2.alloc (.cells #[.int .i64 5, .int .i64 0, .string xn, .string ⟨#[]⟩, .string ⟨#[]⟩, .int .i64 0] 116)) rfl (by kernel_rfl) rfl rfl (by simp [go_sem]) ⟨(((G1.out.trans (G2.out.trans G3.out)).cell (p := ⟨b, off + j * 3, none⟩) HQ.out.1).trans c0), (((G1.out.trans (G2.out.trans G3.out)).cell (p := ⟨b, off + j * 3 + 2, none⟩) HQ.out.1).trans c2)⟩ (by simp [go_sem]; exact rfl) ?_
         generalize X2.alloc (.cells #[.int .i64 5, .int .i64 0, .string xn, .string ⟨#[]⟩, .string ⟨#[]⟩, .int .i64 0] 116) = X3 at *
         have KV : Hid (KidsV d (X3.alloc (.cells #[.slice (some ⟨X2.heap.size, 0, none⟩) 1 1, .slice ad2 n2.length cp2] 53)) (.slice (some ⟨X3.heap.size, 0, none⟩) 2 2) [(.slice (some ⟨X2.heap.size, 0, none⟩) 1 1, [(⟨5, 0, xn, ByteArray.empty, ByteArray.empty, 0⟩ : Nd)]), (.slice ad2 n2.length cp2, n2)]) := (z47 [(.slice (some ⟨X2.heap.size, 0, none⟩) 1 1, [(⟨5, 0, xn, ByteArray.empty, ByteArray.empty, 0⟩ : Nd)]), (.slice ad2 n2.length cp2, n2)] _ rfl A3.out.1.ltB A3.out.1.ltG (fun x hx => by simp at hx; rcases hx with rfl | rfl; exact NL.out.1; exact (N2.out.1.grew G3.out)))
         have A4 := hid (A3.out.alloc (.cells #[.slice (some ⟨X2.heap.size, 0, none⟩) 1 1, .slice ad2 n2.length cp2] 53))
         have G4 := hid ((Grew.refl d X3).alloc (.cells #[.slice (some ⟨X2.heap.size, 0, none⟩) 1 1, .slice ad2 n2.length cp2] 53))
         refine z29 (i := 18) (v := .slice (some ⟨X3.heap.size, 0, none⟩) 2 2) (w1 := X3.alloc (.cells #[.slice (some ⟨X2.heap.size, 0, none⟩) 1 1, .slice ad2 n2.length cp2] 53)) rfl (by kernel_rfl) rfl rfl (by simp [go_sem]) ⟨(((G1.out.trans (G2.out.trans (G3.out.trans G4.out))).cell (p := ⟨b, off + j * 3, none⟩) HQ.out.1).trans c0), (((G1.out.trans (G2.out.trans (G3.out.trans G4.out))).cell (p := ⟨b, off + j * 3 + 2, none⟩) HQ.out.1).trans c2)⟩ (by simp [go_sem]; exact rfl) ?_
         generalize X3.alloc (.cells #[.slice (some ⟨X2.heap.size, 0, none⟩) 1 1, .slice ad2 n2.length cp2] 53) = X4 at *
         refine z27 (i := 19) (f := 56) (args := #[.agg #[.int .i64 7, .int .i64 0, .string ⟨#[]⟩, .string ⟨#[]⟩, .string ⟨#[]⟩, .int .i64 0], .slice (some ⟨X3.heap.size, 0, none⟩) 2 2]) rfl (by kernel_rfl) rfl rfl (by simp [go_sem]) ?_
         refine (A4.out.put_kids 7 0 0 ⟨#[]⟩ ⟨#[]⟩ ⟨#[]⟩ KV.out ⟨z14, z14, z14⟩ (by simp) (by have := A4.out.bound HF.out (by omega) (by decide); have := N2.out.2; simp [flatL]; omega)).mono ?_
         rintro e X5 ⟨v5, n5, rfl, hn5, hl5, ha, hg⟩
         have A5 := hid ha
         have G5 := hid hg
         clear ha hg
         have N5 := hid (And.intro hn5 hl5)
         obtain ⟨ad5, cp5, rfl⟩ := hn5.is
         clear hn5 hl5
         refine ⟨_, rfl, ⟨(((G1.out.trans (G2.out.trans (G3.out.trans (G4.out.trans G5.out)))).cell (p := ⟨b, off + j * 3, none⟩) HQ.out.1).trans c0), (((G1.out.trans (G2.out.trans (G3.out.trans (G4.out.trans G5.out)))).cell (p := ⟨b, off + j * 3 + 2, none⟩) HQ.out.1).trans c2)⟩, ?_⟩
         refine z15 (by simp [go_sem]; exact rfl) ?_
         refine pick_o 20 (.slice ad5 n5.length cp5) ⟨(((G1.out.trans (G2.out.trans (G3.out.trans (G4.out.trans G5.out)))).cell (p := ⟨b, off + j * 3, none⟩) HQ.out.1).trans c0), (((G1.out.trans (G2.out.trans (G3.out.trans (G4.out.trans G5.out)))).cell (p := ⟨b, off + j * 3 + 2, none⟩) HQ.out.1).trans c2)⟩ ?_
         refine z32 (by kernel_rfl) ?_
         go_wp2_with fail
         go_ret
         exact A5.out.done0 5 N5.out.1 (by have := N5.out.2; have := N2.out.2; simp [flatL] at *; omega) (by omega)
     · have hty' : (xt == wrap64 (10 + ty)) = false := by simpa using hty
       clear hty
       go_wp2_with fail
       rw [HW.out]
       exact ⟨⟨j, rfl, by omega, by first | rfl | trivial⟩, hstep⟩

end
end Go.Proofs.YtfmkgppkgmjpfaaGreatDoor
