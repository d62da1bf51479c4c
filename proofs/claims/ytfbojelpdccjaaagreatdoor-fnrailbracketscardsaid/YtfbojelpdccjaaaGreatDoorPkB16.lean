import Derived.Test.YtfbojelpdccjaaaGreatDoorPkB1
import Derived.Test.YtfbojelpdccjaaaGreatDoorPkB8
import Derived.Test.YtfbojelpdccjaaaGreatDoorPkB15
set_option maxHeartbeats 8000000
set_option maxRecDepth 100000
namespace Go.Proofs.YtfbojelpdccjaaaGreatDoor
section
open Go.RowKit Go.Deep
theorem specProgC_calls (be bt ce cn : Nat) (es : List Ef) (ns : List Nd) (T : Bool) (w : World) (hce : es.length≤ce) (hbe : be < w.heap.size) (hbt : bt < w.heap.size) (hE : EffsAt w be 0 es) (hN : NodesAt w bt 0 ns) (me : es.length≤1048576) (mn : ns.length≤1048576) (hTT : ∀ w' : World,bt < w'.heap.size→NodesAt w' bt 0 ns→Calls Tryz.prog 23 #[.slice (some ⟨bt,0,none⟩) ns.length cn] w' fun e w''=> e= .returned (.bool T)∧Below w'.heap.size w' w'') :
 Calls Tryz.prog 8 #[.agg #[.slice (some ⟨be,0,none⟩) es.length ce,.slice (some ⟨bt,0,none⟩) ns.length cn]] w fun e w'=> e= .returned (.bool (progZ es ns T))∧Below w.heap.size w w':= by
 have hb1 : Below w.heap.size w (w.alloc (.cells #[.slice (some ⟨be,0,none⟩) es.length ce,.slice (some ⟨bt,0,none⟩) ns.length cn] 26)):=(Below.refl _ _).alloc (Nat.le_refl _) _;have HT : Hid (Calls _ _ _ _ _):=hTT (w.alloc (.cells #[.slice (some ⟨be,0,none⟩) es.length ce,.slice (some ⟨bt,0,none⟩) ns.length cn] 26)) (Nat.lt_of_lt_of_le hbt hb1.size) (hN.below hb1 hbt);have HB1 : Hid (Below w.heap.size w (w.alloc (.cells #[.slice (some ⟨be,0,none⟩) es.length ce,.slice (some ⟨bt,0,none⟩) ns.length cn] 26))):=hb1
 have HK1 : Hid ((w.alloc (.cells #[.slice (some ⟨be,0,none⟩) es.length ce,.slice (some ⟨bt,0,none⟩) ns.length cn] 26)).heap[w.heap.size]? =some (.cells #[.slice (some ⟨be,0,none⟩) es.length ce,.slice (some ⟨bt,0,none⟩) ns.length cn] 26)):=(MapKept.heap_alloc w _).1;obtain⟨R,hR⟩ : ∃ R,progZ es ns T=R:=⟨_,rfl⟩
 have HR : Hid (progZ es ns T=R):=hR;have HE : Hid (EffsAt w be 0 es):=hE;have HN : Hid (NodesAt w bt 0 ns):=hN;have HMN : Hid (ns.length≤1048576):=mn;rw [hR];obtain⟨len,hlen⟩ : ∃ len,es.length=len:=⟨_,rfl⟩
 obtain⟨ln,hln⟩ : ∃ ln,ns.length=ln:=⟨_,rfl⟩
 have Hlen : Hid (es.length=len∧ns.length=ln):=⟨hlen,hln⟩
 rw [hlen,hln] at HT HB1 HK1 ⊢;have HCe : Hid (len≤ce):=by show _≤_; omega
 clear hce;have HM : Hid (len≤1048576∧ln≤1048576):=by show _∧_; omega
 clear hb1 hR hE hN me mn hTT hlen hln;by_cases h8 : (8 : Int) < (len : Int)
 ·have HF : Hid (R=false):=by
   show R=false;rw [← HR.out,progZ,Hlen.out.1,decide_eq_false (by omega),Bool.false_and]
  clear HT HE HN HK1;go_enter Tryz.func8,Tryz.ntmps8
  go_wp2_with fail
  go_ret;exact⟨by rw [HF.out]; rfl,HB1.out⟩
 have h8' : (len : Int)≤8:=by omega
 have HR8 : Hid ((T && ((List.range len).all (effOk es) && ns.all (nodeHas es)))=R):=by
  show _=R;rw [← HR.out,progZ,Hlen.out.1,decide_eq_true (by omega),Bool.true_and]
 clear h8;go_enter Tryz.func8,Tryz.ntmps8
 go_wp2_with fail
 refine HT.out.mono ?_;rintro e w2 ⟨rfl,hb2⟩;have hbw2:=HB1.out.trans (hb2.mono HB1.out.size);have kp2:=(hb2.block w.heap.size (by simp)).trans HK1.out;clear HT HB1 HK1 hb2
 cases T with
 | false=>
   go_wp2_with fail
   go_ret;exact⟨by rw [← HR8.out]; rfl,hbw2⟩
 | true=>
   have HRR : Hid (((List.range len).all (effOk es) && ns.all (nodeHas es))=R):=HR8.out;clear HR8 HR;go_wp2_with fail
   go_loopw [3] (fun i wr=> ∃ i' : Nat,i= .int .i64 i'∧i'≤len∧Hid ((List.range i').all (effOk es)=true)∧wr.heap[w.heap.size]? =some (.cells #[.slice (some ⟨be,0,none⟩) len ce,.slice (some ⟨bt,0,none⟩) ln cn] 26)∧Below w.heap.size w wr) (fun i _=>len - (intOf i).toNat)
   case atStart=>exact⟨0,rfl,Nat.zero_le _,rfl,kp2,hbw2⟩
   case round=>
    obtain⟨i',rfl,hle,HI,kp,hbx⟩:=hrel;have hAlt:=z13 kp;obtain⟨pA,pB⟩:=fcl2 kp;have hEx:=HE.out.below hbx hbe;by_cases hlt : (i' : Int) < (len : Int)
    ·have hic : (i' : Int)≤(ce : Int):=by have:=HCe.out; omega
     have hil : i' < es.length:=by rw [Hlen.out.1]; omega
     have c0:=hEx i' hil 0 (by omega);have c1:=hEx i' hil 1 (by omega);have c2:=hEx i' hil 2 (by omega);obtain⟨ef,hef⟩ : ∃ ef,es.getD i' default=ef:=⟨_,rfl⟩
     have hF : effOk es i'= false→Hid (R=false):=fun h=>by
      show R=false;have:=range_false hil h;rw [Hlen.out.1] at this;rw [← HRR.out,this,Bool.false_and]
     have hS : effOk es i'= true→Hid ((List.range (i'+ 1)).all (effOk es)=true):=fun h=>range_step HI.out h
     have hdef : effOk es i'= (nameOk ef.name && (!effIn (es.take i') ef.name && (decide (1≤ef.arg∧ef.arg≤4) && decide (1≤ef.res∧ef.res≤4)))):=by rw [effOk,hef]
     rw [hdef] at hF hS;rw [hef] at c0 c1 c2;simp only [Ef.cell,Nat.add_zero,Nat.zero_add] at c0 c1 c2;have hpl:=effPlace_lt (es.take i') ef.name 0;have htl : (es.take i').length=i':= by simp; omega
     have HP : Hid (∀ w,EffsAt w be 0 es→_):=fun w h=>l2Eff_calls (some ⟨be,0,none⟩) ce (es.take i') ef.name w (by rw [htl]; have:=HM.out; omega) (fun _=>⟨be,0,rfl,effsTake h⟩)
     rw [htl] at HP;have hLn : ∀ w,_:=fun w=>specName_calls ef.name w
     have hbW : Below w.heap.size w (wr.alloc (.cells #[.string ef.name,.int .i64 ef.arg,.int .i64 ef.res] 45)):=hbx.alloc (by have:=hbx.size; omega) _;have HEW : Hid (EffsAt (wr.alloc (.cells #[.string ef.name,.int .i64 ef.arg,.int .i64 ef.res] 45)) be 0 es):=HE.out.below hbW hbe;obtain⟨nm,ar,rs⟩:=ef;dsimp only at*;clear hEx hil hdef hef HI HE htl;generalize effPlace (es.take i') nm 0=pl at*;generalize effIn (es.take i') nm=ein at*;go_wp2_with fail
     have u0 : (wr.alloc (.cells #[.string nm,.int .i64 ar,.int .i64 rs] 45)).cell? ⟨wr.heap.size,0,none⟩=some (.string nm):=by simp [go_sem]
     have u1 : (wr.alloc (.cells #[.string nm,.int .i64 ar,.int .i64 rs] 45)).cell? ⟨wr.heap.size,1,none⟩=some (.int .i64 ar):=by simp [go_sem]
     have u2 : (wr.alloc (.cells #[.string nm,.int .i64 ar,.int .i64 rs] 45)).cell? ⟨wr.heap.size,2,none⟩=some (.int .i64 rs):=by simp [go_sem]
     have kpW:=(Below.heap_alloc wr (.cells #[.string nm,.int .i64 ar,.int .i64 rs] 45) _ hAlt).trans kp;have uA:=z8 kpW 0;simp at uA;have hEW : wr.heap.size < (wr.alloc (.cells #[.string nm,.int .i64 ar,.int .i64 rs] 45)).heap.size:=by simp
     have hAW : w.heap.size < (wr.alloc (.cells #[.string nm,.int .i64 ar,.int .i64 rs] 45)).heap.size:=by simp; omega
     have hbeW : be < (wr.alloc (.cells #[.string nm,.int .i64 ar,.int .i64 rs] 45)).heap.size:=by simp; omega
     generalize (wr.alloc (.cells #[.string nm,.int .i64 ar,.int .i64 rs] 45))=W at*;have HED : Hid (EffsAt W be 0 es):=HEW.out;have v0 : ∀ x : Later W.heap.size W,x.w.cell? ⟨wr.heap.size,0,none⟩=some (.string nm):=fun x=>x.cell hEW u0
     have v1 : ∀ x : Later W.heap.size W,x.w.cell? ⟨wr.heap.size,1,none⟩=some (.int .i64 ar):=fun x=>x.cell hEW u1
     have v2 : ∀ x : Later W.heap.size W,x.w.cell? ⟨wr.heap.size,2,none⟩=some (.int .i64 rs):=fun x=>x.cell hEW u2
     have vA : ∀ x : Later W.heap.size W,x.w.cell? ⟨w.heap.size,0,none⟩=some (.slice (some ⟨be,0,none⟩) len ce):=fun x=>x.cell hAW uA
     clear c0 c1 c2 pA pB kp HEW
     cases hno : nameOk nm with
     | false=>
       have HF:=hF (by rw [hno]; rfl);rw [hno] at hLn;have HL : Hid (∀ w,_):=hLn;clear hF hS hLn hpl;refine z18 W.heap.size (by kernel_rfl) (by kernel_rfl) ?_;repeat (go_big_quiet_step (first
        | (rename_i x; go_at_call 24; refine (HL.out _).mono ?_; rintro e w5 ⟨rfl,hb5⟩; exact⟨rfl,⟨w5,x.h.trans (hb5.mono x.h.size)⟩,rfl⟩)
        | (rename_i x; go_at_call 25; refine (HP.out _ (HED.out.below x.h hbeW)).mono ?_; rintro e w6 ⟨rfl,rfl⟩; exact⟨rfl,x,rfl⟩)))
       refine wpQuiet_nil ?_;rintro w5 ⟨x,rfl⟩;all_goals
        have hx:=hbW.trans (x.h.mono hbW.size);clear u0 u1 u2 uA v0 v1 v2 vA;go_wp2_with fail
        go_ret;exact⟨by rw [HF.out]; rfl,hx⟩
     | true=>
       rw [hno] at hLn;have HL : Hid (∀ w,_):=hLn;rw [hno] at hF hS;clear hLn;by_cases hp0 : 0≤pl
       ·have hei : ein=true:=by
         cases hx : ein with
         | true=>rfl
         | false=>have:=hpl.2 hx; omega
        have HF:=hF (by rw [hei]; rfl);clear hF hS hpl hei;refine z18 W.heap.size (by kernel_rfl) (by kernel_rfl) ?_;repeat (go_big_quiet_step (first
         | (rename_i x; go_at_call 24; refine (HL.out _).mono ?_; rintro e w5 ⟨rfl,hb5⟩; exact⟨rfl,⟨w5,x.h.trans (hb5.mono x.h.size)⟩,rfl⟩)
         | (rename_i x; go_at_call 25; refine (HP.out _ (HED.out.below x.h hbeW)).mono ?_; rintro e w6 ⟨rfl,rfl⟩; exact⟨rfl,x,rfl⟩)))
        refine wpQuiet_nil ?_;rintro w5 ⟨x,rfl⟩;all_goals
         have hx:=hbW.trans (x.h.mono hbW.size);clear u0 u1 u2 uA v0 v1 v2 vA;go_wp2_with fail
         go_ret;exact⟨by rw [HF.out]; rfl,hx⟩
       ·have hei : ein=false:=hpl.1 (by omega);have hp0 : pl < 0:=by omega
        rw [hei] at hF hS;clear hpl hei;by_cases g1 : ar < 1
        ·have HF:=hF (by rw [decide_eq_false (show ¬ (1≤ar∧ar≤4) by omega)]; rfl);clear hF hS;refine z18 W.heap.size (by kernel_rfl) (by kernel_rfl) ?_;repeat (go_big_quiet_step (first
          | (rename_i x; go_at_call 24; refine (HL.out _).mono ?_; rintro e w5 ⟨rfl,hb5⟩; exact⟨rfl,⟨w5,x.h.trans (hb5.mono x.h.size)⟩,rfl⟩)
          | (rename_i x; go_at_call 25; refine (HP.out _ (HED.out.below x.h hbeW)).mono ?_; rintro e w6 ⟨rfl,rfl⟩; exact⟨rfl,x,rfl⟩)))
         refine wpQuiet_nil ?_;rintro w5 ⟨x,rfl⟩;all_goals
          have hx:=hbW.trans (x.h.mono hbW.size);clear u0 u1 u2 uA v0 v1 v2 vA;go_wp2_with fail
          go_ret;exact⟨by rw [HF.out]; rfl,hx⟩
        ·have g1 : 1≤ar:=by omega
         by_cases g2 : 4 < ar
         ·have HF:=hF (by rw [decide_eq_false (show ¬ (1≤ar∧ar≤4) by omega)]; rfl);clear hF hS;refine z18 W.heap.size (by kernel_rfl) (by kernel_rfl) ?_;repeat (go_big_quiet_step (first
           | (rename_i x; go_at_call 24; refine (HL.out _).mono ?_; rintro e w5 ⟨rfl,hb5⟩; exact⟨rfl,⟨w5,x.h.trans (hb5.mono x.h.size)⟩,rfl⟩)
           | (rename_i x; go_at_call 25; refine (HP.out _ (HED.out.below x.h hbeW)).mono ?_; rintro e w6 ⟨rfl,rfl⟩; exact⟨rfl,x,rfl⟩)))
          refine wpQuiet_nil ?_;rintro w5 ⟨x,rfl⟩;all_goals
           have hx:=hbW.trans (x.h.mono hbW.size);clear u0 u1 u2 uA v0 v1 v2 vA;go_wp2_with fail
           go_ret;exact⟨by rw [HF.out]; rfl,hx⟩
         ·have g2 : ar≤4:=by omega
          by_cases g3 : rs < 1
          ·have HF:=hF (by rw [decide_eq_false (show ¬ (1≤rs∧rs≤4) by omega),Bool.and_false]; rfl);clear hF hS;refine z18 W.heap.size (by kernel_rfl) (by kernel_rfl) ?_;repeat (go_big_quiet_step (first
            | (rename_i x; go_at_call 24; refine (HL.out _).mono ?_; rintro e w5 ⟨rfl,hb5⟩; exact⟨rfl,⟨w5,x.h.trans (hb5.mono x.h.size)⟩,rfl⟩)
            | (rename_i x; go_at_call 25; refine (HP.out _ (HED.out.below x.h hbeW)).mono ?_; rintro e w6 ⟨rfl,rfl⟩; exact⟨rfl,x,rfl⟩)))
           refine wpQuiet_nil ?_;rintro w5 ⟨x,rfl⟩;all_goals
            have hx:=hbW.trans (x.h.mono hbW.size);clear u0 u1 u2 uA v0 v1 v2 vA;go_wp2_with fail
            go_ret;exact⟨by rw [HF.out]; rfl,hx⟩
          ·have g3 : 1≤rs:=by omega
           by_cases g4 : 4 < rs
           ·have HF:=hF (by rw [decide_eq_false (show ¬ (1≤rs∧rs≤4) by omega),Bool.and_false]; rfl);clear hF hS;refine z18 W.heap.size (by kernel_rfl) (by kernel_rfl) ?_;repeat (go_big_quiet_step (first
             | (rename_i x; go_at_call 24; refine (HL.out _).mono ?_; rintro e w5 ⟨rfl,hb5⟩; exact⟨rfl,⟨w5,x.h.trans (hb5.mono x.h.size)⟩,rfl⟩)
             | (rename_i x; go_at_call 25; refine (HP.out _ (HED.out.below x.h hbeW)).mono ?_; rintro e w6 ⟨rfl,rfl⟩; exact⟨rfl,x,rfl⟩)))
            refine wpQuiet_nil ?_;rintro w5 ⟨x,rfl⟩;all_goals
             have hx:=hbW.trans (x.h.mono hbW.size);clear u0 u1 u2 uA v0 v1 v2 vA;go_wp2_with fail
             go_ret;exact⟨by rw [HF.out]; rfl,hx⟩
           ·have g4 : rs≤4:=by omega
            have HS:=hS (by rw [decide_eq_true (show 1≤ar∧ar≤4 from⟨g1,g2⟩),decide_eq_true (show 1≤rs∧rs≤4 from⟨g3,g4⟩)]; rfl);clear hF hS;refine z18 W.heap.size (by kernel_rfl) (by kernel_rfl) ?_;repeat (go_big_quiet_step (first
             | (rename_i x; go_at_call 24; refine (HL.out _).mono ?_; rintro e w5 ⟨rfl,hb5⟩; exact⟨rfl,⟨w5,x.h.trans (hb5.mono x.h.size)⟩,rfl⟩)
             | (rename_i x; go_at_call 25; refine (HP.out _ (HED.out.below x.h hbeW)).mono ?_; rintro e w6 ⟨rfl,rfl⟩; exact⟨rfl,x,rfl⟩)))
            refine wpQuiet_nil ?_;rintro w5 ⟨x,rfl⟩;all_goals
             have hx:=hbW.trans (x.h.mono hbW.size);have kp5:=(x.h.block w.heap.size hAW).trans kpW;clear u0 u1 u2 uA v0 v1 v2 vA;go_wp2_with fail
             have hs : len - (intOf (.int .i64 ((i'+ 1 : Nat) : Int))).toNat < len - (intOf (.int .i64 (i' : Int))).toNat:=by simp only [intOf,Int.toNat_natCast]; omega
             try rw [show wrap64 ((i' : Int)+1)=((i'+ 1 : Nat) : Int) by have:=HM.out; unfold wrap64; omega]
             exact⟨⟨i'+ 1,rfl,by omega,HS,kp5,hx⟩,hs⟩
    ·have e : i'= len:=by omega
     subst e;have HR2 : Hid (ns.all (nodeHas es)=R):=by
      show _=R;rw [← HRR.out,HI.out,Bool.true_and]
     clear HRR HI hEx;go_wp2_with fail
     clear pA pB;go_loopw [5] (fun j wr=> ∃ k : Nat,j= .int .i64 k∧k≤ln∧Hid ((ns.take k).all (nodeHas es)=true)∧wr.heap[w.heap.size]? =some (.cells #[.slice (some ⟨be,0,none⟩) i' ce,.slice (some ⟨bt,0,none⟩) ln cn] 26)∧Below w.heap.size w wr) (fun j _=>ln - (intOf j).toNat)
     case atStart=>exact⟨0,rfl,Nat.zero_le _,rfl,kp,hbx⟩
     case round=>
      clear kp hbx hAlt;obtain⟨k,rfl,hk,HI,kp,hbx⟩:=hrel;have hAlt:=z13 kp;obtain⟨pA,pB⟩:=fcl2 kp;by_cases hlt : (k : Int) < (ln : Int)
      ·have hil : k < ns.length:=by rw [Hlen.out.2]; omega
       have hNx:=HN.out.below hbx hbt;obtain⟨c0,c1,c2,c3,c4,c5⟩:=fsx (hNx k hil);obtain⟨nd,hnd⟩ : ∃ nd,ns.getD k default=nd:=⟨_,rfl⟩
       have hF : nodeHas es nd=false→Hid (R=false):=fun h=>by
        show R=false;rw [← HR2.out];exact has_false hil (by rw [hnd]; exact h)
       have hS : nodeHas es nd=true→Hid ((ns.take (k+1)).all (nodeHas es)=true):=fun h=>has_step hil HI.out (by rw [hnd]; exact h)
       rw [hnd] at c0 c1 c2 c3 c4 c5;simp only [Nd.cell,Nat.add_zero,Nat.zero_add] at c0 c1 c2 c3 c4 c5;obtain⟨kd,num,a,bb,cc,kids⟩:=nd;dsimp only at*;have hpl:=effPlace_lt es a 0;have hszx:=hbx.size;have HP : Hid (∀ w',EffsAt w' be 0 es→_):=fun w' h=>l2Eff_calls (some ⟨be,0,none⟩) ce es a w' (by rw [Hlen.out.1]; have:=HM.out; omega) (fun _=>⟨be,0,rfl,h⟩)
       rw [Hlen.out.1] at HP;have HEx : Hid (EffsAt wr be 0 es):=HE.out.below hbx hbe;have hbeR : be < wr.heap.size:=by omega
       simp only [nodeHas] at hF hS;clear hNx hil hnd HI;generalize effPlace es a 0=pl at*;generalize effIn es a=ein at*;have hq : (kd==22)=true∨((kd==22)=false∧(kd==26)=true)∨((kd==22)=false∧(kd==26)=false):=by
        cases (kd==22) <;> cases (kd==26) <;> simp
       rcases hq with k22 | ⟨k22,k26⟩ | ⟨k22,k26⟩
       ·by_cases hp : pl < 0
        ·have hei : ein=false:=hpl.1 hp;have HF:=hF (by rw [hei,k22]; rfl);clear hF hS hpl;go_wp2_with fail
         refine (HP.out _ (HEx.out.below ((Below.refl _ _).alloc (Nat.le_refl _) _) hbeR)).mono ?_;rintro e w6 ⟨rfl,rfl⟩;go_wp2_with fail
         go_ret;exact⟨by rw [HF.out]; rfl,hbx.alloc hszx _⟩
        ·have hei : ein=true:=by
          cases hx : ein with
          | true=>rfl
          | false=>exact absurd (hpl.2 hx) hp
         have HS:=hS (by rw [hei]; simp);clear hF hS hpl;go_wp2_with fail
         refine (HP.out _ (HEx.out.below ((Below.refl _ _).alloc (Nat.le_refl _) _) hbeR)).mono ?_;rintro e w6 ⟨rfl,rfl⟩;go_wp2_with fail
         have hs : ln - (intOf (.int .i64 ((k+1 : Nat) : Int))).toNat < ln - (intOf (.int .i64 (k : Int))).toNat:=by simp only [intOf,Int.toNat_natCast]; omega
         try rw [show wrap64 ((k : Int)+1)=((k+1 : Nat) : Int) by have:=HM.out; unfold wrap64; omega]
         exact⟨⟨k+1,rfl,by omega,HS,(Below.heap_alloc _ _ _ hAlt).trans kp,hbx.alloc hszx _⟩,hs⟩
       ·by_cases hp : pl < 0
        ·have hei : ein=false:=hpl.1 hp;have HF:=hF (by rw [hei,k26]; simp);clear hF hS hpl;go_wp2_with fail
         refine (HP.out _ (HEx.out.below ((Below.refl _ _).alloc (Nat.le_refl _) _) hbeR)).mono ?_;rintro e w6 ⟨rfl,rfl⟩;go_wp2_with fail
         go_ret;exact⟨by rw [HF.out]; rfl,hbx.alloc hszx _⟩
        ·have hei : ein=true:=by
          cases hx : ein with
          | true=>rfl
          | false=>exact absurd (hpl.2 hx) hp
         have HS:=hS (by rw [hei]; simp);clear hF hS hpl;go_wp2_with fail
         refine (HP.out _ (HEx.out.below ((Below.refl _ _).alloc (Nat.le_refl _) _) hbeR)).mono ?_;rintro e w6 ⟨rfl,rfl⟩;go_wp2_with fail
         have hs : ln - (intOf (.int .i64 ((k+1 : Nat) : Int))).toNat < ln - (intOf (.int .i64 (k : Int))).toNat:=by simp only [intOf,Int.toNat_natCast]; omega
         try rw [show wrap64 ((k : Int)+1)=((k+1 : Nat) : Int) by have:=HM.out; unfold wrap64; omega]
         exact⟨⟨k+1,rfl,by omega,HS,(Below.heap_alloc _ _ _ hAlt).trans kp,hbx.alloc hszx _⟩,hs⟩
       ·have HS:=hS (by rw [k22,k26]; rfl);clear hF hS hpl HP;go_wp2_with fail
        have hs : ln - (intOf (.int .i64 ((k+1 : Nat) : Int))).toNat < ln - (intOf (.int .i64 (k : Int))).toNat:=by simp only [intOf,Int.toNat_natCast]; omega
        try rw [show wrap64 ((k : Int)+1)=((k+1 : Nat) : Int) by have:=HM.out; unfold wrap64; omega]
        exact⟨⟨k+1,rfl,by omega,HS,(Below.heap_alloc _ _ _ hAlt).trans kp,hbx.alloc hszx _⟩,hs⟩
      ·have e : k=ln:=by omega
       have HT : Hid (R=true):=by
        show R=true;rw [← HR2.out];have:=HI.out;rwa [List.take_of_length_le (by rw [Hlen.out.2]; omega)] at this
       clear HI;go_wp2_with fail
       go_ret;exact⟨by rw [HT.out]; rfl,hbx⟩
end
end Go.Proofs.YtfbojelpdccjaaaGreatDoor
