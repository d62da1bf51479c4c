import Derived.Test.YtfbojelpdccjaaaGreatDoorPkB5
import Derived.Test.YtfbojelpdccjaaaGreatDoorPkB8
import Derived.Test.YtfbojelpdccjaaaGreatDoorPkB15
import Derived.Test.YtfbojelpdccjaaaGreatDoorPkB18
set_option maxHeartbeats 8000000
set_option maxRecDepth 100000
namespace Go.Proofs.YtfbojelpdccjaaaGreatDoor
section
open Go.RowKit Go.Deep
theorem formOfTree_calls (b off cap : Nat) (ns : List Nd) (n : Nd) (k : Fo) (w : World) (hm : ns.length≤300) (hfit : ∀ m∈ns,Fits m m.kids.toNat) (hbw : b < w.heap.size) (hn : NodesAt w b off ns)
 (h1 : ns=n::k.flat) (h2 : n.kids=k.count) (h3 : k.wf) :
 Calls Tryz.prog 19 #[.slice (some ⟨b,off,none⟩) ns.length cap] w fun e w'=> ∃ v us,e= .returned v∧Forms w.heap.size w' k us∧Shape w.heap.size w' n us v∧Below w.heap.size w w':= by
 have hdr : ns.drop 0=n::(k.flat++ []):=by rw [h1]; simp
 have HC : Hid (Calls _ _ _ _ _):=formAt_calls b off cap ns hm hfit (k.flat.length+1) n k [] 0 w hbw hn hdr h2 h3 (Nat.lt_succ_self _);clear hdr hm hfit hn h1 h2 h3;generalize ns.length=len at*;go_enter Tryz.func19,Tryz.ntmps19
 go_wp2_with fail
 refine HC.out.mono ?_;rintro e w2 ⟨v,us,rfl,hF,hS,hb⟩;have HX : Hid (Forms w.heap.size w2 k us∧Shape w.heap.size w2 n us v∧Below w.heap.size w w2):=⟨hF,hS,hb⟩
 clear hF hS hb;go_wp2_with fail
 go_ret;exact⟨v,us,rfl,HX.out⟩
theorem implTree_calls (b off cap : Nat) (ns : List Nd) (w : World) (R : Bool) (hm : ns.length≤1048576) (hbw : b < w.heap.size) (hn : NodesAt w b off ns) (hs : Short ns) (hA : ImplAns ns R) :
 Calls Tryz.prog 39 #[.slice (some ⟨b,off,none⟩) ns.length cap] w fun e w'=> e= .returned (.bool R)∧Below w.heap.size w w':= by
 by_cases hl : 1≤ns.length∧ns.length≤300
 ·have hrest:=hA.rest hl;obtain⟨len,hlen⟩ : ∃ len,ns.length=len:=⟨_,rfl⟩
  have Hlen : Hid (ns.length=len):=hlen;have HR : Hid (Rest ns R nodeOkZ implTree):=hrest;have HN : Hid (NodesAt w b off ns):=hn;have HL : Hid (1≤len∧len≤300):=by show _∧_; omega
  have HS : Hid (Short ns):=hs;have h1 : (1 : Int)≤(len : Int):=by omega
  have h2 : (len : Int)≤300:=by omega
  rw [hlen];clear hrest hn hA hl hm hlen hs;go_enter Tryz.func39,Tryz.ntmps39
  go_wp2_with fail
  clear h1 h2;go_loopw [15] (fun i wr=> ∃ i' : Nat,i= .int .i64 i'∧i'≤len∧Hid ((ns.take i').all nodeOkZ=true)∧Below w.heap.size w wr) (fun i _=>len - (intOf i).toNat)
  case atStart=>exact⟨0,rfl,Nat.zero_le _,rfl,Below.refl _ _⟩
  case round=>
   obtain⟨i',rfl,hle,HT,hbx⟩:=hrel;have hnx:=HN.out.below hbx hbw;by_cases hlt : (i' : Int) < (len : Int)
   ·have hil : i' < ns.length:=by rw [Hlen.out]; omega
    obtain⟨c0,c1,c2,c3,c4,c5⟩:=fsx (hnx i' hil);obtain⟨n,hnn⟩ : ∃ n,ns.getD i' default=n:=⟨_,rfl⟩
    have hF : nodeOkZ n=false→Hid (R=false):=fun h=>HR.out.1 (all_false hil (by rw [hnn]; exact h))
    have hT : nodeOkZ n=true→Hid ((ns.take (i'+ 1)).all nodeOkZ=true):=fun h=>all_take_succ hil HT.out (by rw [hnn]; exact h)
    rw [hnn] at c0 c1 c2 c3 c4 c5;simp only [Nd.cell,Nat.add_zero] at c0 c1 c2 c3 c4 c5;have hsh:=HS.out n (by rw [← hnn,List.getD,List.getElem?_eq_getElem hil]; exact List.getElem_mem _);have HO : Hid (∀ w,_):=fun w=>nodeOk_calls n w hsh.1 hsh.2.1 hsh.2.2
    clear hnx hil hnn HT hsh;obtain⟨kd,num,a,bb,cc,kids⟩:=n;dsimp only at*;go_wp2_with fail
    refine (HO.out _).mono ?_;rintro e w2 ⟨rfl,hb2⟩;have hb3 : Below w.heap.size w w2:=(hbx.alloc (by have:=hbx.size; omega) _).trans (hb2.mono (by have:=hbx.size; simp; omega));clear c0 c1 c2 c3 c4 c5 hb2 HO
    cases ho : nodeOkZ ⟨kd,num,a,bb,cc,kids⟩ with
    | false=>
      have HF:=hF ho;clear hF hT;go_wp2_with fail
      go_ret;exact⟨by rw [HF.out]; rfl,hb3⟩
    | true=>
      have HT:=hT ho;clear hF hT;go_wp2_with fail
      have hs:=z45 hlt;try rw [z17 (by have:=HL.out; omega)]
      exact⟨⟨i'+ 1,rfl,by omega,HT,hb3⟩,hs⟩
   ·have e : i'= len:=by omega
    subst e;have hall : ns.all nodeOkZ=true:=by
     have:=HT.out;rwa [List.take_of_length_le (by rw [Hlen.out]; exact Nat.le_refl _)] at this
    have HX : Hid (∀ w,NodesAt w b off ns→_):=fun w h=>implEnd_calls b off cap ns 0 w h (by rw [Hlen.out]; have:=HL.out; omega) (by omega)
    rw [Hlen.out] at HX;rcases HR.out.2 hall with ⟨hne,hR⟩ | ⟨n,k,g1,g2,g3,g4,hR⟩
    ·have hne' : (treeEnd ns 0 !=(i' : Int))=true:=by rw [bne_iff_ne]; rw [Hlen.out] at hne; exact hne
     clear HT hall hne;generalize treeEnd ns 0=te at*;subst hR;go_wp2_with fail
     refine (HX.out wr hnx).mono ?_;rintro e w2 ⟨rfl,rfl⟩;go_wp2_with fail
     go_ret;exact⟨rfl,hbx⟩
    ·have hfit : ∀ m∈ns,Fits m m.kids.toNat:=fun m hm=>by
      have:=List.all_eq_true.1 hall m hm;simp only [nodeOkZ,Bool.and_eq_true] at this;exact fits_of_own this.1
     have hkl : k.flat.length≤300:=by
      have:=HL.out;have e:=Hlen.out;rw [g1,List.length_cons] at e;omega
     have HC : Hid (∀ w,b < w.heap.size→NodesAt w b off ns→_):=fun w hb h=>clausesOk_calls b off cap ns n k w (by rw [Hlen.out]; have:=HL.out; omega) hb h g1 g2 g3
     have HG : Hid (∀ w,b < w.heap.size→NodesAt w b off ns→_):=fun w hb h=>formOfTree_calls b off cap ns n k w (by rw [Hlen.out]; have:=HL.out; omega) hfit hb h g1 g2 g3
     rw [Hlen.out] at HC HG;rw [g4,Hlen.out] at HX;have HE : Hid (R=(implTree n k && decide (k.deep+1≤40))):=hR;have HKL : Hid (k.flat.length≤300):=hkl;have hee : (((i' : Int)) !=(i' : Int))=false:=by simp
     clear HT hall g1 g2 g3 g4 hR HR hfit hkl;go_wp2_with fail
     refine (HX.out wr hnx).mono ?_;rintro e w2 ⟨rfl,rfl⟩;go_wp2_with fail
     refine (HC.out wr (by have:=hbx.size; omega) hnx).mono ?_;rintro e w2 ⟨rfl,hb2⟩;have hb3:=hbx.trans (hb2.mono hbx.size);have hn3:=HN.out.below hb3 hbw;clear hb2 HX HC
     cases hit : implTree n k with
     | false=>
       go_wp2_with fail
       go_ret;refine⟨?_,hb3⟩;rw [HE.out,hit,Bool.false_and];rfl
     | true=>
       go_wp2_with fail
       refine (HG.out w2 (by have:=hb3.size; omega) hn3).mono ?_;rintro e w4 ⟨v,us,rfl,hF4,hS4,hb4⟩;have hb5:=hb3.trans (hb4.mono hb3.size);have HD : Hid (Calls _ _ _ _ _):=deepOf_calls (k.flat.length+1) _ n k us v w4 hF4 hS4 HKL.out (Nat.lt_succ_self _);clear hF4 hS4 hb4 HG hn3;generalize k.deep+1=dd at*;go_wp2_with fail
       refine HD.out.mono ?_;rintro e w6 ⟨rfl,hb6⟩;go_wp2_with fail
       go_ret;refine⟨?_,hb5.trans (hb6.mono hb5.size)⟩;rw [HE.out,hit,Bool.true_and];show Ending.returned (Value.bool (decide ((dd : Int)≤40)))=_;congr 2
       exact decide_eq_decide.2 (by omega)
 ·have hR : R=false:=by
   rcases hA with ⟨_,h⟩ | ⟨h1,h2,_⟩ | ⟨h1,h2,_⟩
   ·exact h
   ·exact absurd ⟨h1,h2⟩ hl
   ·exact absurd ⟨h1,h2⟩ hl
  subst hR;have hl' : (ns.length : Int) < 1∨((1 : Int)≤(ns.length : Int)∧(300 : Int) < (ns.length : Int)):=by omega
  clear hA hm hn hl hs;generalize ns.length=len at*;rcases hl' with h | ⟨h,h'⟩
  all_goals
   go_enter Tryz.func39,Tryz.ntmps39
   go_wp2_with fail
   go_ret;exact⟨rfl,Below.refl _ _⟩
theorem base1_calls (k : Int) (h0 : 1≤k) (h1 : k≤4) (W : World) : Calls Tryz.prog 18 #[.int .i64 k] W (BareP W (baseT k)):=by
 have h : k=1∨k=2∨k=3∨k=4:=by omega
 clear h0 h1;rcases h with rfl | rfl | rfl | rfl
 all_goals
  go_enter Tryz.func18,Tryz.ntmps18
  go_wp2_with fail
  go_ret;exact⟨rfl,by repeat (first | exact Below.refl _ _ | refine Below.alloc ?_ (by first | (simp; done) | (simp; omega)) _)⟩
theorem impl_all {ns : List Nd} (h : ImplAns ns true) : ns.all nodeOkZ=true:=by
 rcases h with ⟨-,h⟩ | ⟨-,-,-,h⟩ | ⟨-,-,n,k,e1,e2,e3,h⟩
 ·cases h
 ·cases h
 ·have h':= h.symm;simp only [Bool.and_eq_true] at h';exact h'.1
theorem impl_fits {ns : List Nd} (hall : ns.all nodeOkZ=true) (m : Nd) (hm : m∈ns) : Fits m m.kids.toNat:=by
 have:=List.all_eq_true.1 hall m hm;simp only [nodeOkZ,Bool.and_eq_true] at this;exact fits_of_own this.1
theorem builder_str (B bb : Nat) (l : List UInt8) (w : World) (h : Lib.IsBuilderF 43 5 B bb (Lib.byteCells l) w) (hB : B≤w.heap.size) :
 Calls Tryz.prog 20 #[.pointer (some ⟨bb,0,none⟩)] w fun e w'=> e= .returned (.string (tx l))∧Below B w w':= by
 refine (Tryz.Builder_String_any_f B bb l w h hB).mono ?_;rintro e w' ⟨rfl,-,h2⟩;exact⟨rfl,h2⟩
section
variable {W : World} {ae : Option Addr} {be bt ce cn : Nat} {es : List Ef} {ns : List Nd}
theorem implText_no {a1 a2 : Option Addr} {l1 c1 l2 c2 : Nat} (h : Calls Tryz.prog 16 #[.agg #[.slice a1 l1 c1,.slice a2 l2 c2]] (W.alloc (.cells #[.slice a1 l1 c1,.slice a2 l2 c2] 26)) fun e W'=> e= .returned (.bool false)∧Below (W.alloc (.cells #[.slice a1 l1 c1,.slice a2 l2 c2] 26)).heap.size (W.alloc (.cells #[.slice a1 l1 c1,.slice a2 l2 c2] 26)) W') :
 Calls Tryz.prog 6 #[.agg #[.slice a1 l1 c1,.slice a2 l2 c2]] W (TextP W []):=by
 have hA1:=(MapKept.heap_alloc W (.cells #[.slice a1 l1 c1,.slice a2 l2 c2] 26)).1;have hB1:=(Below.refl W.heap.size W).alloc (Nat.le_refl _) (.cells #[.slice a1 l1 c1,.slice a2 l2 c2] 26);obtain⟨Y,hY⟩ : ∃ Y,W.alloc (.cells #[.slice a1 l1 c1,.slice a2 l2 c2] 26)=Y:=⟨_,rfl⟩
 rw [hY] at hA1 hB1 h;have HT:=hid h;have HY:=hid hY;have HB1:=hid hB1;obtain⟨e0,e1⟩:=fcl2 hA1;clear hA1 hB1 hY h;go_enter Tryz.func6,Tryz.ntmps6
 go_upto_region 1 with fail
 rw [HY.out];clear HY;go_wp2_with fail
 refine HT.out.mono ?_;rintro e X1 ⟨rfl,hb2⟩;have HB2:=hid (HB1.out.trans (hb2.mono HB1.out.size));clear hb2;go_wp2_with fail
 go_ret;exact⟨rfl,HB2.out⟩
theorem implText_yes (hce : es.length≤ce) (hae : es≠ []→ae=some ⟨be,0,none⟩) (hbe : be < W.heap.size) (hbt : bt < W.heap.size) (hE : EffsAt W be 0 es) (hsh : ∀ e∈es,e.name.size≤maxLen) (hN : NodesAt W bt 0 ns) (hns : Short ns) (hL : Laid W) (hSA : SpecAns ns true) (hIA : ImplAns ns true) (hR : progZ es ns true=true) {n : Nd} {k : Fo} (g1 : ns=n::k.flat) (g2 : n.kids=k.count) (g3 : k.wf) :
 Calls Tryz.prog 6 #[.agg #[.slice ae es.length ce,.slice (some ⟨bt,0,none⟩) ns.length cn]] W (TextP W (progT es n k)):=by
 have hef : ∀ i,i < es.length→effOk es i=true:=by
  unfold progZ at hR;simp only [Bool.and_eq_true] at hR;exact fun i hi=>List.all_eq_true.1 hR.2.2.1 i (List.mem_range.2 hi)
 have he8 : es.length≤8:=by
  unfold progZ at hR;simp only [Bool.and_eq_true,decide_eq_true_eq] at hR;exact hR.1
 obtain⟨n',k',f1,f2,f3,hl,hst,hex,hne⟩:=right_of hSA;obtain⟨rfl,rfl⟩:=tree_inj g1 g2 g3 f1 f2 f3;have hA:=(MapKept.heap_alloc W (.cells #[.slice ae es.length ce,.slice (some ⟨bt,0,none⟩) ns.length cn] 26)).1;have hB1:=(Below.refl W.heap.size W).alloc (Nat.le_refl _) (.cells #[.slice ae es.length ce,.slice (some ⟨bt,0,none⟩) ns.length cn] 26);obtain⟨Y,hY⟩ : ∃ Y,W.alloc (.cells #[.slice ae es.length ce,.slice (some ⟨bt,0,none⟩) ns.length cn] 26)=Y:=⟨_,rfl⟩
 rw [hY] at hA hB1;have HP:=hid (implProgC_calls ae be bt ce cn es ns true Y hce hae (Nat.lt_of_lt_of_le hbe hB1.size) (Nat.lt_of_lt_of_le hbt hB1.size) (hE.below hB1 hbe) (hN.below hB1 hbt) (by omega) (by omega) hsh (fun w' h1 h2=>implTree_calls bt 0 cn ns w' true (by omega) h1 h2 hns hIA));rw [hR] at HP;have hall : ns.all nodeOkZ=true:=impl_all hIA;have HFm:=hid (fun (X : World) (hx : Below W.heap.size W X)=>formOfTree_calls bt 0 cn ns n' k' X hl (fun m hm=>impl_fits hall m hm) (Nat.lt_of_lt_of_le hbt hx.size) (hN.below hx hbt) f1 f2 f3);have HY:=hid hY;have HA:=hid hA;have HB1:=hid hB1
 have HE:=hid (And.intro hbe hE);have HAe:=hid hae;have HLd:=hid hL;have HEf:=hid (fun i hi=>eff_right (hef i hi));have HE8:=hid he8;have HTl:=hid (fun i hi=>effs_len (fun i hi=>(eff_right (hef i hi)).1) i hi);have hsl:=(z69 hne 400).1 ⟨n',k',0⟩ 0 (by have:=hst.lt.2.2; omega) hst hex;have hss:=hst.lt.2.2;have HTree:=hid (fun (X : World) (hx : Laid X) (B : Nat) (v : Value) (hF : FormT B X ⟨n',k',0⟩ v)=>text_all hx hl hne 400 ⟨n',k',0⟩ v (by omega) hst hex hF);obtain⟨TS,hTS⟩ : ∃ T,showZ 400 ⟨n',k',0⟩ 0=T:=⟨_,rfl⟩
 have HTS : Hid (progT es n' k'= effsT es es.length++TS):=by show _=_; unfold progT effsT; rw [hTS,List.take_length]
 have HSh : Hid (bareZ 400 ⟨n',k',0⟩=TS):=by show _=_; rw [← hTS,show0]
 rw [hTS] at hsl;have HLt : Hid (TS.length≤18000):=by show _≤_; omega
 rw [HTS.out];obtain⟨e0,e1⟩:=fcl2 HA.out;clear hR hef he8 g1 g2 g3 f1 f2 f3 hst hex hne hsl hss hTS hA hB1 hY hbe hE hae hL hall hN hbt hsh hns hSA hIA hl hce;go_enter Tryz.func6,Tryz.ntmps6
 go_upto_region 1 with fail
 rw [HY.out];clear HY;go_wp2_with fail
 refine HP.out.mono ?_;rintro e X1 ⟨rfl,hb2⟩;have HB2:=hid (HB1.out.trans (hb2.mono HB1.out.size));have HA2:=hid ((hb2.block W.heap.size (z13 HA.out)).trans HA.out);clear hb2 HP e0 e1;have hNEW:=builder_new X1.heap.size X1 (Nat.le_refl _);have hB3:=(Below.refl X1.heap.size X1).alloc (Nat.le_refl _) (.cells #[.pointer none,.slice none 0 0] 43);obtain⟨W0,hW0⟩ : ∃ X,X1.alloc (.cells #[.pointer none,.slice none 0 0] 43)=X:=⟨_,rfl⟩
 rw [hW0] at hNEW hB3;have HW0:=hid hW0;obtain⟨bb,hbb⟩ : ∃ b,X1.heap.size=b:=⟨_,rfl⟩
 rw [hbb] at hNEW;have HBb:=hid (And.intro (show W.heap.size < bb by have:=z13 HA2.out; omega) (show bb < W0.heap.size by rw [← hbb,← hW0]; simp));have HNEW:=hid hNEW;have HA3:=hid ((hB3.block W.heap.size (z13 HA2.out)).trans HA2.out);have HB3:=hid (HB2.out.trans (hB3.mono HB2.out.size));clear hNEW hB3 hW0;go_upto_region 4 with fail
 rw [HW0.out];try rw [hbb]
 clear HW0 hbb;have e0:=z8 HA3.out 0;simp at e0;go_wp2_with fail
 clear e0;go_loopw [12] (fun i wr=> ∃ j : Nat,i= .int .i64 (j : Int)∧j≤es.length∧Hid (Lib.IsBuilderF 43 5 bb bb (Lib.byteCells (effsT es j)) wr)∧Hid (Below bb W0 wr)) (fun i _=>es.length - (intOf i).toNat)
 case atStart=>exact⟨0,rfl,Nat.zero_le _,by simpa [effsT,Hid,Lib.byteCells] using HNEW.out,Below.refl _ _⟩
 case round=>
  obtain⟨j,rfl,hj,HBd,HX⟩:=hrel;have HXW:=hid (HB3.out.trans ((HX.out).mono (show W.heap.size≤bb by have:=HBb.out.1; omega)));by_cases hlt : (j : Int) < (es.length : Int)
  ·have hjl : j < es.length:=by omega
   have hax : ae=some ⟨be,0,none⟩:=HAe.out (by intro h; rw [h] at hjl; simp at hjl);subst hax;have hEr:=HE.out.2.below HXW.out HE.out.1;have c0:=hEr j hjl 0 (by omega);have c1:=hEr j hjl 1 (by omega);have c2:=hEr j hjl 2 (by omega);obtain⟨r1,r2,r3,r4,r5⟩:=HEf.out j hjl;have hnx:=effs_next hjl;obtain⟨⟨nm,ag,rs⟩,hee⟩ : ∃ x,es.getD j default=x:=⟨_,rfl⟩
   rw [hee] at c0 c1 c2 r1 r2 r3 r4 r5 hnx;simp only [Ef.cell,Nat.add_zero,Nat.zero_add] at c0 c1 c2;dsimp only at r1 r2 r3 r4 r5;have HNx:=hid hnx;have HRg:=hid (And.intro r2 (And.intro r3 (And.intro r4 r5)));have hj0 : (0 : Int)≤(j : Int):=by omega
   have hj9 : Hid (j≤8):=by show _≤_; have:=HE8.out; omega
   have hstep : Hid (es.length - (intOf (.int .i64 ((j+1 : Nat) : Int))).toNat < es.length - (intOf (.int .i64 (j : Int))).toNat):=by show _ < _; simp only [intOf,Int.toNat_natCast]; omega
   have HTj:=hid (HTl.out j hj);have hA5:=(MapKept.heap_alloc wr (.cells #[.string nm,.int .i64 ag,.int .i64 rs] 45)).1;have hB5:=(Below.refl wr.heap.size wr).alloc (Nat.le_refl _) (.cells #[.string nm,.int .i64 ag,.int .i64 rs] 45);obtain⟨V,hV⟩ : ∃ V,wr.alloc (.cells #[.string nm,.int .i64 ag,.int .i64 rs] 45)=V:=⟨_,rfl⟩
   rw [hV] at hA5 hB5;have HV:=hid hV;have HA5:=hid hA5;have HB5:=hid hB5;have HBd5:=hid (builder_kept HBd.out hB5);have HX5:=hid (HX.out.trans (hB5.mono (Nat.le_trans (Nat.le_of_lt HBb.out.2) HX.out.size)));have HSz:=hid (show bb < wr.heap.size by have:=HX.out.size; have:=HBb.out.2; omega);obtain⟨q,hq⟩ : ∃ q,wr.heap.size=q:=⟨_,rfl⟩
   rw [hq] at HA5 HSz;clear hA5 hB5 hV hEr hjl hee hnx r2 r3 r4 r5 HBd HX HXW HB5;go_upto_region 7 with fail
   rw [HV.out];try rw [hq]
   clear HV c0 c1 c2;have hD : Below V.heap.size V V.drew:=(Below.refl _ _).drew;obtain⟨D,hDe⟩ : ∃ D,V.drew=D:=⟨_,rfl⟩
   rw [hDe] at hD;have AD:=hid ((hD.block q (z13 HA5.out)).trans HA5.out);have BD:=hid (builder_kept HBd5.out hD);have XD:=hid (HX5.out.trans (hD.mono (Nat.le_trans (Nat.le_of_lt HBb.out.2) HX5.out.size)));have hS : (fun w' : World=>w'.cell? ⟨q,0,none⟩=some (.string nm)∧w'.cell? ⟨q,1,none⟩=some (.int .i64 ag)∧w'.cell? ⟨q,2,none⟩=some (.int .i64 rs)) D:=⟨z8 AD.out 0,z8 AD.out 1,z8 AD.out 2⟩
   refine z27 (S:=fun w' : World=>w'.cell? ⟨q,0,none⟩=some (.string nm)∧w'.cell? ⟨q,1,none⟩=some (.int .i64 ag)∧w'.cell? ⟨q,2,none⟩=some (.int .i64 rs)) (by kernel_rfl) rfl rfl ?_;rw [hDe];clear hDe hD;refine pick_o 0 (.pointer (some ⟨q,0,none⟩)) hS ?_;refine pick_o (hy:=fun w' h=>by simp [go_sem,h.1]) 1 (.string nm) hS ?_;refine z10 (i:=2) (v:= .string ((⟨#[101,102,102,101,99,116,32]⟩ : ByteArray)++nm)) (by kernel_rfl) rfl (by kernel_rfl) (by kernel_rfl) rfl rfl (fun w' _=>by simp [go_sem]; omega) hS (by simp [go_sem]; exact rfl) ?_
   refine z10 (i:=3) (v:= .string (((⟨#[101,102,102,101,99,116,32]⟩ : ByteArray)++nm)++(⟨#[32,58,32]⟩ : ByteArray))) (by kernel_rfl) rfl (by kernel_rfl) (by kernel_rfl) rfl rfl (fun w' _=>by simp [go_sem]; omega) hS (by simp [go_sem]; exact rfl) ?_;refine pick_o 4 (.pointer (some ⟨q,1,none⟩)) hS ?_;refine pick_o (hy:=fun w' h=>by simp [go_sem,h.2.1]) 5 (.int .i64 ag) hS ?_;refine pick_o 9 (.pointer (some ⟨q,2,none⟩)) hS ?_;refine pick_o (hy:=fun w' h=>by simp [go_sem,h.2.2]) 10 (.int .i64 rs) hS ?_
   refine z16 (i:=6) (f:=18) (args:= #[.int .i64 ag]) rfl (by kernel_rfl) rfl rfl (by simp [go_sem]) ?_;refine (base1_calls ag HRg.out.1 HRg.out.2.1 D).mono ?_;rintro e E1 ⟨rfl,hb⟩;have AE1:=hid ((hb.block q (z13 AD.out)).trans AD.out);have BE1:=hid (builder_kept BD.out hb);have XE1:=hid (XD.out.trans (hb.mono (Nat.le_trans (Nat.le_of_lt HBb.out.2) XD.out.size)));clear hb hS;have hS : (fun w' : World=>w'.cell? ⟨q,0,none⟩=some (.string nm)∧w'.cell? ⟨q,1,none⟩=some (.int .i64 ag)∧w'.cell? ⟨q,2,none⟩=some (.int .i64 rs)) E1:=⟨z8 AE1.out 0,z8 AE1.out 1,z8 AE1.out 2⟩
   have lb1:=base_lenX ag;refine⟨_,rfl,hS,?_⟩;refine z14 (by simp [go_sem]; exact rfl) ?_;refine z10 (i:=7) (v:= .string ((((⟨#[101,102,102,101,99,116,32]⟩ : ByteArray)++nm)++(⟨#[32,58,32]⟩ : ByteArray))++tx (baseT ag))) (by kernel_rfl) rfl (by kernel_rfl) (by kernel_rfl) rfl rfl (fun w' _=>by simp [go_sem]; omega) hS (by simp [go_sem]; exact rfl) ?_
   refine z10 (i:=8) (v:= .string (((((⟨#[101,102,102,101,99,116,32]⟩ : ByteArray)++nm)++(⟨#[32,58,32]⟩ : ByteArray))++tx (baseT ag))++(⟨#[32,61,62,32]⟩ : ByteArray))) (by kernel_rfl) rfl (by kernel_rfl) (by kernel_rfl) rfl rfl (fun w' _=>by simp [go_sem]; omega) hS (by simp [go_sem]; exact rfl) ?_;refine z16 (i:=11) (f:=18) (args:= #[.int .i64 rs]) rfl (by kernel_rfl) rfl rfl (by simp [go_sem]) ?_;refine (base1_calls rs HRg.out.2.2.1 HRg.out.2.2.2 E1).mono ?_;rintro e E2 ⟨rfl,hb⟩;have AE2:=hid ((hb.block q (z13 AE1.out)).trans AE1.out);have BE2:=hid (builder_kept BE1.out hb)
   have XE2:=hid (XE1.out.trans (hb.mono (Nat.le_trans (Nat.le_of_lt HBb.out.2) XE1.out.size)));clear hb hS;have hS : (fun w' : World=>w'.cell? ⟨q,0,none⟩=some (.string nm)∧w'.cell? ⟨q,1,none⟩=some (.int .i64 ag)∧w'.cell? ⟨q,2,none⟩=some (.int .i64 rs)) E2:=⟨z8 AE2.out 0,z8 AE2.out 1,z8 AE2.out 2⟩
   have lb2:=base_lenX rs;refine⟨_,rfl,hS,?_⟩;refine z14 (by simp [go_sem]; exact rfl) ?_;refine z10 (i:=12) (v:= .string ((((((⟨#[101,102,102,101,99,116,32]⟩ : ByteArray)++nm)++(⟨#[32,58,32]⟩ : ByteArray))++tx (baseT ag))++(⟨#[32,61,62,32]⟩ : ByteArray))++tx (baseT rs))) (by kernel_rfl) rfl (by kernel_rfl) (by kernel_rfl) rfl rfl (fun w' _=>by simp [go_sem]; omega) hS (by simp [go_sem]; exact rfl) ?_
   refine z10 (i:=13) (v:= .string (((((((⟨#[101,102,102,101,99,116,32]⟩ : ByteArray)++nm)++(⟨#[32,58,32]⟩ : ByteArray))++tx (baseT ag))++(⟨#[32,61,62,32]⟩ : ByteArray))++tx (baseT rs))++(⟨#[32,59,32]⟩ : ByteArray))) (by kernel_rfl) rfl (by kernel_rfl) (by kernel_rfl) rfl rfl (fun w' _=>by simp [go_sem]; omega) hS (by simp [go_sem]; exact rfl) ?_;have HFn : Hid ((((((((⟨#[101,102,102,101,99,116,32]⟩ : ByteArray)++nm)++(⟨#[32,58,32]⟩ : ByteArray))++tx (baseT ag))++(⟨#[32,61,62,32]⟩ : ByteArray))++tx (baseT rs))++(⟨#[32,59,32]⟩ : ByteArray))=tx (effT ⟨nm,ag,rs⟩)):=by
    show _=_;simp only [effT,← z23,z67];rfl
   rw [HFn.out];have HEl : Hid ((effT ⟨nm,ag,rs⟩).length≤40):=by
    show _≤_;have h1:=name_len r1;have b1:=base_len ag;have b2:=base_len rs;simp only [effT,List.length_append,List.length_cons,List.length_nil];omega
   refine z16 (i:=14) (f:=17) (args:= #[.pointer (some ⟨bb,0,none⟩),.string (tx (effT ⟨nm,ag,rs⟩))]) rfl (by kernel_rfl) rfl rfl (by simp [go_sem]) ?_;refine (put_calls bb bb _ (effT ⟨nm,ag,rs⟩) E2 BE2.out (by have:=HTj.out; have:=HEl.out; have:=hj9.out; omega) (by have:=XE2.out.size; have:=HBb.out.2; omega)).mono ?_;rintro e E3 ⟨rfl,hb7,hx7,hk7⟩;have HBd7 : Hid (Lib.IsBuilderF 43 5 bb bb (Lib.byteCells (effsT es (j+1))) E3):=by
    rw [HNx.out];exact hb7
   have HX7:=hid (XE2.out.trans hx7);have AE3:=hk7 q _ AE2.out (fun e=>by have:=HSz.out; have e':= Option.some.inj e; omega) (fun c fz e=>by injection e with _ h; exact absurd h (by decide));have hS3 : (fun w' : World=>w'.cell? ⟨q,0,none⟩=some (.string nm)∧w'.cell? ⟨q,1,none⟩=some (.int .i64 ag)∧w'.cell? ⟨q,2,none⟩=some (.int .i64 rs)) E3:=⟨z8 AE3 0,z8 AE3 1,z8 AE3 2⟩
   refine⟨_,rfl,hS3,?_⟩;refine z24 (by kernel_rfl) ?_;clear hS hS3 hb7 hx7 hk7 AE3 lb1 lb2;go_wp2_with fail
   try rw [z17 (by have:=hj9.out; omega)]
   exact⟨⟨j+1,rfl,by omega,HBd7,HX7⟩,hstep.out⟩
  ·have ej : j=es.length:=by omega
   subst ej;have e1:=z8 ((HX.out.block W.heap.size (HBb.out.1)).trans HA3.out) 1;simp at e1;have HF9:=hid (HFm.out wr HXW.out);have HTj:=hid (HTl.out es.length (Nat.le_refl _));go_wp2_with fail
   refine HF9.out.mono ?_;rintro e W5 ⟨v,us,rfl,hF,hS,hb5⟩;have HXW5:=hid (HXW.out.trans (hb5.mono HXW.out.size));have hTx:=(HTree.out W5 (HLd.out.stays HXW5.out) wr.heap.size v ⟨us,hF,hS⟩).text;rw [HSh.out] at hTx;obtain⟨Ty,pv,gf,rf,rfl,hmf,hcf,hKf⟩:=hTx;have HKf:=hid (hKf W5 (Below.refl _ _));have HBd5:=hid (builder_kept HBd.out hb5);have HX5:=hid (HX.out.trans (hb5.mono (show bb≤wr.heap.size by have:=HX.out.size; have:=HBb.out.2; omega)));clear hKf hF hS hb5 HF9 e1 HBd HX HXW;go_wp2_with fail
   refine HKf.out.mono ?_;rintro e W6 ⟨rfl,hb6⟩;have HBd6:=hid (builder_kept HBd5.out hb6);have HX6:=hid (HX5.out.trans (hb6.mono (show bb≤W5.heap.size by have:=HX5.out.size; have:=HBb.out.2; omega)));clear hb6 HKf HBd5 HX5;go_wp2_with fail
   refine (put_calls bb bb _ TS W6 HBd6.out (by have:=HTj.out; have:=HE8.out; have:=HLt.out; omega) (by have:=HX6.out.size; have:=HBb.out.2; omega)).mono ?_;rintro e W7 ⟨rfl,hb7,hx7,-⟩;have HBd7:=hid hb7;have HX7:=hid (HX6.out.trans hx7);clear hb7 hx7 HBd6 HX6;go_wp2_with fail
   refine (builder_str bb bb (effsT es es.length++TS) W7 HBd7.out (by have:=HX7.out.size; have:=HBb.out.2; omega)).mono ?_;rintro e W8 ⟨rfl,hx8⟩;have HX8:=hid (HB3.out.trans ((HX7.out.trans hx8).mono (show W.heap.size≤bb by have:=HBb.out.1; omega)));clear hx8;go_wp2_with fail
   go_ret;exact⟨rfl,HX8.out⟩
end
end
end Go.Proofs.YtfbojelpdccjaaaGreatDoor
