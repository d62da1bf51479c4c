import Derived.Test.YtfbojelpdccjaaaGreatDoorPkT9
import Derived.Test.YtfbojelpdccjaaaGreatDoorPkT11
open Go.Proofs.Tryz
set_option maxHeartbeats 8000000
set_option maxRecDepth 100000
namespace Go.Proofs.YtfbojelpdccjaaaGreatDoor
open Go.RowKit Go.Deep
variable {ms:List Bool}{n p sz:Nat}{F:Nat->Value}{v ve:Value}{W':World}
section
open Go.RowKit Go.Deep
theorem formOfTree_calls (b off cap:Nat) (ns:List Nd) (n:Nd) (k:Fo) (w:World) (hm:ns.length<=300) (hfit:∀m∈ns,Fits m m.kids.toNat) (hbw:b<w.heap.size) (hn:NodesAt w b off ns)
 (h1:ns=n::k.flat) (h2:n.kids=k.count) (h3:k.wf) :
 Calls prog 19 #[.slice (some ⟨b,off,none⟩) ns.length cap] w fun e w'=> ∃v us,e=.returned v/\Forms w.heap.size w' k us/\Shape w.heap.size w' n us v/\Below w.heap.size w w':= by
 have hdr:ns.drop 0=n::(k.flat++ []):=by rw[h1];simp
 have HC:I (Calls _ _ _ _ _):=formAt_calls b off cap ns hm hfit (k.flat.length+1) n k [] 0 w hbw hn hdr h2 h3 (Nat.lt_succ_self _);clear hdr hm hfit hn h1 h2 h3;generalize ns.length=len at*;go_enter func19,ntmps19
 go_wp2_with fail
 refine HC.o.mono ?_;rintro e w2 ⟨v,us,rfl,hF,hS,hb⟩;have HX:I (Forms w.heap.size w2 k us/\Shape w.heap.size w2 n us v/\Below w.heap.size w w2):=⟨hF,hS,hb⟩
 clear hF hS hb;go_wp2_with fail
 go_ret;exact⟨v,us,rfl,HX.o⟩
theorem implTree_calls (b off cap:Nat) (ns:List Nd) (w:World) (R:Bool) (hm:ns.length<=1048576) (hbw:b<w.heap.size) (hn:NodesAt w b off ns) (hs:Short ns) (hA:ImplAns ns R) :
 Calls prog 39 #[.slice (some ⟨b,off,none⟩) ns.length cap] w fun e w'=> e=.returned (.bool R)/\Below w.heap.size w w':= by
 by_cases hl:1<=ns.length/\ns.length<=300
 .have hrest:=hA.rest hl;obtain⟨len,hlen⟩:∃len,ns.length=len:=⟨_,rfl⟩
  have Hlen:I (ns.length=len):=hlen;have HR:I (Rest ns R nodeOkZ implTree):=hrest;have HN:I (NodesAt w b off ns):=hn;have HL:I (1<=len/\len<=300):=ql;have HS:I (Short ns):=hs;have h1:(1:Int)<=(len:Int):=yf;have h2:(len:Int)<=300:=yf;rw[hlen];clear hrest hn hA hl hm hlen hs;go_enter func39,ntmps39
  go_wp2_with fail
  clear h1 h2;go_loopw [15] (fun i wr=> ∃i':Nat,i=.int .i64 i'/\i'<=len/\I ((ns.take i').all nodeOkZ=true)/\Below w.heap.size w wr) (fun i _=>len-(intOf i).toNat)
  case atStart=>exact⟨0,rfl,Li _,rfl,Lb⟩
  case round=>
   obtain⟨i',rfl,hle,HT,hbx⟩:=hrel;have hnx:=HN.o.below hbx hbw;by_cases hlt:(i':Int)<(len:Int)
   .have hil:i'<ns.length:=by rw[Hlen.o];omega
    obtain⟨c0,c1,c2,c3,c4,c5⟩:=fsx (hnx i' hil);obtain⟨n,hnn⟩:∃n,ns.getD i' default=n:=⟨_,rfl⟩
    have hF:nodeOkZ n=false->I (R=false):=fun h=>HR.o.1 (all_false hil qu)
    have hT:nodeOkZ n=true->I ((ns.take (i'+ 1)).all nodeOkZ=true):=fun h=>all_take_succ hil HT.o qu
    rw[hnn]at c0 c1 c2 c3 c4 c5;simp only[Nd.cell,Nat.add_zero]at c0 c1 c2 c3 c4 c5;have hsh:=HS.o n (by rw[<-hnn,List.getD,List.getElem?_eq_getElem hil];exact List.getElem_mem _);have HO:I (∀w,_):=fun w=>nodeOk_calls n w hsh.1 hsh.2.1 hsh.2.2
    clear hnx hil hnn HT hsh;obtain⟨kd,num,a,bb,cc,kids⟩:=n;dsimp only at*;go_wp2_with fail
    refine(HO.o _).mono ?_;rintro e w2 ⟨rfl,hb2⟩;have hb3:Below w.heap.size w w2:=(hbx.alloc qn _).trans (hb2.mono (by have:=hbx.size;simp;omega));clear c0 c1 c2 c3 c4 c5 hb2 HO
    cases ho:nodeOkZ ⟨kd,num,a,bb,cc,kids⟩ with
    | false=>
      have HF:=hF ho;clear hF hT;go_wp2_with fail
      go_ret;exact⟨jf,hb3⟩
    | true=>
      have HT:=hT ho;clear hF hT;go_wp2_with fail
      have hs:=z47 hlt;try rw[z18 zy]
      exact⟨⟨i'+ 1,rfl,yf,HT,hb3⟩,hs⟩
   .have e:i'= len:=by omega
    subst e;have hall:ns.all nodeOkZ=true:=by
     have:=HT.o;rwa[List.take_of_length_le (by rw[Hlen.o];exact La)]at this
    have HX:I (∀w,NodesAt w b off ns->_):=fun w h=>implEnd_calls b off cap ns 0 w h qv yf
    rw[Hlen.o]at HX;rcases HR.o.2 hall with ⟨hne,hR⟩|⟨n,k,g1,g2,g3,g4,hR⟩
    .have hne':(treeEnd ns 0 !=(i':Int))=true:=by rw[bne_iff_ne];rw[Hlen.o]at hne;exact hne
     clear HT hall hne;generalize treeEnd ns 0=te at*;subst hR;go_wp2_with fail
     refine(HX.o wr hnx).mono ?_;rintro e w2 ⟨rfl,rfl⟩;go_wp2_with fail
     go_ret;exact⟨rfl,hbx⟩
    ·have hfit:∀m∈ns,Fits m m.kids.toNat:=fun m hm=>by
      have:=List.all_eq_true.1 hall m hm;simp only[nodeOkZ,Bool.and_eq_true]at this;exact fits_of_own this.1
     have hkl:k.flat.length<=300:=by
      have:=HL.o;have e:=Hlen.o;rw[g1,List.length_cons]at e;omega
     have HC:I (∀w,b<w.heap.size->NodesAt w b off ns->_):=fun w hb h=>clausesOk_calls b off cap ns n k w qv hb h g1 g2 g3
     have HG:I (∀w,b<w.heap.size->NodesAt w b off ns->_):=fun w hb h=>formOfTree_calls b off cap ns n k w qv hfit hb h g1 g2 g3
     rw[Hlen.o]at HC HG;rw[g4,Hlen.o]at HX;have HE:I (R=(implTree n k && decide (k.deep+1<=40))):=hR;have HKL:I (k.flat.length<=300):=hkl;have hee:(((i':Int)) !=(i':Int))=false:=yn;clear HT hall g1 g2 g3 g4 hR HR hfit hkl;go_wp2_with fail
     refine(HX.o wr hnx).mono ?_;rintro e w2 ⟨rfl,rfl⟩;go_wp2_with fail
     refine(HC.o wr qn hnx).mono ?_;rintro e w2 ⟨rfl,hb2⟩;have hb3:=hbx.trans (hb2.mono hbx.size);have hn3:=HN.o.below hb3 hbw;clear hb2 HX HC
     cases hit:implTree n k with
     | false=>
       go_wp2_with fail
       go_ret;refine⟨?_,hb3⟩;rw[HE.o,hit,Bool.false_and];rfl
     | true=>
       go_wp2_with fail
       refine(HG.o w2 (by have:=hb3.size;omega) hn3).mono ?_;rintro e w4 ⟨v,us,rfl,hF4,hS4,hb4⟩;have hb5:=hb3.trans (hb4.mono hb3.size);have HD:I (Calls _ _ _ _ _):=deepOf_calls (k.flat.length+1) _ n k us v w4 hF4 hS4 HKL.o (Nat.lt_succ_self _);clear hF4 hS4 hb4 HG hn3;generalize k.deep+1=dd at*;go_wp2_with fail
       refine HD.o.mono ?_;rintro e w6 ⟨rfl,hb6⟩;go_wp2_with fail
       go_ret;refine⟨?_,hb5.trans (hb6.mono hb5.size)⟩;rw[HE.o,hit,Bool.true_and];show Ending.returned (Value.bool (decide ((dd:Int)<=40)))=_;congr 2
       exact decide_eq_decide.2 yf
 ·have hR:R=false:=by
   rcases hA with ⟨_,h⟩|⟨h1,h2,_⟩|⟨h1,h2,_⟩
   .exact h
   .exact absurd ⟨h1,h2⟩ hl
   .exact absurd ⟨h1,h2⟩ hl
  subst hR;have hl':(ns.length:Int)<1\/((1:Int)<=(ns.length:Int)/\(300:Int)<(ns.length:Int)):=yf;clear hA hm hn hl hs;generalize ns.length=len at*;rcases hl' with h|⟨h,h'⟩
  all_goals
   go_enter func39,ntmps39
   go_wp2_with fail
   go_ret;exact⟨rfl,Lb⟩
theorem base1_calls (k:Int) (h0:1<=k) (h1:k<=4) (W:World):Calls prog 18 #[.int .i64 k] W (BareP W (baseT k)):=by
 have h:k=1\/k=2\/k=3\/k=4:=yf;clear h0 h1;rcases h with rfl|rfl|rfl|rfl
 all_goals
  go_enter func18,ntmps18
  go_wp2_with fail
  go_ret;exact⟨rfl,by repeat(first|exact Lb|refine Below.alloc ?_ zw _)⟩
theorem impl_all {ns:List Nd}(h:ImplAns ns true):ns.all nodeOkZ=true:=by
 rcases h with ⟨-,h⟩|⟨-,-,-,h⟩|⟨-,-,n,k,e1,e2,e3,h⟩
 .cases h
 .cases h
 .have h':= h.symm;simp only[Bool.and_eq_true]at h';exact h'.1
theorem impl_fits {ns:List Nd}(hall:ns.all nodeOkZ=true) (m:Nd) (hm:m∈ns):Fits m m.kids.toNat:=by
 have:=List.all_eq_true.1 hall m hm;simp only[nodeOkZ,Bool.and_eq_true]at this;exact fits_of_own this.1
theorem builder_str (B bb:Nat) (l:List UInt8) (w:World) (h:Lib.IsBuilderF 43 5 B bb (Lib.byteCells l) w) (hB:B<=w.heap.size) :
 Calls prog 20 #[.pointer (some ⟨bb,0,none⟩)] w fun e w'=> e=.returned (.string (tx l))/\Below B w w':= by
 refine(Tryz.Builder_String_any_f B bb l w h hB).mono ?_;rintro e w' ⟨rfl,-,h2⟩;exact⟨rfl,h2⟩
section
variable {W:World}{ae:Option Addr}{be bt ce cn:Nat}{es:List Ef}{ns:List Nd}
theorem implText_no {a1 a2:Option Addr}{l1 c1 l2 c2:Nat}(h:Calls prog 16 #[.agg #[.slice a1 l1 c1,.slice a2 l2 c2]] (W.alloc (.cells #[.slice a1 l1 c1,.slice a2 l2 c2] 26)) fun e W'=> e=.returned (.bool false)/\Below (W.alloc (.cells #[.slice a1 l1 c1,.slice a2 l2 c2] 26)).heap.size (W.alloc (.cells #[.slice a1 l1 c1,.slice a2 l2 c2] 26)) W') :
 Calls prog 6 #[.agg #[.slice a1 l1 c1,.slice a2 l2 c2]] W (TextP W []):=by
 have hA1:=(Ld W (.cells #[.slice a1 l1 c1,.slice a2 l2 c2] 26)).1;have hB1:=(Below.refl W.heap.size W).alloc La (.cells #[.slice a1 l1 c1,.slice a2 l2 c2] 26);obtain⟨Y,hY⟩:∃Y,W.alloc (.cells #[.slice a1 l1 c1,.slice a2 l2 c2] 26)=Y:=⟨_,rfl⟩
 rw[hY]at hA1 hB1 h;have HT:=J h;have HY:=J hY;have HB1:=J hB1;obtain⟨e0,e1⟩:=fcl2 hA1;clear hA1 hB1 hY h;go_enter func6,ntmps6
 go_upto_region 1 with fail
 rw[HY.o];clear HY;go_wp2_with fail
 refine HT.o.mono ?_;rintro e X1 ⟨rfl,hb2⟩;have HB2:=J (HB1.o.trans (hb2.mono HB1.o.size));clear hb2;go_wp2_with fail
 go_ret;exact⟨rfl,HB2.o⟩
theorem implText_yes (hce:es.length<=ce) (hae:es≠ []->ae=some ⟨be,0,none⟩) (hbe:be<W.heap.size) (hbt:bt<W.heap.size) (hE:EffsAt W be 0 es) (hsh:∀e∈es,e.name.size<=maxLen) (hN:NodesAt W bt 0 ns) (hns:Short ns) (hL:Laid W) (hSA:SpecAns ns true) (hIA:ImplAns ns true) (hR:progZ es ns true=true) {n:Nd}{k:Fo}(g1:ns=n::k.flat) (g2:n.kids=k.count) (g3:k.wf) :
 Calls prog 6 #[.agg #[.slice ae es.length ce,.slice (some ⟨bt,0,none⟩) ns.length cn]] W (TextP W (progT es n k)):=by
 have hef:∀i,i<es.length->effOk es i=true:=by
  unfold progZ at hR;simp only[Bool.and_eq_true]at hR;exact fun i hi=>List.all_eq_true.1 hR.2.2.1 i (List.mem_range.2 hi)
 have he8:es.length<=8:=by
  unfold progZ at hR;simp only[Bool.and_eq_true,decide_eq_true_eq]at hR;exact hR.1
 obtain⟨n',k',f1,f2,f3,hl,hst,hex,hne⟩:=right_of hSA;obtain⟨rfl,rfl⟩:=tree_inj g1 g2 g3 f1 f2 f3;have hA:=(Ld W (.cells #[.slice ae es.length ce,.slice (some ⟨bt,0,none⟩) ns.length cn] 26)).1;refine zb93 ?_;intro hB1 Y hY;rw[hY]at hA hB1;have HP:=J (implProgC_calls ae be bt ce cn es ns true Y hce hae (Le hbe hB1.size) (Le hbt hB1.size) (hE.below hB1 hbe) (hN.below hB1 hbt) yf yf hsh (fun w' h1 h2=>implTree_calls bt 0 cn ns w' true yf h1 h2 hns hIA));rw[hR]at HP;have hall:ns.all nodeOkZ=true:=impl_all hIA
 have HFm:=J (fun(X:World) (hx:Below W.heap.size W X)=>formOfTree_calls bt 0 cn ns n' k' X hl (fun m hm=>impl_fits hall m hm) (Le hbt hx.size) (hN.below hx hbt) f1 f2 f3);have HY:=J hY;have HA:=J hA;have HB1:=J hB1;have HE:=J (Lc hbe hE);have HAe:=J hae;have HLd:=J hL;have HEf:=J (fun i hi=>eff_right (hef i hi));have HE8:=J he8;have HTl:=J (fun i hi=>effs_len (fun i hi=>(eff_right (hef i hi)).1) i hi);have hsl:=(bare_len hne 400).1 ⟨n',k',0⟩ 0 (by have:=hst.lt.2.2;omega) hst hex;have hss:=hst.lt.2.2
 have HTree:=J (fun(X:World) (hx:Laid X) (B:Nat) (v:Value) (hF:FormT B X ⟨n',k',0⟩ v)=>text_all hx hl hne 400 ⟨n',k',0⟩ v yf hst hex hF);obtain⟨TS,hTS⟩:∃T,showZ 400 ⟨n',k',0⟩ 0=T:=⟨_,rfl⟩
 have HTS:I (progT es n' k'= effsT es es.length++TS):=qx;have HSh:I (bareZ 400 ⟨n',k',0⟩=TS):=by show _=_;rw[<-hTS,show0]
 rw[hTS]at hsl;have HLt:I (TS.length<=18000):=je;rw[HTS.o];obtain⟨e0,e1⟩:=fcl2 HA.o;clear hR hef he8 g1 g2 g3 f1 f2 f3 hst hex hne hsl hss hTS hA hB1 hY hbe hE hae hL hall hN hbt hsh hns hSA hIA hl hce;go_enter func6,ntmps6
 go_upto_region 1 with fail
 rw[HY.o];clear HY;go_wp2_with fail
 refine HP.o.mono ?_;rintro e X1 ⟨rfl,hb2⟩;have HB2:=J (HB1.o.trans (hb2.mono HB1.o.size));have HA2:=J ((hb2.block W.heap.size (z12 HA.o)).trans HA.o);clear hb2 HP e0 e1;have hNEW:=builder_new X1.heap.size X1 La;have hB3:=(Below.refl X1.heap.size X1).alloc La (.cells #[.pointer none,.slice none 0 0] 43);obtain⟨W0,hW0⟩:∃X,X1.alloc (.cells #[.pointer none,.slice none 0 0] 43)=X:=⟨_,rfl⟩
 rw[hW0]at hNEW hB3;have HW0:=J hW0;obtain⟨bb,hbb⟩:∃b,X1.heap.size=b:=⟨_,rfl⟩
 rw[hbb]at hNEW;have HBb:=J (Lc (show W.heap.size<bb by have:=z12 HA2.o;omega) (show bb<W0.heap.size by rw[<-hbb,<-hW0];simp));have HNEW:=J hNEW;have HA3:=J ((hB3.block W.heap.size (z12 HA2.o)).trans HA2.o);have HB3:=J (HB2.o.trans (hB3.mono HB2.o.size));clear hNEW hB3 hW0;go_upto_region 4 with fail
 rw[HW0.o];try rw[hbb]
 clear HW0 hbb;have e0:=z8 HA3.o 0;simp at e0;go_wp2_with fail
 clear e0;go_loopw [12] (fun i wr=> ∃j:Nat,i=.int .i64 (j:Int)/\j<=es.length/\I (Lib.IsBuilderF 43 5 bb bb (Lib.byteCells (effsT es j)) wr)/\I (Below bb W0 wr)) (fun i _=>es.length-(intOf i).toNat)
 case atStart=>exact⟨0,rfl,Li _,by simpa[effsT,I,Lib.byteCells]using HNEW.o,Lb⟩
 case round=>
  obtain⟨j,rfl,hj,HBd,HX⟩:=hrel;have HXW:=J (HB3.o.trans ((HX.o).mono (show W.heap.size<=bb by have:=HBb.o.1;omega)));by_cases hlt:(j:Int)<(es.length:Int)
  .have hjl:j<es.length:=by omega
   have hax:ae=some ⟨be,0,none⟩:=HAe.o (by intro h;rw[h]at hjl;simp at hjl);subst hax;have hEr:=HE.o.2.below HXW.o HE.o.1;refine zb5 ?_;unhygienic intros
   have hj9:I (j<=8):=by show _<=_;have:=HE8.o;omega
   have hstep:I (es.length-(intOf (.int .i64 ((j+1:Nat):Int))).toNat<es.length-(intOf (.int .i64 (j:Int))).toNat):=qz;have HTj:=J (HTl.o j hj);refine zb37 ?_;unhygienic intros
   have HB5:=J hB5;have HBd5:=J (builder_kept HBd.o hB5);have HX5:=J (HX.o.trans (hB5.mono (Lf (Nat.le_of_lt HBb.o.2) HX.o.size)));have HSz:=J (show bb<wr.heap.size by have:=HX.o.size;have:=HBb.o.2;omega);obtain⟨q,hq⟩:∃q,wr.heap.size=q:=⟨_,rfl⟩
   rw[hq]at HA5 HSz;clear hA5 hB5 hV hEr hjl hee hnx r2 r3 r4 r5 HBd HX HXW HB5;go_upto_region 7 with fail
   rw[HV.o];try rw[hq]
   clear HV c0 c1 c2;have hD:Below V.heap.size V V.drew:=Lb.drew;obtain⟨D,hDe⟩:∃D,V.drew=D:=⟨_,rfl⟩
   rw[hDe]at hD;have AD:=J ((hD.block q (z12 HA5.o)).trans HA5.o);have BD:=J (builder_kept HBd5.o hD);have XD:=J (HX5.o.trans (hD.mono (Lf (Nat.le_of_lt HBb.o.2) HX5.o.size)));have hS:(fun w':World=>w'.cell? ⟨q,0,none⟩=some (.string nm)/\w'.cell? ⟨q,1,none⟩=some (.int .i64 ag)/\w'.cell? ⟨q,2,none⟩=some (.int .i64 rs)) D:=⟨z8 AD.o 0,z8 AD.o 1,z8 AD.o 2⟩
   refine z30 (S:=fun w':World=>w'.cell? ⟨q,0,none⟩=some (.string nm)/\w'.cell? ⟨q,1,none⟩=some (.int .i64 ag)/\w'.cell? ⟨q,2,none⟩=some (.int .i64 rs)) yb rfl rfl ?_;rw[hDe];clear hDe hD;refine pick_o 0 (.pointer (some ⟨q,0,none⟩)) hS ?_;refine pick_o (hy:=fun w' h=>jw) 1 (.string nm) hS ?_;refine z10 (i:=2) (v:=.string ((⟨#[101,102,102,101,99,116,32]⟩:ByteArray)++nm)) yb rfl yb yb rfl rfl (fun w' _=>jv) hS yd ?_;refine z10 (i:=3) (v:=.string (((⟨#[101,102,102,101,99,116,32]⟩:ByteArray)++nm)++(⟨#[32,58,32]⟩:ByteArray))) yb rfl yb yb rfl rfl (fun w' _=>jv) hS yd ?_
   refine pick_o 4 (.pointer (some ⟨q,1,none⟩)) hS ?_;refine pick_o (hy:=fun w' h=>qy) 5 (.int .i64 ag) hS ?_;refine pick_o 9 (.pointer (some ⟨q,2,none⟩)) hS ?_;refine pick_o (hy:=fun w' h=>by simp[go_sem,h.2.2]) 10 (.int .i64 rs) hS ?_;refine z16 (i:=6) (f:=18) (args:= #[.int .i64 ag]) rfl yb rfl rfl yc ?_;refine(base1_calls ag HRg.o.1 HRg.o.2.1 D).mono ?_;rintro e E1 ⟨rfl,hb⟩;have AE1:=J ((hb.block q (z12 AD.o)).trans AD.o);have BE1:=J (builder_kept BD.o hb);have XE1:=J (XD.o.trans (hb.mono (Lf (Nat.le_of_lt HBb.o.2) XD.o.size)));clear hb hS
   have hS:(fun w':World=>w'.cell? ⟨q,0,none⟩=some (.string nm)/\w'.cell? ⟨q,1,none⟩=some (.int .i64 ag)/\w'.cell? ⟨q,2,none⟩=some (.int .i64 rs)) E1:=⟨z8 AE1.o 0,z8 AE1.o 1,z8 AE1.o 2⟩
   have lb1:=base_lenX ag;refine⟨_,rfl,hS,?_⟩;refine z15 yd ?_;refine z10 (i:=7) (v:=.string ((((⟨#[101,102,102,101,99,116,32]⟩:ByteArray)++nm)++(⟨#[32,58,32]⟩:ByteArray))++tx (baseT ag))) yb rfl yb yb rfl rfl (fun w' _=>jv) hS yd ?_;refine z10 (i:=8) (v:=.string (((((⟨#[101,102,102,101,99,116,32]⟩:ByteArray)++nm)++(⟨#[32,58,32]⟩:ByteArray))++tx (baseT ag))++(⟨#[32,61,62,32]⟩:ByteArray))) yb rfl yb yb rfl rfl (fun w' _=>jv) hS yd ?_;refine z16 (i:=11) (f:=18) (args:= #[.int .i64 rs]) rfl yb rfl rfl yc ?_;refine(base1_calls rs HRg.o.2.2.1 HRg.o.2.2.2 E1).mono ?_;rintro e E2 ⟨rfl,hb⟩
   have AE2:=J ((hb.block q (z12 AE1.o)).trans AE1.o);have BE2:=J (builder_kept BE1.o hb);have XE2:=J (XE1.o.trans (hb.mono (Lf (Nat.le_of_lt HBb.o.2) XE1.o.size)));clear hb hS;have hS:(fun w':World=>w'.cell? ⟨q,0,none⟩=some (.string nm)/\w'.cell? ⟨q,1,none⟩=some (.int .i64 ag)/\w'.cell? ⟨q,2,none⟩=some (.int .i64 rs)) E2:=⟨z8 AE2.o 0,z8 AE2.o 1,z8 AE2.o 2⟩
   have lb2:=base_lenX rs;refine⟨_,rfl,hS,?_⟩;refine z15 yd ?_;refine z10 (i:=12) (v:=.string ((((((⟨#[101,102,102,101,99,116,32]⟩:ByteArray)++nm)++(⟨#[32,58,32]⟩:ByteArray))++tx (baseT ag))++(⟨#[32,61,62,32]⟩:ByteArray))++tx (baseT rs))) yb rfl yb yb rfl rfl (fun w' _=>jv) hS yd ?_;refine z10 (i:=13) (v:=.string (((((((⟨#[101,102,102,101,99,116,32]⟩:ByteArray)++nm)++(⟨#[32,58,32]⟩:ByteArray))++tx (baseT ag))++(⟨#[32,61,62,32]⟩:ByteArray))++tx (baseT rs))++(⟨#[32,59,32]⟩:ByteArray))) yb rfl yb yb rfl rfl (fun w' _=>jv) hS yd ?_
   have HFn:I ((((((((⟨#[101,102,102,101,99,116,32]⟩:ByteArray)++nm)++(⟨#[32,58,32]⟩:ByteArray))++tx (baseT ag))++(⟨#[32,61,62,32]⟩:ByteArray))++tx (baseT rs))++(⟨#[32,59,32]⟩:ByteArray))=tx (effT ⟨nm,ag,rs⟩)):=by
    show _=_;simp only[effT,<-z24,tx_name];rfl
   rw[HFn.o];have HEl:I ((effT ⟨nm,ag,rs⟩).length<=40):=by
    show _<=_;have h1:=name_len r1;have b1:=base_len ag;have b2:=base_len rs;simp only[effT,List.length_append,List.length_cons,List.length_nil];omega
   refine z16 (i:=14) (f:=17) (args:= #[.pointer (some ⟨bb,0,none⟩),.string (tx (effT ⟨nm,ag,rs⟩))]) rfl yb rfl rfl yc ?_;refine(put_calls bb bb _ (effT ⟨nm,ag,rs⟩) E2 BE2.o (by have:=HTj.o;have:=HEl.o;have:=hj9.o;omega) (by have:=XE2.o.size;have:=HBb.o.2;omega)).mono ?_;rintro e E3 ⟨rfl,hb7,hx7,hk7⟩;have HBd7:I (Lib.IsBuilderF 43 5 bb bb (Lib.byteCells (effsT es (j+1))) E3):=by
    rw[HNx.o];exact hb7
   have HX7:=J (XE2.o.trans hx7);have AE3:=hk7 q _ AE2.o (fun e=>by have:=HSz.o;have e':= Option.some.inj e;omega) (fun c fz e=>by injection e with _ h;exact absurd h yh);have hS3:(fun w':World=>w'.cell? ⟨q,0,none⟩=some (.string nm)/\w'.cell? ⟨q,1,none⟩=some (.int .i64 ag)/\w'.cell? ⟨q,2,none⟩=some (.int .i64 rs)) E3:=⟨z8 AE3 0,z8 AE3 1,z8 AE3 2⟩
   refine⟨_,rfl,hS3,?_⟩;refine z34 yb ?_;clear hS hS3 hb7 hx7 hk7 AE3 lb1 lb2;go_wp2_with fail
   try rw[z18 (by have:=hj9.o;omega)]
   exact⟨⟨j+1,rfl,yf,HBd7,HX7⟩,hstep.o⟩
  .have ej:j=es.length:=by omega
   subst ej;have e1:=z8 ((HX.o.block W.heap.size (HBb.o.1)).trans HA3.o) 1;simp at e1;have HF9:=J (HFm.o wr HXW.o);have HTj:=J (HTl.o es.length La);go_wp2_with fail
   refine HF9.o.mono ?_;rintro e W5 ⟨v,us,rfl,hF,hS,hb5⟩;have HXW5:=J (HXW.o.trans (hb5.mono HXW.o.size));have hTx:=(HTree.o W5 (HLd.o.stays HXW5.o) wr.heap.size v ⟨us,hF,hS⟩).text;rw[HSh.o]at hTx;obtain⟨Ty,pv,gf,rf,rfl,hmf,hcf,hKf⟩:=hTx;have HKf:=J (hKf W5 Lb);have HBd5:=J (builder_kept HBd.o hb5);have HX5:=J (HX.o.trans (hb5.mono (show bb<=wr.heap.size by have:=HX.o.size;have:=HBb.o.2;omega)));clear hKf hF hS hb5 HF9 e1 HBd HX HXW;go_wp2_with fail
   refine HKf.o.mono ?_;rintro e W6 ⟨rfl,hb6⟩;have HBd6:=J (builder_kept HBd5.o hb6);have HX6:=J (HX5.o.trans (hb6.mono (show bb<=W5.heap.size by have:=HX5.o.size;have:=HBb.o.2;omega)));clear hb6 HKf HBd5 HX5;go_wp2_with fail
   refine(put_calls bb bb _ TS W6 HBd6.o (by have:=HTj.o;have:=HE8.o;have:=HLt.o;omega) (by have:=HX6.o.size;have:=HBb.o.2;omega)).mono ?_;rintro e W7 ⟨rfl,hb7,hx7,-⟩;have HBd7:=J hb7;have HX7:=J (HX6.o.trans hx7);clear hb7 hx7 HBd6 HX6;go_wp2_with fail
   refine(builder_str bb bb (effsT es es.length++TS) W7 HBd7.o (by have:=HX7.o.size;have:=HBb.o.2;omega)).mono ?_;rintro e W8 ⟨rfl,hx8⟩;have HX8:=J (HB3.o.trans ((HX7.o.trans hx8).mono (show W.heap.size<=bb by have:=HBb.o.1;omega)));clear hx8;go_wp2_with fail
   go_ret;exact⟨rfl,HX8.o⟩
end
end
section
open Go.RowKit
structure Picked (B:Nat) (p:Nat) (w w':World):Prop where
 cell0:w'.cell? ⟨B,0,none⟩=w.cell? ⟨B,0,none⟩
 cell1:w'.cell? ⟨B,1,none⟩=some (.int .i64 ((p:Int)+1))
 frozen:w'.frozen? ⟨B,1,none⟩=w.frozen? ⟨B,1,none⟩
 other:∀a:Addr,a.block≠B->w'.cell? a=w.cell? a
 below:∀n,n<=B->Below n w w'
 how:w'= w.setCell ⟨B,1,none⟩ (.int .i64 ((p:Int)+1))\/w'= (w.setCell ⟨B,1,none⟩ (.int .i64 ((p:Int)+1))).drew
theorem picked_set (B p:Nat) (w:World) (h1:w.cell? ⟨B,1,none⟩=some (.int .i64 p)):Picked B p w (w.setCell ⟨B,1,none⟩ (.int .i64 ((p:Int)+1))) where
 cell0:=yc
 cell1:=World.cell?_setCell_same' _ _ _ (by rw[h1];rfl)
 frozen:=yn
 other:=fun a ha=>Lj (w:=w) (Lg w _ _ a.block ha)
 below:=fun n hn=>(Below.refl n w).setCell hn _
 how:=Or.inl rfl
theorem picked_drew (B p:Nat) (w:World) (h1:w.cell? ⟨B,1,none⟩=some (.int .i64 p)):Picked B p w (w.setCell ⟨B,1,none⟩ (.int .i64 ((p:Int)+1))).drew where
 cell0:=(picked_set B p w h1).cell0
 cell1:=(picked_set B p w h1).cell1
 frozen:=(picked_set B p w h1).frozen
 other:=(picked_set B p w h1).other
 below:=fun n hn=>((picked_set B p w h1).below n hn).drew
 how:=Or.inr rfl
theorem xor_i64 (a b:Nat) (ha:a<4611686018427387904) (hb:b<4611686018427387904) :
 bits .xor .i64 (a:Int) (b:Int)=((a ^^^ b:Nat):Int):=by
 have hx:a ^^^ b<2 ^ 62:=Nat.xor_lt_two_pow yf yf;have h1:(BitVec.ofInt 64 (a:Int)).toNat=a:=by
  rw[BitVec.ofInt_natCast,BitVec.toNat_ofNat];exact Nat.mod_eq_of_lt yf
 have h2:(BitVec.ofInt 64 (b:Int)).toNat=b:=by
  rw[BitVec.ofInt_natCast,BitVec.toNat_ofNat];exact Nat.mod_eq_of_lt yf
 show IntKind.i64.wrap ((BitVec.ofInt 64 (a:Int) ^^^ BitVec.ofInt 64 (b:Int)).toNat:Int)=_;rw[BitVec.toNat_xor,h1,h2,IntKind.wrap_i64];omega
def PickPost (B p:Nat) (n:Int) (w:World) (e:Ending) (w':World):Prop:=
 (∃r,e=.returned (.int .i64 r)/\0<=r/\(0<n->r<n))/\Picked B p w w'
theorem pick_none (B:Nat) (a0:Option Addr) (len cap:Nat) (p:Nat) (n:Int) (w:World)
 (h0:w.cell? ⟨B,0,none⟩=some (.slice a0 len cap)) (h1:w.cell? ⟨B,1,none⟩=some (.int .i64 p))
 (hfz:w.frozen? ⟨B,1,none⟩=false) (hp:p<=1000000) (hn:n<1\/len=0) :
 Calls prog 37 #[.pointer (some ⟨B,0,none⟩),.int .i64 n] w (PickPost B p n w):=by
 have hn':n<1\/((len:Int)==0)=true:=by
  rcases hn with h|h
  .exact Or.inl h
  .exact Or.inr (by simp[h])
 rcases hn' with hn'|hn'
 all_goals
  go_enter func37,ntmps37
  go_wp2
  all_goals
   go_ret;exact⟨⟨0,rfl,Int.le_refl _,fun h=>h⟩,picked_set B p w h1⟩
theorem pick_near (B b off:Nat) (len cap:Nat) (p:Nat) (z n:Int) (w:World)
 (h0:w.cell? ⟨B,0,none⟩=some (.slice (some ⟨b,off,none⟩) len cap)) (h1:w.cell? ⟨B,1,none⟩=some (.int .i64 p))
 (hfz:w.frozen? ⟨B,1,none⟩=false) (hp:p<=1000000) (hn:1<=n) (hlt:p<len) (hbB:b≠B)
 (hz:w.cell? ⟨b,off+p,none⟩=some (.int .u8 z)) (hz0:0<=z) (hz1:z<=255) :
 Calls prog 37 #[.pointer (some ⟨B,0,none⟩),.int .i64 n] w (PickPost B p n w):=by
 have hl:((len:Int)==0)=false:=yk;go_enter func37,ntmps37
 go_wp2
 go_ret;exact⟨⟨z % n,rfl,Int.emod_nonneg _ yf,fun h=>Int.emod_lt_of_pos _ h⟩,picked_set B p w h1⟩
theorem far_sum (z y:Int) (p len:Nat) (hp:p<=1000000) (hz0:0<=z) (hz1:z<=255) (hy0:0<=y) (hy1:y<=255) :
 ∃x:Nat,x<=1000000000000/\wrap64 (z*131+y*1117+(p:Int)*29+wrap64 (wrap64 ((p:Int)/(len:Int))*53))=(x:Int):=by
 have hq:((p:Int)/(len:Int))=((p/len:Nat):Int):=yf;have hq2:p/len<=p:=Nat.div_le_self _ _;rw[hq];generalize p/len=q at hq2;rw[IntWalk.wrap64_in (q:Int) ⟨yf,yf⟩,IntWalk.wrap64_in ((q:Int)*53) ⟨yf,yf⟩,IntWalk.wrap64_in _ ⟨yf,yf⟩];exact⟨(z*131+y*1117+(p:Int)*29+(q:Int)*53).toNat,yf,yf⟩
theorem far_nat (x:Nat) (hx:x<=1000000000000):bits .xor .i64 (x:Int) (wrap64 ((x:Int)/64))=((x ^^^ (x/64):Nat):Int):=by
 rw[show((x:Int)/64)=((x/64:Nat):Int) by omega,IntWalk.wrap64_in _ ⟨yf,yf⟩];exact xor_i64 _ _ yf yf
theorem far_low (x:Nat) (hx:x<=1000000000000) (n:Int):0<=(bits .xor .i64 (x:Int) (wrap64 ((x:Int)/64))).tmod n:=by
 rw[far_nat x hx];exact Int.tmod_nonneg _ (Int.natCast_nonneg _)
theorem far_high (x:Nat) (hx:x<=1000000000000) (n:Int) (hn:0<n):(bits .xor .i64 (x:Int) (wrap64 ((x:Int)/64))).tmod n<n:=by
 rw[far_nat x hx];exact Int.tmod_lt_of_pos _ hn
theorem pick_far (B b off:Nat) (len cap:Nat) (p:Nat) (z y n:Int) (w:World)
 (h0:w.cell? ⟨B,0,none⟩=some (.slice (some ⟨b,off,none⟩) len cap)) (h1:w.cell? ⟨B,1,none⟩=some (.int .i64 p))
 (hfz:w.frozen? ⟨B,1,none⟩=false) (hp:p<=1000000) (hn:1<=n) (hl1:1<=len) (hlt:len<=p) (hbB:b≠B)
 (i j:Nat) (hi:((p:Int)) % (len:Int)=i) (hj:((p:Int)*7+3) % (len:Int)=j) (hil:i<len) (hjl:j<len)
 (hz:w.cell? ⟨b,off+i,none⟩=some (.int .u8 z)) (hz0:0<=z) (hz1:z<=255)
 (hy:w.cell? ⟨b,off+j,none⟩=some (.int .u8 y)) (hy0:0<=y) (hy1:y<=255) :
 Calls prog 37 #[.pointer (some ⟨B,0,none⟩),.int .i64 n] w (PickPost B p n w):=by
 have hl:((len:Int)==0)=false:=yk;obtain⟨x,hx,ex⟩:=far_sum z y p len hp hz0 hz1 hy0 hy1;have hx':I (x<=1000000000000):=hx;have ex':I (wrap64 (z*131+y*1117+(p:Int)*29+wrap64 (wrap64 ((p:Int)/(len:Int))*53))=(x:Int)):=ex;clear ex hx;go_enter func37,ntmps37
 go_wp2
 go_region
 rw[ex'.o];go_wp2
 go_ret;refine⟨⟨_,rfl,?_,?_⟩,picked_drew B p w h1⟩
 .exact far_low x hx'.o n
 .exact far_high x hx'.o n
theorem pick_calls (B:Nat) (a0:Option Addr) (len cap:Nat) (p:Nat) (n:Int) (w:World)
 (h0:w.cell? ⟨B,0,none⟩=some (.slice a0 len cap)) (h1:w.cell? ⟨B,1,none⟩=some (.int .i64 p))
 (hfz:w.frozen? ⟨B,1,none⟩=false) (hp:p<=1000000)
 (hc:0<len-> ∃b off,a0=some ⟨b,off,none⟩/\b≠B/\ ∀i,i<len-> ∃z,w.cell? ⟨b,off+i,none⟩=some (.int .u8 z)/\0<=z/\z<=255) :
 Calls prog 37 #[.pointer (some ⟨B,0,none⟩),.int .i64 n] w (PickPost B p n w):=by
 by_cases hn:n<1\/len=0
 .exact pick_none B a0 len cap p n w h0 h1 hfz hp hn
 .have hl:0<len:=by omega
  obtain⟨b,off,rfl,hbB,hz⟩:=hc hl;by_cases hlt:p<len
  .obtain⟨z,hz,hz0,hz1⟩:=hz p hlt;exact pick_near B b off len cap p z n w h0 h1 hfz hp yf hlt hbB hz hz0 hz1
  ·obtain⟨z,hzc,hz0,hz1⟩:=hz (p % len) (Nat.mod_lt _ hl);obtain⟨y,hyc,hy0,hy1⟩:=hz ((p*7+3) % len) (Nat.mod_lt _ hl);exact pick_far B b off len cap p z y n w h0 h1 hfz hp yf hl yf hbB (p % len) ((p*7+3) % len) yf (by first|(push_cast;rfl)|simp)
    (Nat.mod_lt _ hl) (Nat.mod_lt _ hl) hzc hz0 hz1 hyc hy0 hy1
end
section
open Go.RowKit Go.Deep
structure Dr where
 B:Nat
 G:Nat
 a0:Option Addr
 len:Nat
 cap:Nat
def Dr.free (d:Dr) (W:World) (q:Nat):Prop:=q<W.heap.size/\q≠d.B/\q≠d.G
structure Grew (d:Dr) (W W':World):Prop where
 os:W'.os=W.os
 tape:W'.tape=W.tape
 output:W'.output=W.output
 size:W.heap.size<=W'.heap.size
 block:∀q,d.free W q->W'.heap[q]?=W.heap[q]?
theorem Grew.refl (d:Dr) (W:World):Grew d W W:=⟨rfl,rfl,rfl,La,fun _ _=>rfl⟩
theorem Dr.free.grew {d:Dr}{W:World}{q:Nat}(h:d.free W q) (g:Grew d W W'):d.free W' q:=⟨Le h.1 g.size,h.2⟩
theorem Grew.trans {d:Dr}{W W'':World}(h:Grew d W W') (g:Grew d W' W''):Grew d W W'':=
 ⟨g.os.trans h.os,g.tape.trans h.tape,g.output.trans h.output,Lf h.size g.size,fun q hq=>(g.block q (hq.grew h)).trans (h.block q hq)⟩
theorem Grew.of_below {d:Dr}{W:World}(h:Below W.heap.size W W'):Grew d W W':= ⟨h.os,h.tape,h.output,h.size,fun q hq=>h.block q hq.1⟩
theorem Grew.alloc {d:Dr}{W:World}(h:Grew d W W') (o:Obj):Grew d W (W'.alloc o):=h.trans (Grew.of_below (Lb.alloc La _))
theorem Grew.drew {d:Dr}{W:World}(h:Grew d W W'):Grew d W W'.drew:=⟨h.os,h.tape,h.output,h.size,h.block⟩
theorem Grew.below {d:Dr}{W:World}(h:Grew d W W') (hn:n<=W.heap.size) (h1:n<=d.B) (h2:n<=d.G):Below n W W':=
 ⟨h.os,h.tape,h.output,h.size,fun q hq=>h.block q ⟨yf,yf,yf⟩⟩
theorem Grew.cell {d:Dr}{W:World}(h:Grew d W W') {p:Addr}(hq:d.free W p.block):W'.cell? p=W.cell? p:=Lj (h.block _ hq)
def Lies (d:Dr) (W:World) (v:Value) (n sz:Nat) (F:Nat->Value):Prop:=
 (v=.slice none 0 0/\n=0)\/ ∃b off cap,v=.slice (some ⟨b,off,none⟩) n cap/\n<=cap/\off=0/\d.free W b/\ ∀i,i<n*sz->W.cell? ⟨b,off+i,none⟩=some (F i)
theorem Lies.grew {d:Dr}{W:World}(h:Lies d W v n sz F) (g:Grew d W W'):Lies d W' v n sz F:=by
 rcases h with h|⟨b,off,cap,rfl,hn,hz,hq,hc⟩
 .exact Or.inl h
 .exact Or.inr ⟨b,off,cap,rfl,hn,hz,hq.grew g,fun i hi=>(g.cell (p:=⟨b,off+i,none⟩) hq).trans (hc i hi)⟩
theorem Lies.is {d:Dr}{W:World}(h:Lies d W v n sz F):∃ad cp,v=.slice ad n cp:=by
 rcases h with ⟨rfl,rfl⟩|⟨b,off,cap,rfl,-⟩
 .exact⟨_,_,rfl⟩
 .exact⟨_,_,rfl⟩
theorem Lies.at {d:Dr}{W:World}{ad:Option Addr}{cp n':Nat}(h:Lies d W (.slice ad n cp) n' sz F) (h0:0<n):n'= n/\n<=cp/\ ∃b off,ad=some ⟨b,off,none⟩/\d.free W b/\ ∀i,i<n*sz->W.cell? ⟨b,off+i,none⟩=some (F i):=by
 rcases h with ⟨e,rfl⟩|⟨b,off,cap,e,hn,-,hq,hc⟩
 .cases e;omega
 .cases e;exact⟨rfl,hn,b,off,rfl,hq,hc⟩
structure Kn where
 name:ByteArray
 ty:Int
 res:Int
instance:Inhabited Kn:=⟨⟨ByteArray.empty,0,0⟩⟩
def Kn.cell (k:Kn):Nat->Value
 |0=> .string k.name
 |1=> .int .i64 k.ty
 |_=> .int .i64 k.res
def Brief (s:ByteArray):Prop:=s.size<=100
def NodesD (d:Dr) (W:World) (v:Value) (ns:List Nd):Prop:=Lies d W v ns.length 6 (fun i=>(ns.getD (i/6) default).cell (i % 6))/\ ∀n∈ns,Brief n.a/\Brief n.b/\Brief n.c
def KnowsD (d:Dr) (W:World) (v:Value) (ks:List Kn):Prop:=Lies d W v ks.length 3 (fun i=>(ks.getD (i/3) default).cell (i % 3))/\ ∀k∈ks,Brief k.name
def BoolsD (d:Dr) (W:World) (v:Value) (ms:List Bool):Prop:=Lies d W v ms.length 1 (fun i=> .bool (ms.getD i false))
theorem NodesD.grew {d:Dr}{W:World}{ns:List Nd}(h:NodesD d W v ns) (g:Grew d W W'):NodesD d W' v ns:=⟨h.1.grew g,h.2⟩
theorem KnowsD.grew {d:Dr}{W:World}{ks:List Kn}(h:KnowsD d W v ks) (g:Grew d W W'):KnowsD d W' v ks:=⟨h.1.grew g,h.2⟩
theorem BoolsD.grew {d:Dr}{W:World}(h:BoolsD d W v ms) (g:Grew d W W'):BoolsD d W' v ms:=Lies.grew h g
theorem getD_mem {α:Type}[Inhabited α] {l:List α}{k:Nat}(h:k<l.length):l.getD k default∈l:=by
 rw[show l.getD k default=l[k] by simp[List.getD,h]];exact List.getElem_mem h
theorem cell_div {α:Type}[Inhabited α] (l:List α) (f:α->Nat->Value) (sz k c:Nat) (hc:c<sz):f (l.getD ((k*sz+c)/sz) default) ((k*sz+c) % sz)=f (l.getD k default) c:=by
 rw[Nat.mul_comm k sz,Nat.mul_add_div yf,Nat.div_eq_of_lt hc,Nat.mul_add_mod,Nat.mod_eq_of_lt hc,Nat.add_zero]
theorem NodesD.slice {d:Dr}{W:World}{ns:List Nd}(h:NodesD d W v ns):NodeSlice W v ns:=by
 obtain⟨h,-⟩:=h;rcases h with ⟨rfl,h⟩|⟨b,off,cap,rfl,hn,-,hq,hc⟩
 .exact⟨none,0,by rw[h],Or.inl (Lk h)⟩
 .refine⟨_,cap,rfl,Or.inr ⟨b,off,rfl,hq.1,fun k hk c hc'=> ?_⟩⟩;rw[Nat.add_assoc,hc (k*6+c) yf];exact congrArg some (cell_div ns Nd.cell 6 k c hc')
theorem KnowsD.at {d:Dr}{W:World}{ad:Option Addr}{n cp:Nat}{ks:List Kn}(h:KnowsD d W (.slice ad n cp) ks) {i:Nat}(hi:i<n):∃b off nm ty res,ad=some ⟨b,off,none⟩/\ks.getD i default=⟨nm,ty,res⟩/\Brief nm/\d.free W b/\W.cell? ⟨b,off+i*3,none⟩=some (.string nm)/\W.cell? ⟨b,off+i*3+1,none⟩=some (.int .i64 ty)/\W.cell? ⟨b,off+i*3+2,none⟩=some (.int .i64 res):=by
 obtain⟨h,hB⟩:=h;obtain⟨hl,-,b,off,rfl,hq,hc⟩:=h.at yf;obtain⟨k,hk⟩:∃k,ks.getD i default=k:=⟨_,rfl⟩
 have hb:=hB _ (getD_mem (l:=ks) (k:=i) yf);have e:∀c,c<3->W.cell? ⟨b,off+(i*3+c),none⟩=some (k.cell c):=fun c hc'=> by
  rw[hc (i*3+c) yf,<-hk];exact congrArg some (cell_div ks Kn.cell 3 i c hc')
 rw[hk]at hb;obtain⟨nm,ty,res⟩:=k;exact⟨b,off,nm,ty,res,rfl,hk,hb,hq,e 0 yf,e 1 yf,e 2 yf⟩
theorem KnowsD.is {d:Dr}{W:World}{ks:List Kn}(h:KnowsD d W v ks):∃ad cp,v=.slice ad ks.length cp:=h.1.is
theorem NodesD.is {d:Dr}{W:World}{ns:List Nd}(h:NodesD d W v ns):∃ad cp,v=.slice ad ns.length cp:=h.1.is
theorem BoolsD.is {d:Dr}{W:World}(h:BoolsD d W v ms):∃ad cp,v=.slice ad ms.length cp:=Lies.is h
theorem BoolsD.at {d:Dr}{W:World}{ad:Option Addr}{cp:Nat}(h:BoolsD d W (.slice ad n cp) ms) {i:Nat}(hi:i<n):∃b off,ad=some ⟨b,off,none⟩/\d.free W b/\W.cell? ⟨b,off+i,none⟩=some (.bool (ms.getD i false)):=by
 obtain⟨hl,-,b,off,rfl,hq,hc⟩:=Lies.at h yf;exact⟨b,off,rfl,hq,hc i yf⟩
structure Cn where
 p:Nat
 left:Int
 next:Nat
structure Rdr (d:Dr) (W:World) (p:Nat):Prop where
 blk:W.heap[d.B]?=some (.cells #[.slice d.a0 d.len d.cap,.int .i64 (p:Int)] 79)
 bytes:0<d.len-> ∃b off,d.a0=some ⟨b,off,none⟩/\d.free W b/\ ∀i,i<d.len-> ∃z,W.cell? ⟨b,off+i,none⟩=some (.int .u8 z)/\0<=z/\z<=255
structure Gen (d:Dr) (ve:Value) (W:World) (s:Cn):Prop where
 rd:Rdr d W s.p
 blk:W.heap[d.G]?=some (.cells #[.pointer (some ⟨d.B,0,none⟩),ve,.int .i64 s.left,.int .i64 (s.next:Int)] 111)
 ne:d.B≠d.G
theorem Rdr.same {d:Dr}{W:World}(h:Rdr d W p) (g:Grew d W W') (e:W'.heap[d.B]?=W.heap[d.B]?):Rdr d W' p:=by
 refine⟨e.trans h.blk,fun hl=>?_⟩;obtain⟨b,off,ea,hq,hz⟩:=h.bytes hl;refine⟨b,off,ea,hq.grew g,fun i hi=>?_⟩;obtain⟨z,hz,h2⟩:=hz i hi;exact⟨z,(g.cell (p:=⟨b,off+i,none⟩) hq).trans hz,h2⟩
theorem Gen.below {d:Dr}{W:World}{s:Cn}(h:Gen d ve W s) (hb:Below W.heap.size W W'):Gen d ve W' s:=
 ⟨h.rd.same (Grew.of_below hb) (hb.block _ (z12 h.rd.blk)),(hb.block _ (z12 h.blk)).trans h.blk,h.ne⟩
theorem Gen.alloc {d:Dr}{W:World}{s:Cn}(h:Gen d ve W s) (o:Obj):Gen d ve (W.alloc o) s:=h.below (Lb.alloc La _)
theorem Gen.drew {d:Dr}{W:World}{s:Cn}(h:Gen d ve W s):Gen d ve W.drew s:=⟨⟨h.rd.blk,h.rd.bytes⟩,h.blk,h.ne⟩
theorem Rdr.drew {d:Dr}{W:World}(h:Rdr d W p):Rdr d W.drew p:=⟨h.blk,h.bytes⟩
theorem Rdr.below {d:Dr}{W:World}(h:Rdr d W p) (hb:Below W.heap.size W W'):Rdr d W' p:=h.same (Grew.of_below hb) (hb.block _ (z12 h.blk))
def Spent (s s':Cn) (t c:Nat):Prop:=s'.p<=s.p+t/\s'.next<=s.next+t/\s.left-t<=s'.left/\s'.left<=s.left/\t+300*s'.left.toNat<=300*s.left.toNat+c
def Fit (s:Cn) (c:Nat):Prop:=s.p+300*s.left.toNat+c<=900000/\s.next+300*s.left.toNat+c<=900000/\ -900000<=s.left-300*s.left.toNat-c/\s.left<=1000
theorem Rdr.picked {d:Dr}{W:World}(h:Rdr d W p) (hg:Grew d W W') (hb:W'.heap[d.B]?=some (.cells #[.slice d.a0 d.len d.cap,.int .i64 ((p:Int)+1)] 79)):Rdr d W' (p+1):=by
 refine⟨by rw[hb];push_cast;rfl,fun hl=>?_⟩;obtain⟨b,off,ea,hq,hz⟩:=h.bytes hl;refine⟨b,off,ea,hq.grew hg,fun i hi=>?_⟩;obtain⟨z,hz,h2⟩:=hz i hi;exact⟨z,(hg.cell (p:=⟨b,off+i,none⟩) hq).trans hz,h2⟩
theorem z31 {d:Dr}{W:World}(h:Rdr d W p) (hp:p<=1000000) (n:Int) (hn:0<n) :
 Calls prog 37 #[.pointer (some ⟨d.B,0,none⟩),.int .i64 n] W fun e W'=> ∃m:Int,e=.returned (.int .i64 m)/\0<=m/\m<n/\Rdr d W' (p+1)/\Grew d W W'/\W'.heap.size=W.heap.size/\(∀q,q≠d.B->W'.heap[q]?=W.heap[q]?):=by
 have hc0:=z8 h.blk 0;have hc1:=z8 h.blk 1;refine(pick_calls d.B d.a0 d.len d.cap p n W (by simpa using hc0) (by simpa using hc1) (z11 h.blk 1) hp (fun hl=>?_)).mono ?_
 .obtain⟨b,off,ea,hq,hz⟩:=h.bytes hl;exact⟨b,off,ea,hq.2.1,hz⟩
 .rintro e W' ⟨⟨r,rfl,hr0,hr1⟩,hP⟩;have hw:=hP.how;have hs:W'.heap.size=W.heap.size:=by rcases hw with rfl|rfl<;>simp[World.setCell,World.drew]
  have ho:∀q,q≠d.B->W'.heap[q]?=W.heap[q]? :=fun q hq=>by
   rcases hw with rfl|rfl
   .exact Lg W ⟨d.B,1,none⟩ _ q hq
   .exact Lg W ⟨d.B,1,none⟩ _ q hq
  have hg:Grew d W W':= ⟨vd,vd,vd,Nat.le_of_eq hs.symm,fun q hq=>ho q hq.2.1⟩
  refine⟨r,rfl,hr0,hr1 hn,h.picked hg ?_,hg,hs,ho⟩;rcases hw with rfl|rfl
  .simp[World.setCell,Array.getElem?_modify,h.blk]
  .simp[World.setCell,World.drew,Array.getElem?_modify,h.blk]
end
end Go.Proofs.YtfbojelpdccjaaaGreatDoor
