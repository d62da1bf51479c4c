import Derived.Test.YtfbojelpdccjaaaGreatDoorPkT33
open Go.Proofs.Tryz
set_option maxHeartbeats 8000000
set_option maxRecDepth 1000000
namespace Go.Proofs.YtfbojelpdccjaaaGreatDoor
open Go.RowKit Go.Deep
variable {B:Nat}{X:World}
section
open Go.RowKit Go.Deep
theorem info_nd:(prog.info? 60).map (fun i=>(i.zero,i.size,i.bytes))=some (some (.agg #[.int .i64 0,.int .i64 0,.string ⟨#[]⟩,.string ⟨#[]⟩,.string ⟨#[]⟩,.int .i64 0]),6,72):=yb
theorem bare_is {n:Nd}(h:BareN n):plainZ n= { n with kids:=0 }:= by
 obtain⟨kd,num,a,b,c,kids⟩:=n;obtain⟨h1,h2,h3,h4⟩:=h;dsimp only at h1 h2 h3 h4;unfold plainZ;dsimp only;congr 1
 .split
  .rfl
  .rcases h1 with h|h|h
   .exact absurd (Or.inl h) zo
   .exact absurd (Or.inr h) zo
   .exact h.symm
 .rcases h2 with h|h
  .rw[if_pos h]
  .rw[h];split<;>rfl
 .rcases h3 with h|h
  .rw[if_pos h]
  .rw[h];split<;>rfl
 .rcases h4 with h|h
  .rw[if_pos h]
  .rw[h];split<;>rfl
theorem box6_all {w:World}{b:Nat}{t:TypeId}{x0 x1 x2 x3 x4 x5:Value}(h:w.heap[b]?=some (.cells #[x0,x1,x2,x3,x4,x5] t)) (v0 v1 v2 v3 v4 v5:Value) :
 ((((((w.setCell ⟨b,0,none⟩ v0).setCell ⟨b,1,none⟩ v1).setCell ⟨b,2,none⟩ v2).setCell ⟨b,3,none⟩ v3).setCell ⟨b,4,none⟩ v4).setCell ⟨b,5,none⟩ v5).heap[b]?=some (.cells #[v0,v1,v2,v3,v4,v5] t):=by
 simp[World.setCell,Array.getElem?_modify,h]
theorem nodeOf_result {tmps:Array Value}{g:Nat}{v0 v1 v2 v3 v4 v5:Value}(hg:tmps.getD 2 undef=.pointer (some ⟨g,0,none⟩)) (h:X.heap[g]?=some (.cells #[v0,v1,v2,v3,v4,v5] 60)):(results Tryz.f59 tmps).run prog X=.ok (.agg #[v0,v1,v2,v3,v4,v5]) X:=by
 rw[Array.getD_eq_getD_getElem?]at hg;obtain⟨c0,c1,c2,c3,c4,c5⟩:=fcl6 h;simp[results,results59,go_sem,hg,c0,c1,c2,c3,c4,c5]
theorem sliceOf_len {w:World}{sv:Value}{us:List Value}(h:SliceOf B w sv us):∃ad c,sv=.slice ad us.length c:=by
 rcases h with ⟨rfl,a,c,rfl⟩|⟨g,o,cap,rfl,-⟩
 .exact⟨a,c,rfl⟩
 .exact⟨_,_,rfl⟩
theorem nodeOfF_calls {n:Nd}{us:List Value}{v:Value}(w:World) (hS:Shape B w n us v) (hi:∀u∈us,∃T p,u=.iface T p) (hw:plainZ n= { n with kids:=0 }) (hk:n.kids=us.length) :
 Calls prog 59 #[v] w fun e w'=> e=.returned (ndV n)/\Below w.heap.size w w':= by
 have hA:=(Ld w (.cells #[.int .i64 0,.int .i64 0,.string ⟨#[]⟩,.string ⟨#[]⟩,.string ⟨#[]⟩,.int .i64 0] 60)).1;have hbA:=(Below.refl w.heap.size w).alloc La (.cells #[.int .i64 0,.int .i64 0,.string ⟨#[]⟩,.string ⟨#[]⟩,.string ⟨#[]⟩,.int .i64 0] 60);have hNo:=nodeOf (hS.below hbA) hi;rw[hw]at hNo;obtain⟨kd,num,a,b,c,kids⟩:=n;dsimp only at hNo hk;obtain⟨T,pv,g,rv,e0,hmth,hcf,hNd⟩:=hNo;subst e0;have HS:=J (hS.below hbA);have HI:=J hi;have HBA:=J hbA;have HA:=J hA;have HN:=J hNd;subst hk;unfold ndV;dsimp only;clear hS hi hw hNd hbA hA;go_enter func59,ntmps59
 go_wp2_with fail
 refine HN.o.mono ?_;rintro e w2 ⟨rfl,hb2⟩;unfold ndV;dsimp only;generalize w.alloc (.cells #[.int .i64 0,.int .i64 0,.string ⟨#[]⟩,.string ⟨#[]⟩,.string ⟨#[]⟩,.int .i64 0] 60)=wA at*;have hB3:=(Ld w2 (.cells #[.int .i64 kd,.int .i64 num,.string a,.string b,.string c,.int .i64 0] 60)).1;have hb3:=(Below.refl w2.heap.size w2).alloc La (.cells #[.int .i64 kd,.int .i64 num,.string a,.string b,.string c,.int .i64 0] 60);have hA3:=(hb3.block _ (z12 ((hb2.block _ (z12 HA.o)).trans HA.o))).trans ((hb2.block _ (z12 HA.o)).trans HA.o);have hbA3:=hb2.trans (hb3.mono hb2.size)
 have hK:=kidsOf (HS.o.below hbA3) HI.o;obtain⟨T',pv',g',rv',e1,hmth',hcf',hKd⟩:=hK
 cases e1;have HK:=J hKd;have HBw3:=J (HBA.o.trans (hbA3.mono HBA.o.size));have hwlt:w.heap.size<w2.heap.size:=by have:=z12 HA.o;have:=hb2.size;omega
 clear hKd HN hmth hcf hb2 hbA3 HS HA;go_upto_region 2 with fail
 generalize w2.alloc (.cells #[.int .i64 kd,.int .i64 num,.string a,.string b,.string c,.int .i64 0] 60)=w3 at*;generalize hB3g:w2.heap.size=b3 at*;clear hB3g hb3;go_wp2_with fail
 refine HK.o.mono ?_;rintro e w4 ⟨sv,rfl,hsl,hb4⟩;obtain⟨ad,cc,rfl⟩:=sliceOf_len hsl;have hA4:=(hb4.block _ (z12 hA3)).trans hA3;have hB4:=(hb4.block _ (z12 hB3)).trans hB3;have HBw4:=J (HBw3.o.trans (hb4.mono HBw3.o.size));have c0:=z8 hB4 0;have c1:=z8 hB4 1;have c2:=z8 hB4 2;have c3:=z8 hB4 3;have c4:=z8 hB4 4;have c5:=z8 hB4 5;have z5:=z11 hB4 5;have e0:=z8 hA4 0;have e1:=z8 hA4 1;have e2:=z8 hA4 2;have e3:=z8 hA4 3;have e4:=z8 hA4 4;have e5:=z8 hA4 5;obtain⟨y0,y1,y2,y3,y4,y5⟩:=ffz6 hA4;simp at c0 c1 c2 c3 c4 c5 e0 e1 e2 e3 e4 e5;have HA4:=J hA4;have HB4:=J hB4;have hne:w.heap.size≠b3:=yf
 clear HK hmth' hcf' hsl hb4 hA3 hB3 hA4 hB4 HBw3;go_wp2_with fail
 refine bodyPost_ret (nodeOf_result (tmps:=_) rfl (box6_all ((Lg w4 ⟨b3,5,none⟩ _ _ hne).trans HA4.o) _ _ _ _ _ _)) rfl ?_;exact⟨rfl,(((((((HBw4.o.setCell (p:=⟨b3,5,none⟩) zb _).setCell (p:=⟨w.heap.size,0,none⟩) La _).setCell (p:=⟨w.heap.size,1,none⟩) La _).setCell (p:=⟨w.heap.size,2,none⟩) La _).setCell (p:=⟨w.heap.size,3,none⟩) La _).setCell (p:=⟨w.heap.size,4,none⟩) La _).setCell (p:=⟨w.heap.size,5,none⟩) La _)⟩
theorem node_append {cv:Value}{n:Nat}{xs:List Value}(h:X.ownsRow B 60 6 cv n xs) (kd num kids:Int) (a b c:ByteArray) (hB:B<=X.heap.size) (hn:n<=200000) :
 ∃cv' Z,(Builtin.append_ #[24,24] 24 #[cv,.slice (some ⟨X.heap.size,0,none⟩) 1 1]).run prog (X.alloc (.cells #[.int .i64 kd,.int .i64 num,.string a,.string b,.string c,.int .i64 kids] 60))=.ok cv' Z/\Z.ownsRow B 60 6 cv' (n+1) (xs++ [.int .i64 kd,.int .i64 num,.string a,.string b,.string c,.int .i64 kids])/\(X.alloc (.cells #[.int .i64 kd,.int .i64 num,.string a,.string b,.string c,.int .i64 kids] 60)).grownBy Z cv.ownBlock/\(cv'.ownBlock=cv.ownBlock\/cv'.ownBlock=some (X.alloc (.cells #[.int .i64 kd,.int .i64 num,.string a,.string b,.string c,.int .i64 kids] 60)).heap.size):=by
 obtain⟨i0,h1,h2,h3,h4⟩:=info_parts info_nd;have hbl:Below X.heap.size X (X.alloc (.cells #[.int .i64 kd,.int .i64 num,.string a,.string b,.string c,.int .i64 kids] 60)):=Lb.alloc La _;have ho:=z33 h hbl;have hc:=(Ld X (.cells #[.int .i64 kd,.int .i64 num,.string a,.string b,.string c,.int .i64 kids] 60)).1;obtain⟨v',w',hr,g2,g3,-,g5⟩:=run_append_own_at (P:=prog) _ B 24 24 60 i0 _ 6 72 underlying24 h1 h2 h3 h4 rfl yh cv n xs ho ⟨X.heap.size,0,none⟩ 1 1 [.int .i64 kd,.int .i64 num,.string a,.string b,.string c,.int .i64 kids] rfl (fun j u hj=>by
  rw[WideShapes.add_plain,Nat.zero_add,z8 hc j];simpa using hj) (fun u hu=>by simp at hu;rcases hu with rfl|rfl|rfl|rfl|rfl|rfl<;>rfl) zp yf (by have:=hbl.size;omega)
 exact⟨v',w',hr,g2,g3,g5⟩
theorem rowZ_last (l:List Nd) (kd num kids:Int) (a b c:ByteArray):rowZ Nd.cell 6 l++ [.int .i64 kd,.int .i64 num,.string a,.string b,.string c,.int .i64 kids]=rowZ Nd.cell 6 (l++ [⟨kd,num,a,b,c,kids⟩]):=by
 unfold rowZ;rw[List.flatMap_append];rfl
theorem grown_trans {Y Z:World}{r r':Option Nat}(h:X.grownBy Y r) (h':Y.grownBy Z r') (hr:r'= r\/ ∃g,r'= some g/\X.heap.size<=g):X.grownBy Z r:=
 ⟨h'.os.trans h.os,h'.tape.trans h.tape,h'.output.trans h.output,Lf h.size h'.size,fun k hk hne=>(h'.block k (Le hk h.size) (fun e=>by
  rcases hr with hr|⟨g,hr,hg⟩
  .exact hne (e.trans hr)
  .rw[hr]at e
   cases e;omega)).trans (h.block k hk hne)⟩
def AddP (W0 W:World) (lv:Value) (l:List Nd) (e:Ending) (W':World):Prop:=
 ∃v',e=.returned v'/\W'.ownsRow W0.heap.size 60 6 v' l.length (rowZ Nd.cell 6 l)/\W.grownBy W' lv.ownBlock/\(v'.ownBlock=lv.ownBlock\/ ∃g,v'.ownBlock=some g/\W.heap.size<=g)
def LoopN (B:Nat) (W0 W:World) (lv:Value) (us:List Value) (g0 o:Nat) (all:List Nd) (N L:Nat) (v:Value) (i:Nat) (wr:World):Prop:=
 ∃(r:Fo) (l:List Nd),Forms B W0 r (us.drop i)/\i+r.count=L/\wr.ownsRow W0.heap.size 60 6 v l.length (rowZ Nd.cell 6 l)/\l++r.flat=all/\r.wf/\bareF r/\r.flat.length<N+1/\W.grownBy wr lv.ownBlock/\(v.ownBlock=lv.ownBlock\/ ∃g,v.ownBlock=some g/\W.heap.size<=g)/\(∀g,v.ownBlock=some g->g≠g0)/\g0<wr.heap.size/\ ∀j,j<us.length->wr.cell? ⟨g0,o+j,none⟩=us[j]?
theorem add_calls (W0:World):∀(N B:Nat) (n:Nd) (k:Fo) (us:List Value) (v lv:Value) (l:List Nd) (W:World),Forms B W0 k us->Shape B W0 n us v->n.kids=k.count->k.wf->BareN n->bareF k->Below W0.heap.size W0 W->W.ownsRow W0.heap.size 60 6 lv l.length (rowZ Nd.cell 6 l)->l.length+1+k.flat.length<=100000->k.flat.length<N->
 Calls prog 28 #[lv,v] W (AddP W0 W lv (l++n::k.flat)):=by
 intro N;induction N with
 |zero=>intro B n k us v lv l W _ _ _ _ _ _ _ _ _ h;omega
 | succ N ih=>
   intro B n k us v lv l W hF hS hk hwf hb hbf hbl hown hm hN;obtain⟨all,hall⟩:∃a,l++n::k.flat=a:=⟨_,rfl⟩
   rw[hall];have hlen:=hF.length;have hFi:=hF.ifaces;have hSW:=hS.below hbl;have hNd:=nodeOfF_calls W hSW hFi (bare_is hb) (by rw[hk,hlen]);obtain⟨T,pv,hv⟩:=hS.iface;subst hv;obtain⟨adl,cpl,hlv⟩:=y_is hown;subst hlv;have HI:=J ih;have HNd:=J hNd;have HF:=J (Lc hF (Lc hS (Lc hlen hFi)));have HK:=J (Lc hk (Lc hwf (Lc hbf (Lc hm hN))));have HB:=J hbl;have HO:=J hown;have HA:=J hall;clear ih hF hS hk hwf hb hbf hbl hown hm hN hall hlen hFi hSW hNd;go_enter func28,ntmps28
   go_wp2_with fail
   refine HNd.o.mono ?_;rintro e X1 ⟨rfl,hb1⟩;obtain⟨kd,num,a,b,c,kids⟩:=n;unfold ndV;dsimp only;have HO1:=J (z33 HO.o hb1);have HB1:=J (HB.o.trans (hb1.mono HB.o.size));have HG1:=J (kept_of_below hb1 (Value.slice adl l.length cpl).ownBlock);clear hb1 HNd;obtain⟨i0,hinf,hz0,hz1,hz2⟩:=info_parts info_nd;have hbA:Below X1.heap.size X1 (X1.alloc (.cells #[.int .i64 kd,.int .i64 num,.string a,.string b,.string c,.int .i64 kids] 60)):=Lb.alloc La _;obtain⟨cv,Z,hrun,hown,hgw,hblk⟩:=node_append HO1.o kd num kids a b c HB1.o.size (by have:=HK.o.2.2.2.1;omega)
   obtain⟨av,cpv,nv,hcv⟩:∃av cpv nv,cv=.slice av nv cpv:=by
    obtain⟨x,y,z⟩:=y_is hown;exact⟨x,y,_,z⟩
   subst hcv;rw[rowZ_last]at hown;have hgZ:W.grownBy Z (Value.slice adl l.length cpl).ownBlock:=grown_trans (grown_trans HG1.o (kept_of_below hbA (Value.slice adl l.length cpl).ownBlock) (Or.inl rfl)) hgw (Or.inl rfl);have hZ0:Below W0.heap.size W0 Z:=⟨hgZ.os.trans HB.o.os,hgZ.tape.trans HB.o.tape,hgZ.output.trans HB.o.output,Lf HB.o.size hgZ.size,fun q hq=>(hgZ.block q (Le hq HB.o.size) (fun e=>ybh)).trans (HB.o.block q hq)⟩
   have hon:(Value.slice av nv cpv).ownBlock=(Value.slice adl l.length cpl).ownBlock\/ ∃g,(Value.slice av nv cpv).ownBlock=some g/\W.heap.size<=g:=by
    rcases hblk with h|h
    .exact Or.inl h
    .exact Or.inr ⟨_,h,by have h1:=HG1.o.size;have h2:=hbA.size;omega⟩
   have HRun:=J hrun;have HOZ:=J hown;have HGZ:=J hgZ;have HZ0:=J hZ0;have HOn:=J hon;have hK:=kidsOf (HF.o.2.1.below hZ0) HF.o.2.2.2;obtain⟨T',pv',g',rv',e1,hmth',hcf',hKd⟩:=hK
   cases e1;have HKd:=J hKd;clear hrun hown hgw hblk hgZ hZ0 hon hbA hinf hz0 hz1 hz2 hKd;go_wp2_with (at_builtin;refine wpList_append_run rfl _ _ 24 rfl _ _ rfl rfl HRun.o ?_)
   refine HKd.o.mono ?_;rintro e X2 ⟨sv,rfl,hsl,hb2⟩;have HOl:=J (fun g hg'=> (HOZ.o.lt g hg').2);have HOZ:=J (z33 HOZ.o hb2);have HGZ2:=J (grown_trans HGZ.o (kept_of_below hb2 (Value.slice adl l.length cpl).ownBlock) (Or.inl rfl));have HZ2:=J (HZ0.o.trans (hb2.mono HZ0.o.size));clear HKd hmth' hcf' HRun hb2;rcases hsl with ⟨h0,ad,c',rfl⟩|⟨g0,o,cap,rfl,hg,hg0,hc0⟩
   ·have hk0:k=.none:=by
     have h1:=HF.o.2.2.1;rw[h0]at h1
     cases k with
     |none=>rfl
     |tree=>simp[Fo.count]at h1
    have hall:l++ [⟨kd,num,a,b,c,kids⟩]=all:=by
     have h1:=HA.o;rw[hk0]at h1;exact h1
    have HAl:=J hall;clear hk0 hall h0;go_wp2_with fail
    refine wp_loop_rounds 1 ?_;rw[rounds_succ];go_wp2_with fail
    go_ret;refine⟨_,rfl,?_,HGZ2.o,HOn.o⟩;rw[<-HAl.o,List.length_append];exact HOZ.o
   .obtain⟨L,hL⟩:∃L,us.length=L:=⟨_,rfl⟩
    have HL:=J hL;have HC:=J hc0;have HGl:=J (Lc hg hg0);have hLo:LoopN B W0 W (.slice adl l.length cpl) us g0 o all N L (.slice av nv cpv) 0 X2:=by
     refine⟨k,l++ [⟨kd,num,a,b,c,kids⟩],HF.o.1,by rw[<-hL,HF.o.2.2.1];omega,?_,by rw[List.append_assoc];exact HA.o,HK.o.2.1,HK.o.2.2.1,HK.o.2.2.2.2,HGZ2.o,HOn.o,fun g hg'=> ?_,hg0,hc0⟩
     .rw[List.length_append];exact HOZ.o
     .have h1:=HOl.o g hg';omega
    have HLo:=J hLo;rw[hL];clear hL hc0 hg hg0 hLo;go_wp2_with fail
    go_loopw [0,15] (fun v i wr=> ∃(av:Option Addr) (nv cpv:Nat) (i':Nat),v=.slice av nv cpv/\i=.int .i64 i'/\I (LoopN B W0 W (.slice adl l.length cpl) us g0 o all N L v i' wr)) (fun _ i _=>L-(intOf i).toNat)
    case atStart=>exact⟨av,nv,cpv,0,rfl,rfl,HLo.o⟩
    case round=>
     obtain⟨av,nv,cpv,i',rfl,rfl,hr⟩:=hrel;obtain⟨r,l1,f1,f2,f3,f4,f5,f6,f7,f8,f9,f10,f11,f12⟩:=hr.o;clear hr;have hBr:Below W0.heap.size W0 wr:=⟨f8.os.trans HB.o.os,f8.tape.trans HB.o.tape,f8.output.trans HB.o.output,Lf HB.o.size f8.size,fun q hq=>(f8.block q (Le hq HB.o.size) (fun e=>ybh)).trans (HB.o.block q hq)⟩
     cases r with
     | none=>
       simp only[Fo.count,Nat.add_zero]at f2;subst f2;have HE:=J (Lc f3 (Lc f4 (Lc f8 f9)));clear f1 f3 f4 f5 f6 f7 f8 f9 f10 f11 f12 hBr;go_wp2_with fail
       go_ret;obtain⟨e3,e4,e8,e9⟩:=HE.o;refine⟨_,rfl,?_,e8,e9⟩;rw[<-e4];simp only[Fo.flat,List.append_nil];exact e3
     | tree n' k' r'=>
       obtain⟨v',us',rest',e1,hF1,hS1,hF2⟩:=f1;simp only[Fo.count]at f2;have hi:(i':Int)<(L:Int):=yf;have hil:i'<us.length:=by rw[HL.o];omega
       have hcell:wr.cell? ⟨g0,o+i',none⟩=some v':= by
        rw[f12 i' hil];rw[List.drop_eq_getElem_cons hil]at e1;rw[List.getElem?_eq_getElem hil,(List.cons.inj e1).1]
       have hdrop:us.drop (i'+ 1)=rest':= by
        rw[List.drop_eq_getElem_cons hil]at e1;exact(List.cons.inj e1).2
       obtain⟨T',p',rfl⟩:=hS1.iface;have f4':(l1++n':: k'.flat)++r'.flat=all:=by
        rw[<-f4];simp[Fo.flat]
       have hal:all.length<=100000:=by
        have h1:=congrArg List.length HA.o;have h2:=HK.o.2.2.2.1;simp at h1;omega
       have hll:l1.length+1+k'.flat.length+r'.flat.length<=100000:=by
        have h1:=congrArg List.length f4';simp at h1;omega
       simp only[Fo.flat,List.length_cons,List.length_append]at f7;have hIH:=HI.o B n' k' us' _ _ l1 wr hF1 hS1 f5.1 f5.2.1 f6.1 f6.2.1 hBr f3 yf yf;have HC:=J hIH;have HX:=J (Lc hF2 (Lc hdrop (Lc f5.2.2 (Lc f6.2.2 f4'))));have HY:=J (Lc f8 (Lc f9 (Lc f10 (Lc f11 f12))));have HO3:=J f3;have HN2:=J (show r'.flat.length<N+1 by omega);have HL2:=J (show i'+ 1+r'.count=L by omega);clear f2 f3 f4 f4' f5 f6 f7 f8 f9 f10 f11 f12 hF1 hS1 hF2 hdrop hIH hil hal hll hBr e1;go_wp2_with fail
       refine HC.o.mono ?_;rintro e X3 ⟨v3,rfl,hO3,hG3,hon3⟩;obtain⟨a3,c3,n3,hv3⟩:∃a c n,v3=.slice a n c:=by
        obtain⟨x,y,z⟩:=y_is hO3;exact⟨x,y,_,z⟩
       subst hv3;have hsz:=(HGl.o.2)
       obtain⟨y8,y9,y10,y11,y12⟩:=HY.o;have hg3:W.grownBy X3 (Value.slice adl l.length cpl).ownBlock:=by
        refine grown_trans y8 hG3 ?_;rcases y9 with h|⟨g,h,h2⟩
        .exact Or.inl h
        .exact Or.inr ⟨g,h,h2⟩
       have hn3:(Value.slice a3 n3 c3).ownBlock=(Value.slice adl l.length cpl).ownBlock\/ ∃g,(Value.slice a3 n3 c3).ownBlock=some g/\W.heap.size<=g:=by
        rcases hon3 with h|⟨g,h,h2⟩
        .rw[h];exact y9
        .exact Or.inr ⟨g,h,by have:=y8.size;omega⟩
       have hk3:X3.heap[g0]?=wr.heap[g0]? :=hG3.block g0 y11 (fun e=>y10 g0 e.symm rfl);have hne3:∀g,(Value.slice a3 n3 c3).ownBlock=some g->g≠g0:=fun g hg'=> by
        rcases hon3 with h|⟨g',h,h2⟩
        .exact y10 g (h.symm.trans hg')
        .rw[h]at hg'
         cases hg';omega
       have HR:=J (show LoopN B W0 W (.slice adl l.length cpl) us g0 o all N L (.slice a3 n3 c3) (i'+ 1) X3 from⟨r',l1++n':: k'.flat,by rw[HX.o.2.1];exact HX.o.1,HL2.o,hO3,HX.o.2.2.2.2,HX.o.2.2.1,HX.o.2.2.2.1,HN2.o,hg3,hn3,hne3,Le y11 hG3.size,fun j hj=>(Lj (a:=⟨g0,o+j,none⟩) hk3).trans (y12 j hj)⟩);have HI9:=J (show i'<=1048576 by have h1:=HK.o.2.2.2.1;have h2:=HF.o.2.2.1;have h3:=Fo.count_le k;have h4:=HL.o;omega);clear hO3 hG3 hon3 hsz y8 y9 y10 y11 y12 hg3 hn3 hk3 hne3 HC HX HY HO3;go_wp2_with fail
       rw[z18 HI9.o];exact⟨⟨a3,n3,c3,i'+ 1,rfl,rfl,HR⟩,z47 hi⟩
end
section
open Go.RowKit
theorem okb_false (x:Int):okb false x=digitZ x:=by simp[okb]
theorem digit_runL (x:Int) (w:World):Calls prog 76 #[.int .i32 x] w fun e w'=> e=.returned (.bool (okb false x))/\w=w':= by
 rw[okb_false];exact digit20 x w
theorem part_run (x:Int) (w:World):Calls prog 119 #[.int .i32 x] w fun e w'=> e=.returned (.bool (okb true x))/\w=w':= by
 have e:okb true x=(letterZ x || digitZ x):=by simp[okb,Bool.or_comm]
 rw[e]
 cases hL:letterZ x with
 | true=>
   go_enter func119,ntmps119
   go_wp2_with (first|(go_at_call 75;refine(letter19 _ _).mono ?_;rintro e w2 ⟨rfl,rfl⟩)|(go_at_call 76;refine(digit20 _ _).mono ?_;rintro e w2 ⟨rfl,rfl⟩))
   go_ret;exact⟨rfl,rfl⟩
 | false=>
   go_enter func119,ntmps119
   go_wp2_with (first|(go_at_call 75;refine(letter19 _ _).mono ?_;rintro e w2 ⟨rfl,rfl⟩)|(go_at_call 76;refine(digit20 _ _).mono ?_;rintro e w2 ⟨rfl,rfl⟩))
   go_ret;exact⟨rfl,rfl⟩
theorem runDigits_calls (t:ByteArray) (hs:t.size<=1500) (w:World) :
 Calls prog 118 #[.string t,.func (.func 76) #[] #[]] w fun e w'=> e=.returned (.int .i64 (runTo t false 0))/\Below w.heap.size w w':= by
 obtain⟨R,hR⟩:∃R,runTo t false 0=R:=⟨_,rfl⟩
 rw[hR];have HR:I (runTo t false 0=R):=hR;clear hR;go_enter func118,ntmps118
 go_wp2_with fail
 go_loopg [] t.size (fun g wx=> ∃pos:Nat,wx.heap[w.heap.size]?=some (.stringIter t pos)/\Below w.heap.size w wx/\(∀j,j<pos->okb false (bz t j)=true)/\t.size<=pos+g/\pos<=t.size)
 case atStart=>exact⟨0,World.iter_heap w t 0,(Below.refl _ w).alloc La _,fun j hj=>yf,yf,yf⟩
 case round=>
  obtain⟨pos,hit,hbw,hall,hfu,hps⟩:=hrel;have fin:(pos<t.size->okb false (bz t pos)=false)->I (R=pos):=fun h=>by
   rw[<-HR.o];exact(IsRun.eq ⟨Li _,hps,fun j _ h2=>hall j h2,h⟩).symm
  have step:okb false (bz t pos)=true->I (∀j,j<pos+1->okb false (bz t j)=true):=fun h j hj=>by
   by_cases e:j=pos
   .rw[e];exact h
   .exact hall j yf
  clear hall HR;by_cases hp:pos<t.size
  .obtain⟨g,rfl⟩:∃g,gk=g+1:=⟨gk-1,yf⟩
   by_cases ha:(t[pos]'hp).toNat<128
   .have hnx:∀ty,(Instr.next (.pointer (some ⟨w.heap.size,0,none⟩)) true ty).run prog wr=_:=fun ty=>Lib.run_next_ascii_at wr w.heap.size t pos ty hit hp ha
    refine zb77 ?_;intro hit2 hbw2 W hWd;rw[hWd]at hnx hit2 hbw2;have hit3:I (W.heap[w.heap.size]?=some (.stringIter t (pos+1))):=hit2;clear hWd hit hbw hit2;rw[bz_at t hp]at fin step;generalize ((t[pos]'hp).toNat:Int)=x at*
    cases hk:okb false x with
    | true=>
      have HS:=step hk;clear fin step;go_wp2_with (first|(go_at_call 76;refine(digit_runL _ _).mono ?_;rintro e w2 ⟨rfl,rfl⟩))
      go_roundg g
      case measure=>omega
      case rel=>exact⟨pos+1,hit3.o,hbw2,HS.o,yf,yf⟩
    | false=>
      have HF:=fin (fun _=>hk);clear fin step;go_wp2_with (first|(go_at_call 76;refine(digit_runL _ _).mono ?_;rintro e w2 ⟨rfl,rfl⟩))
      go_ret;exact⟨jf,hbw2⟩
   .have hnx:∀ty,(Instr.next (.pointer (some ⟨w.heap.size,0,none⟩)) true ty).run prog wr=_:=fun ty=>Lib.run_next_any_at wr w.heap.size t pos ty hit hp
    have hhi:=(decode_high t pos hp yf).1;have hbw2:=Lib.below_iterAt hbw (k:=w.heap.size) La t (pos+(Utf8.decode t pos).2);obtain⟨X,hX⟩:∃X,(Utf8.decode t pos).1=X:=⟨_,rfl⟩
    rw[hX]at hnx hhi;obtain⟨W,hWd⟩:∃W,wr.iterAt w.heap.size t (pos+(Utf8.decode t pos).2)=W:=⟨_,rfl⟩
    rw[hWd]at hnx hbw2;clear hWd hit hbw hX;have hk:okb false (X:Int)=false:=by
     have h1:letterZ (X:Int)=false:=zu;have h2:digitZ (X:Int)=false:=zv;simp[okb,h1,h2]
    have HF:=fin (fun _=>by
     rw[bz_at t hp];have h1:letterZ ((t[pos]'hp).toNat:Int)=false:=zu;have h2:digitZ ((t[pos]'hp).toNat:Int)=false:=zv;simp[okb,h1,h2])
    clear ha hhi fin step;go_wp2_with (first|(go_at_call 76;refine(digit_runL _ _).mono ?_;rintro e w2 ⟨rfl,rfl⟩))
    go_ret;exact⟨jf,hbw2⟩
  .have hnx:∀ty,(Instr.next (.pointer (some ⟨w.heap.size,0,none⟩)) true ty).run prog wr=_:=fun ty=>Lib.run_next_end_at wr w.heap.size t pos ty hit hp
   have HF:=fin (fun h=>absurd h hp);have hpe:pos=t.size:=yf;have HP:I (pos=t.size):=hpe;clear fin step hpe;go_wp2_with fail
   go_ret;exact⟨by rw[HF.o,HP.o];rfl,hbw⟩
theorem runParts_calls (t:ByteArray) (hs:t.size<=1500) (w:World) :
 Calls prog 118 #[.string t,.func (.func 119) #[] #[]] w fun e w'=> e=.returned (.int .i64 (runTo t true 0))/\Below w.heap.size w w':= by
 obtain⟨R,hR⟩:∃R,runTo t true 0=R:=⟨_,rfl⟩
 rw[hR];have HR:I (runTo t true 0=R):=hR;clear hR;go_enter func118,ntmps118
 go_wp2_with fail
 go_loopg [] t.size (fun g wx=> ∃pos:Nat,wx.heap[w.heap.size]?=some (.stringIter t pos)/\Below w.heap.size w wx/\(∀j,j<pos->okb true (bz t j)=true)/\t.size<=pos+g/\pos<=t.size)
 case atStart=>exact⟨0,World.iter_heap w t 0,(Below.refl _ w).alloc La _,fun j hj=>yf,yf,yf⟩
 case round=>
  obtain⟨pos,hit,hbw,hall,hfu,hps⟩:=hrel;have fin:(pos<t.size->okb true (bz t pos)=false)->I (R=pos):=fun h=>by
   rw[<-HR.o];exact(IsRun.eq ⟨Li _,hps,fun j _ h2=>hall j h2,h⟩).symm
  have step:okb true (bz t pos)=true->I (∀j,j<pos+1->okb true (bz t j)=true):=fun h j hj=>by
   by_cases e:j=pos
   .rw[e];exact h
   .exact hall j yf
  clear hall HR;by_cases hp:pos<t.size
  .obtain⟨g,rfl⟩:∃g,gk=g+1:=⟨gk-1,yf⟩
   by_cases ha:(t[pos]'hp).toNat<128
   .have hnx:∀ty,(Instr.next (.pointer (some ⟨w.heap.size,0,none⟩)) true ty).run prog wr=_:=fun ty=>Lib.run_next_ascii_at wr w.heap.size t pos ty hit hp ha
    refine zb77 ?_;intro hit2 hbw2 W hWd;rw[hWd]at hnx hit2 hbw2;have hit3:I (W.heap[w.heap.size]?=some (.stringIter t (pos+1))):=hit2;clear hWd hit hbw hit2;rw[bz_at t hp]at fin step;generalize ((t[pos]'hp).toNat:Int)=x at*
    cases hk:okb true x with
    | true=>
      have HS:=step hk;clear fin step;go_wp2_with (first|(go_at_call 119;refine(part_run _ _).mono ?_;rintro e w2 ⟨rfl,rfl⟩))
      go_roundg g
      case measure=>omega
      case rel=>exact⟨pos+1,hit3.o,hbw2,HS.o,yf,yf⟩
    | false=>
      have HF:=fin (fun _=>hk);clear fin step;go_wp2_with (first|(go_at_call 119;refine(part_run _ _).mono ?_;rintro e w2 ⟨rfl,rfl⟩))
      go_ret;exact⟨jf,hbw2⟩
   .have hnx:∀ty,(Instr.next (.pointer (some ⟨w.heap.size,0,none⟩)) true ty).run prog wr=_:=fun ty=>Lib.run_next_any_at wr w.heap.size t pos ty hit hp
    have hhi:=(decode_high t pos hp yf).1;have hbw2:=Lib.below_iterAt hbw (k:=w.heap.size) La t (pos+(Utf8.decode t pos).2);obtain⟨X,hX⟩:∃X,(Utf8.decode t pos).1=X:=⟨_,rfl⟩
    rw[hX]at hnx hhi;obtain⟨W,hWd⟩:∃W,wr.iterAt w.heap.size t (pos+(Utf8.decode t pos).2)=W:=⟨_,rfl⟩
    rw[hWd]at hnx hbw2;clear hWd hit hbw hX;have hk:okb true (X:Int)=false:=by
     have h1:letterZ (X:Int)=false:=zu;have h2:digitZ (X:Int)=false:=zv;simp[okb,h1,h2]
    have HF:=fin (fun _=>by
     rw[bz_at t hp];have h1:letterZ ((t[pos]'hp).toNat:Int)=false:=zu;have h2:digitZ ((t[pos]'hp).toNat:Int)=false:=zv;simp[okb,h1,h2])
    clear ha hhi fin step;go_wp2_with (first|(go_at_call 119;refine(part_run _ _).mono ?_;rintro e w2 ⟨rfl,rfl⟩))
    go_ret;exact⟨jf,hbw2⟩
  .have hnx:∀ty,(Instr.next (.pointer (some ⟨w.heap.size,0,none⟩)) true ty).run prog wr=_:=fun ty=>Lib.run_next_end_at wr w.heap.size t pos ty hit hp
   have HF:=fin (fun h=>absurd h hp);have hpe:pos=t.size:=yf;have HP:I (pos=t.size):=hpe;clear fin step hpe;go_wp2_with fail
   go_ret;exact⟨by rw[HF.o,HP.o];rfl,hbw⟩
theorem clone_calls (t:ByteArray) (hs:t.size<=1500) (w:World) :
 Calls prog 122 #[.string t] w fun e w'=> e=.returned (.string t)/\Below w.heap.size w w':= by
 go_enter func122,ntmps122
 go_wp2_with fail
 refine(Tryz.stringslite_Clone t _ yf).mono ?_;rintro e w2 ⟨rfl,hb⟩;go_wp2_with fail
 go_ret;exact⟨rfl,hb⟩
theorem wordOf_calls (k:Int) (t:ByteArray) (n:Nat) (hn:n<=t.size) (hs:t.size<=1500) (w:World) :
 Calls prog 93 #[.int .i64 k,.string t,.int .i64 n] w fun e w'=> e=.returned (.agg #[.int .i64 k,.string (t.extract 0 n),.int .i64 0])/\Below w.heap.size w w':= by
 go_enter func93,ntmps93
 go_wp2_with fail
 refine(clone_calls _ (by simp[ByteArray.size_extract];omega) _).mono ?_;rintro e w2 ⟨rfl,hb⟩;have e1:(w.alloc (.cells #[.int .i64 0,.string ⟨#[]⟩,.int .i64 0] 76)).heap[w.heap.size]?=some (.cells #[.int .i64 0,.string ⟨#[]⟩,.int .i64 0] 76):=(Ld w _).1;have eA:=(hb.block w.heap.size yn).trans e1;have hbw:Below w.heap.size w w2:=(Lb.alloc La _).trans (hb.mono yn);have a0:=z8 eA 0;have a1:=z8 eA 1;have a2:=z8 eA 2;have z0:=z11 eA 0;have z1:=z11 eA 1;have z2:=z11 eA 2;simp at a0 a1 a2;clear e1 eA hb;go_wp2_with fail
 refine bodyPost_ret (v:=.agg #[.int .i64 k,.string (t.extract 0 n),.int .i64 0]) (by simp[results,results93,go_sem,a0,a1,a2]) rfl ⟨rfl,?_⟩;repeat(first|exact hbw|refine Below.setCell ?_ yn _)
theorem prefix_calls (t g:ByteArray) (w:World) :
 Calls prog 120 #[.string t,.string g] w fun e w'=> e=.returned (.bool (signHit t g))/\w=w':= by
 by_cases hge:g.size<=t.size
 .have e:signHit t g=((t.extract 0 g.size).toList==g.toList):=by simp[signHit,hge]
  rw[e];go_enter func120,ntmps120
  go_wp2
  go_ret;exact⟨rfl,rfl⟩
 .have e:signHit t g=false:=by simp[signHit,hge]
  rw[e];go_enter func120,ntmps120
  go_wp2
  go_ret;exact⟨rfl,rfl⟩
theorem encode_high (r:Nat) (h:128<=r) :
 (∃x y:UInt8,Utf8.encode (r:Int)=⟨#[x,y]⟩/\128<=y.toNat)\/(∃x y z:UInt8,Utf8.encode (r:Int)=⟨#[x,y,z]⟩/\128<=z.toNat)\/(∃x y z u:UInt8,Utf8.encode (r:Int)=⟨#[x,y,z,u]⟩/\128<=u.toNat):=by
 have hlast:∀c:Nat,128<=(UInt8.ofNat (128+c % 64)).toNat:=fun c=>by
  simp;omega
 unfold Utf8.encode;dsimp only;have hc:¬ (if Utf8.valid (r:Int) then (r:Int).toNat else Utf8.runeError)<128:=by
  split
  .simp;omega
  .decide
 generalize (if Utf8.valid (r:Int) then (r:Int).toNat else Utf8.runeError)=c at*;rw[if_neg hc];split
 .exact Or.inl ⟨_,_,rfl,hlast c⟩
 .split
  .exact Or.inr (Or.inl ⟨_,_,_,rfl,hlast c⟩)
  .exact Or.inr (Or.inr ⟨_,_,_,_,rfl,hlast c⟩)
theorem indexByte_none (c:UInt8) (hc:128<=c.toNat):∀l:List UInt8,(∀b∈l,b.toNat<128)->Lib.indexByte l c= -1
 |[],_=>rfl
 | b::l,h=>by
   have hb:=h b yn;have hne:(b==c)=false:=by
    rw[beq_eq_false_iff_ne];intro e;rw[e]at hb;omega
   have ih:=indexByte_none c hc l (fun x hx=>h x (by simp[hx]));simp[Lib.indexByte,hne,ih]
theorem index_high (s:ByteArray) (y:UInt8) (hy:128<=y.toNat) (hs:∀b∈s.data.toList,b.toNat<128) (w:World) :
 Calls prog 138 #[.string s,.int .u8 (y.toNat:Int)] w fun e w'=> e=.returned (.int .i64 (-1))/\w'= w:=by
 refine(Tryz.strings_IndexByte s _ w).mono ?_;rintro e w' ⟨rfl,rfl⟩;rw[indexByte_none _ (by simpa using hy) _ hs];exact⟨rfl,rfl⟩
theorem high_calls (r:Nat) (h0:128<=r) (w:World) :
 Calls prog 133 #[.string ⟨#[40,41,44,43,45,42,61,60,124,58,59]⟩,.int .i32 r] w fun e w'=> e=.returned (.int .i64 (-1))/\Below w.heap.size w w':= by
 by_cases he:(r:Int)=65533
 .have he':((r:Int)==65533)=true:=by rw[he];rfl
  clear he;go_enter func133,ntmps133
  go_wp2_with fail
  obtain⟨t,ht⟩:∃t:ByteArray,t=⟨#[40,41,44,43,45,42,61,60,124,58,59]⟩:=⟨_,rfl⟩
  have hts:t.size=11:=by rw[ht];rfl
  have hta:∀j (hj:j<t.size),(t[j]'hj).toNat<128:=by
   subst ht;decide
  rw[<-ht];have Hts:I (t.size=11):=hts;have Hta:I (∀j (hj:j<t.size),(t[j]'hj).toNat<128):=hta;clear ht hts hta;go_loopg [] 12 (fun g wx=> ∃pos:Nat,wx.heap[w.heap.size]?=some (.stringIter t pos)/\Below w.heap.size w wx/\12<=pos+g)
  case atStart=>exact⟨0,World.iter_heap w t 0,(Below.refl _ w).alloc La _,yf⟩
  case round=>
   obtain⟨pos,hit,hbw,hfu⟩:=hrel;by_cases hp:pos<t.size
   .obtain⟨g,rfl⟩:∃g,gk=g+1:=⟨gk-1,by have:=Hts.o;omega⟩
    have ha:=Hta.o pos hp;have hnx:∀ty,(Instr.next (.pointer (some ⟨w.heap.size,0,none⟩)) true ty).run prog wr=_:=fun ty=>Lib.run_next_ascii_at wr w.heap.size t pos ty hit hp ha
    refine zb77 ?_;intro hit2 hbw2 W hWd;rw[hWd]at hnx hit2 hbw2;have hit3:I (W.heap[w.heap.size]?=some (.stringIter t (pos+1))):=hit2;have hne:(((t[pos]'hp).toNat:Int)==65533)=false:=jh;clear hWd hit hbw hit2 ha Hta;generalize ((t[pos]'hp).toNat:Int)=x at*;go_wp2_with fail
    go_roundg g
    case measure=>omega
    case rel=>exact⟨pos+1,hit3.o,hbw2,yf⟩
   .have hnx:∀ty,(Instr.next (.pointer (some ⟨w.heap.size,0,none⟩)) true ty).run prog wr=_:=fun ty=>Lib.run_next_end_at wr w.heap.size t pos ty hit hp
    go_wp2_with fail
    go_ret;exact⟨rfl,hbw⟩
 .have he':((r:Int)==65533)=false:=by rw[beq_eq_false_iff_ne];exact he
  clear he;have hvr:=Tryz.utf8_ValidRune (r:Int)
  cases hv:Lib.validRune (r:Int) with
  | false=>
    rw[hv]at hvr;have HV:I (∀w,_):=hvr;clear hvr hv;go_enter func133,ntmps133
    go_wp2_with fail
    refine(HV.o _).mono ?_;rintro e w2 ⟨rfl,rfl⟩;go_wp2_with fail
    go_ret;exact⟨rfl,Lb⟩
  | true=>
    rw[hv]at hvr;have HV:I (∀w,_):=hvr;have hen:=encode_high r h0;clear hvr hv;go_enter func133,ntmps133
    go_wp2_with fail
    refine(HV.o _).mono ?_;rintro e w2 ⟨rfl,rfl⟩;clear HV;rcases hen with ⟨x,y,hE,hy⟩|⟨x,y,z,hE,hy⟩|⟨x,y,z,u,hE,hy⟩
    ·have hne:((((⟨#[40,41,44,43,45,42,61,60,124,58,59]⟩:ByteArray)[1]'(yh)).toNat:Int) !=(((⟨#[x,y]⟩:ByteArray)[1]'(show 1<2 by omega)).toNat:Int))=true:=by
      show((41:Int) !=(y.toNat:Int))=true;rw[bne_iff_ne];omega
     go_wp2_with fail
     go_step3
     go_wp2_with fail
     refine wp_loop_rounds 1 ?_;rw[rounds_succ];go_wp2_with fail
     go_step3
     go_wp2_with fail
     go_quiet (fail)
     go_wp2_with fail
     have hbq:Below w2.heap.size w2 (w2.drewN nq):=z38 Lb nq;generalize w2.drewN nq=W at*;go_quiet (first|(go_at_call 138;refine Calls.quiet_of_same (index_high _ y hy yh _)))
     go_wp2_with fail
     dsimp only[Exit.noGoto,Exit.inBlock,Exit.then];go_ret;exact⟨rfl,z38 hbq _⟩
    ·have hne:((((⟨#[40,41,44,43,45,42,61,60,124,58,59]⟩:ByteArray)[2]'(yh)).toNat:Int) !=(((⟨#[x,y,z]⟩:ByteArray)[2]'(show 2<3 by omega)).toNat:Int))=true:=by
      show((44:Int) !=(z.toNat:Int))=true;rw[bne_iff_ne];omega
     go_wp2_with fail
     go_step3
     go_wp2_with fail
     refine wp_loop_rounds 1 ?_;rw[rounds_succ];go_wp2_with fail
     go_step3
     go_wp2_with fail
     go_quiet (fail)
     go_wp2_with fail
     have hbq:Below w2.heap.size w2 (w2.drewN nq):=z38 Lb nq;generalize w2.drewN nq=W at*;go_quiet (first|(go_at_call 138;refine Calls.quiet_of_same (index_high _ z hy yh _)))
     go_wp2_with fail
     dsimp only[Exit.noGoto,Exit.inBlock,Exit.then];go_ret;exact⟨rfl,z38 hbq _⟩
    ·have hne:((((⟨#[40,41,44,43,45,42,61,60,124,58,59]⟩:ByteArray)[3]'(yh)).toNat:Int) !=(((⟨#[x,y,z,u]⟩:ByteArray)[3]'(show 3<4 by omega)).toNat:Int))=true:=by
      show((43:Int) !=(u.toNat:Int))=true;rw[bne_iff_ne];omega
     go_wp2_with fail
     go_step3
     go_wp2_with fail
     refine wp_loop_rounds 1 ?_;rw[rounds_succ];go_wp2_with fail
     go_step3
     go_wp2_with fail
     go_quiet (fail)
     go_wp2_with fail
     have hbq:Below w2.heap.size w2 (w2.drewN nq):=z38 Lb nq;generalize w2.drewN nq=W at*;go_quiet (first|(go_at_call 138;refine Calls.quiet_of_same (index_high _ u hy yh _)))
     go_wp2_with fail
     dsimp only[Exit.noGoto,Exit.inBlock,Exit.then];go_ret;exact⟨rfl,z38 hbq _⟩
end
end Go.Proofs.YtfbojelpdccjaaaGreatDoor
