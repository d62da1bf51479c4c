import Derived.Test.YtbbffkiobmbkfaaGreatDoorPkV9
open Go.Proofs.Tryz
open Go.Value Go.IntKind
set_option maxHeartbeats 4000000
set_option maxRecDepth 100000
namespace Go.Proofs.YtbbffkiobmbkfaaGreatDoor
open Go.RowKit Go.Deep
variable {s:Cs}{ss:List ByteArray}{ns:List Nd}{B Mb:Nat}{t:Tp}{v ve:Value}{W W0:World}
section
open Go.RowKit Go.Deep
def AddPost (B:Nat) (W0:World) (Mb:Nat) (ve:Value) (s:Cs) (i:In) (W:World) (e:Ending) (W':World):Prop:=
 e=.returned (int i64 (s.o.length:Int))/\KmE B W0 Mb ve (s.put i) W'/\Kf W W'
theorem z41 (i:In) (h:KmE B W0 Mb ve s W) (hl:s.o.length<=960000) :
 Calls prog 19 #[.pointer (some ⟨Mb,0,none⟩),.agg #[int i64 i.op,int i64 i.a,int i64 i.b,int i64 i.c]] W (AddPost B W0 Mb ve s i W):=by
 obtain⟨ls,vo,vl,h⟩:=h;obtain⟨op,a,b,c⟩:=i;obtain⟨adp,cpp,hvp⟩:=z46 h.orow;subst hvp;refine zb2 ?_;unhygienic intros
 clear h hl;go_enter func19,ntmps19
 go_upto_region 1 with fail
 refine zb10 ?_;intro q0 p0 p1 p2 p3;clear HY d1 e0 e1 e2 e3;repeat(go_big_quiet_step (fail))
 refine wpQuiet_nil ?_;rintro w7 ⟨x1,rfl⟩;have hL1:=x1.h;clear q0 p0 p1 p2 p3;generalize x1.w=X1 at*;refine zb80 ?_;intro hE hKx;generalize X1.alloc (.cells #[int i64 op,int i64 a,int i64 b,int i64 c] 53)=X2 at*;have St2:=U (St0.o.below hKx);obtain⟨i0,hi,hz0,hz1,hz2⟩:=info_parts info_insC;obtain⟨vp2,X3,hrun,hown,hgrow,-,hat⟩:=run_append_own_at (P:=prog) X2 W0.heap.size 28 28 53 i0 _ 4 32 underlying28 hi hz0 hz1 hz2 rfl yk (.slice adp s.o.length cpp) s.o.length (rowZ In.cell 4 s.o) St2.o.orow ⟨X1.heap.size,0,none⟩ 1 1 [int i64 op,int i64 a,int i64 b,int i64 c] rfl (fun j u hu=>by
  rw[Addr.add_lit];match j,hu with
  |0,hu=>simp at hu;subst hu;exact z11 hE 0
  |1,hu=>simp at hu;subst hu;exact z11 hE 1
  |2,hu=>simp at hu;subst hu;exact z11 hE 2
  |3,hu=>simp at hu;subst hu;exact z11 hE 3) (fun u hu=>by
  simp at hu;rcases hu with rfl|rfl|rfl|rfl<;>rfl) jm jc St2.o.size
 have hnx:=km_put St2.o ⟨op,a,b,c⟩ hown hgrow;refine zb64 ?_;intro hb3 d1 w1;simp at d1;obtain⟨ad2,cp2,hv2⟩:=z46 hown;subst hv2;refine zb18 ?_;unhygienic intros
 clear hnx hrun hown hgrow hat hE hKx hi hz0 hz1 hz2 hb3 d1 w1 St2 St0 HBx HB0 hL1 hPl hxl hsz;generalize X3.setCell ⟨Mb,1,none⟩ (.slice ad2 (s.o.length+1) cp2)=Z at*;go_wp2_with fail
 rw[show wrap64 (s.o.length:Int)=(s.o.length:Int) by have:=HL.o;unfold wrap64;omega];go_ret;exact⟨rfl,HNx.o,HFr.o⟩
theorem withI_calls (p:Option Addr) (x:ByteArray) (y:Int) (w:World) :
 Calls prog 101 #[.pointer p,.string x,int i64 y] w fun e w'=> e=.returned (.pointer (some ⟨w.heap.size,0,none⟩))/\w'= w.alloc (.cells #[.string x,int i64 y,.pointer p] 179):=by
 go_enter func101,ntmps101
 go_wp2_with fail
 go_ret;exact⟨rfl,rfl⟩
theorem many_known {p:Option Addr}{r:List ByteArray}(h:KnAt W p r) (hl:r.length<=100000):Calls prog 45 #[.pointer p] W fun e W'=> e=.returned (int i64 (r.length:Int))/\Below W.heap.size W W':= by
 cases r with
 | nil=>
   have e:p=none:=h;subst e;go_enter func45,ntmps45
   go_wp2_with fail
   go_ret;exact⟨rfl,Lb⟩
 | cons x r=>
   obtain⟨b,q,rfl,hb,-⟩:=h;have c1:=z11 hb 1;simp at c1;have HL:O (r.length+1<=100000):=by show _<=_;simpa using hl
   clear hb hl;go_enter func45,ntmps45
   go_wp2_with fail
   rw[z30 jc];go_ret;exact⟨yq,Lb⟩
def KnowP (W:World) (r:List ByteArray) (e:Ending) (W':World):Prop:= ∃p',e=.returned (.pointer p')/\KnAt W' p' r/\Below W.heap.size W W'
theorem z56 {p:Option Addr}{r:List ByteArray}(x:ByteArray) (h:KnAt W p r) (hl:r.length<=100000):Calls prog 47 #[.pointer p,.string x] W (KnowP W (x::r)):=by
 have H1:=U (many_known h hl);have HK:=U h;obtain⟨m,hm⟩:∃m:Int,(r.length:Int)=m:=⟨_,rfl⟩
 rw[hm]at H1;have HM:=U hm;clear h hl hm;go_enter func47,ntmps47
 go_wp2_with fail
 refine H1.o.mono ?_;rintro e X ⟨rfl,hb⟩;have HB:=U hb;have HW:=U (withI_calls p x m X);clear hb H1;go_wp2_with fail
 refine HW.o.mono ?_;rintro e X2 ⟨rfl,rfl⟩;have hbA:=(Below.refl X.heap.size X).alloc La (.cells #[.string x,int i64 m,.pointer p] 179);have HA:=U (Ld X (.cells #[.string x,int i64 m,.pointer p] 179)).1;have HBA:=U (HB.o.trans (hbA.mono HB.o.size));clear hbA;go_wp2_with fail
 go_ret;exact⟨_,rfl,⟨_,p,rfl,by rw[HM.o];exact HA.o,KnAt.frame (Kf.of_below HBA.o) _ _ HK.o⟩,HBA.o⟩
def whereK:List ByteArray->ByteArray->Option Nat
 |[],_=>none
 |x::r,y=>if x=y then some r.length else whereK r y
theorem knLen_eq {W:World}:∀(sc:List ByteArray) (f:Nat) (p:Option Addr),KnAt W p sc->sc.length<=f->scoLen f W (.pointer p)=sc.length
 | [],f,p,h,_=>by
   rw[show p=none from h]
   cases f<;>rfl
 |_::r,0,p,_,hf=>by simp at hf
 | _::r,f+1,p,⟨b,q,e,hb,hr⟩,hf=>by
   subst e;unfold scoLen;rw[z11 hb 2];have:=knLen_eq r f q hr (by simpa using hf);simp only[Ll];show 1+scoLen f W (.pointer q)=_;omega
theorem findK_calls (p:Option Addr) (sc:List ByteArray) (y:ByteArray) (w:World) (h:KnAt w p sc) :
 Calls prog 44 #[.pointer p,.string y] w fun e w'=> e=.returned (.tuple #[int i64 (((whereK sc y).getD 0:Nat):Int),.bool (whereK sc y).isSome])/\w=w':= by
 obtain⟨R,hR⟩:∃R,whereK sc y=R:=⟨_,rfl⟩
 have HR:=U hR;have HS:=U h;rw[hR];clear hR h;go_enter func44,ntmps44
 go_wp2_with fail
 go_loop [0] (fun v=> ∃(q:Option Addr) (r:List ByteArray),v=.pointer q/\O (KnAt w q r/\whereK r y=R/\r.length<=sc.length)) (fun v=>scoLen sc.length w v)
 case atStart=>exact⟨p,sc,rfl,HS.o,HR.o,La⟩
 case round=>
  obtain⟨q,r,rfl,HQ⟩:=hrel
  cases r with
  | nil=>
    have e:q=none:=HQ.o.1;subst e;have hR0:R=none:=HQ.o.2.1.symm;subst hR0;go_wp2_with fail
    go_ret2
    exact⟨rfl,rfl⟩
  | cons x r=>
    obtain⟨⟨b,q',e,hb,hr⟩,hf,hl⟩:=HQ.o;subst e;obtain⟨c0,c1,c2⟩:=fcl3 hb;have Hr:=U hr;have hxs:=str_eq x y;by_cases he:x=y
    .subst he;unfold whereK at hf;rw[if_pos rfl]at hf;subst hf;clear hb hr hl HQ;go_wp2_with fail
     go_ret2
     exact⟨rfl,rfl⟩
    .rw[decide_eq_false he]at hxs;unfold whereK at hf;rw[if_neg he]at hf;have HF:=U hf;have HL:=U hl;clear hb hr hl hf;go_wp2_with fail
     refine⟨⟨q',r,rfl,Hr.o,HF.o,qn⟩,?_⟩;rw[knLen_eq r _ q' Hr.o qn,knLen_eq (x::r) _ _ HQ.o.1 HL.o];simp
def TellP (W:World) (Mb fr:Nat) (e:Ending) (W':World):Prop:= ∃v,e=.returned v/\TellK W' Mb fr 0 v/\(∃a b,v=.func (.func 102) #[] #[.pointer (some ⟨a,0,none⟩),.pointer (some ⟨b,0,none⟩)])/\Below W.heap.size W W'
theorem z72 (Mb fr:Nat) (W:World):Calls prog 48 #[.pointer (some ⟨Mb,0,none⟩),int i64 (fr:Int)] W (TellP W Mb fr):=by
 have hA:=(Ld W (.cells #[.pointer (some ⟨Mb,0,none⟩)] 43)).1;have hb1:=(Below.refl W.heap.size W).alloc La (.cells #[.pointer (some ⟨Mb,0,none⟩)] 43);have hB:=(Ld (W.alloc (.cells #[.pointer (some ⟨Mb,0,none⟩)] 43)) (.cells #[int i64 (fr:Int)] 3)).1;have hb2:=(Below.refl (W.alloc (.cells #[.pointer (some ⟨Mb,0,none⟩)] 43)).heap.size (W.alloc (.cells #[.pointer (some ⟨Mb,0,none⟩)] 43))).alloc La (.cells #[int i64 (fr:Int)] 3);have HA:=U ((hb2.block _ (z13 hA)).trans hA);have HB:=U hB;have HS:=U (show(W.alloc (.cells #[.pointer (some ⟨Mb,0,none⟩)] 43)).heap.size=W.heap.size+1 by simp)
 have Hb:=U (hb1.trans (hb2.mono hb1.size));rw[HS.o]at HB;clear hA hb1 hB hb2 HS;go_enter func48,ntmps48
 go_wp2_with fail
 go_ret;exact⟨_,rfl,⟨W.heap.size,W.heap.size+1,_,rfl,HA.o,HB.o,Or.inl ⟨rfl,rfl⟩⟩,⟨_,_,rfl⟩,Hb.o⟩
def SetP (B:Nat) (W0:World) (Mb:Nat) (ve:Value) (s:Cs) (W:World) (e:Ending) (W':World):Prop:=(∃x,e=.returned x)/\KmE B W0 Mb ve s W'/\Kf W W'
theorem km_code {ls:List (Lt×Value)}{vo vl:Value}(h:Km B W0 Mb ve s ls vo vl W) (hl:0<s.o.length):∃g cap,vo=.slice (some ⟨g,0,none⟩) s.o.length cap:=by
 obtain⟨-,⟨-,h0⟩|⟨g,cap,cur,e,-⟩⟩:=h.orow
 .omega
 .exact⟨g,cap,e⟩
theorem tellA_calls {q2 q3 fr:Nat}(v:Int) (h:KmE B W0 Mb ve s W) (h2:W.heap[q2]?=some (.cells #[.pointer (some ⟨Mb,0,none⟩)] 43)) (h3:W.heap[q3]?=some (.cells #[int i64 (fr:Int)] 3)) (hfr:fr<s.o.length) :
 Calls prog 102 #[int i64 v,.pointer (some ⟨q2,0,none⟩),.pointer (some ⟨q3,0,none⟩)] W (SetP B W0 Mb ve (s.setAt fr 0 v) W):=by
 obtain⟨ls,vo,vl,h⟩:=h;obtain⟨g,cap,rfl⟩:=km_code h ya;refine zb54 ?_;intro cur hc hb hS hf0 hf1;have hfin:=km_set (h.below hb) hfr (wh:=0) ya v;have HFin:=U (Lc hfin.1 ((Kf.of_below hb).trans hfin.2));have hz:W.drew.frozen? ⟨g,fr*4+1,none⟩=false:=z15 (w:=W.drew) hc (fr*4+1);have hx:W.drew.cell? ⟨g,fr*4+1,none⟩=some ((s.o.getD fr default).cell 1):=by
  rw[(h.below hb).orow.cellAt (fr*4+1) ya,z51 In.cell 4 yk s.o _ ya];rw[show(fr*4+1)/4=fr by omega,show(fr*4+1) % 4=1 by omega]
 have hn:q2≠g/\q3≠g/\Mb≠g:=⟨fun e=>(by subst e;rw[hc]at h2;cases h2),fun e=>(by subst e;rw[hc]at h3;cases h3),fun e=>uq⟩
 clear h hfin hc hb h2 h3;go_enter func102,ntmps102
 refine z31 (S:=fun w=>w.cell? ⟨q2,0,none⟩=some (.pointer (some ⟨Mb,0,none⟩))/\w.cell? ⟨q3,0,none⟩=some (int i64 (fr:Int))/\w.cell? ⟨Mb,1,none⟩=some (.slice (some ⟨g,0,none⟩) s.o.length cap)) (n:=9) (ls:= #[false,false,false,false,false,false,false,false,false]) ye rfl ye ?_;generalize W.drew=X at*;refine pick_o (hy:=fun w' hw=>yc) 0 (.pointer (some ⟨Mb,0,none⟩)) hS ?_;refine pick_o 1 (.pointer (some ⟨Mb,0,none⟩)) hS ?_;refine pick_o 2 (.pointer (some ⟨Mb,1,none⟩)) hS ?_;refine pick_o (hy:=fun w' hw=>ur) 3 (.slice (some ⟨g,0,none⟩) s.o.length cap) hS ?_
 refine pick_o (hy:=fun w' hw=>yd) 4 (int i64 (fr:Int)) hS ?_;refine pick_o 5 (int i64 v) hS ?_;refine pick_o (hy:=fun w' hw=>yl) 6 (.pointer (some ⟨g,fr*4,none⟩)) hS ?_;refine pick_o 7 (.pointer (some ⟨g,fr*4+1,none⟩)) hS ?_;have hS2:∀(b o:Nat),b≠g->(X.setCell ⟨g,fr*4+1,none⟩ (int i64 v)).cell? ⟨b,o,none⟩=X.cell? ⟨b,o,none⟩:=fun b o hb=>Lj (Lg X ⟨g,fr*4+1,none⟩ _ b hb)
 refine z38 (i:=8) (w1:=X.setCell ⟨g,fr*4+1,none⟩ (int i64 v)) rfl rfl ye rfl rfl (by simp[go_sem,hz,hx]) ⟨(hS2 _ _ hn.1).trans hS.1,(hS2 _ _ hn.2.1).trans hS.2.1,(hS2 _ _ hn.2.2).trans hS.2.2⟩ ?_;refine z37 ye ?_;clear hz hx hS hS2;generalize X.setCell ⟨g,fr*4+1,none⟩ (int i64 v)=Z at*;go_wp2_with fail
 go_end0
 exact⟨⟨_,rfl⟩,HFin.o.1,HFin.o.2⟩
theorem tellB_calls {q2 q3 fr:Nat}(v:Int) (h:KmE B W0 Mb ve s W) (h2:W.heap[q2]?=some (.cells #[.pointer (some ⟨Mb,0,none⟩)] 43)) (h3:W.heap[q3]?=some (.cells #[int i64 (fr:Int)] 3)) (hfr:fr<s.o.length) :
 Calls prog 147 #[int i64 v,.pointer (some ⟨q2,0,none⟩),.pointer (some ⟨q3,0,none⟩)] W (SetP B W0 Mb ve (s.setAt fr 1 v) W):=by
 obtain⟨ls,vo,vl,h⟩:=h;obtain⟨g,cap,rfl⟩:=km_code h ya;refine zb54 ?_;intro cur hc hb hS hf0 hf1;have hfin:=km_set (h.below hb) hfr (wh:=1) ya v;have HFin:=U (Lc hfin.1 ((Kf.of_below hb).trans hfin.2));have hz:W.drew.frozen? ⟨g,fr*4+2,none⟩=false:=z15 (w:=W.drew) hc (fr*4+2);have hx:W.drew.cell? ⟨g,fr*4+2,none⟩=some ((s.o.getD fr default).cell 2):=by
  rw[(h.below hb).orow.cellAt (fr*4+2) ya,z51 In.cell 4 yk s.o _ ya];rw[show(fr*4+2)/4=fr by omega,show(fr*4+2) % 4=2 by omega]
 have hn:q2≠g/\q3≠g/\Mb≠g:=⟨fun e=>(by subst e;rw[hc]at h2;cases h2),fun e=>(by subst e;rw[hc]at h3;cases h3),fun e=>uq⟩
 clear h hfin hc hb h2 h3;go_enter func147,ntmps147
 refine z31 (S:=fun w=>w.cell? ⟨q2,0,none⟩=some (.pointer (some ⟨Mb,0,none⟩))/\w.cell? ⟨q3,0,none⟩=some (int i64 (fr:Int))/\w.cell? ⟨Mb,1,none⟩=some (.slice (some ⟨g,0,none⟩) s.o.length cap)) (n:=9) (ls:= #[false,false,false,false,false,false,false,false,false]) ye rfl ye ?_;generalize W.drew=X at*;refine pick_o (hy:=fun w' hw=>yc) 0 (.pointer (some ⟨Mb,0,none⟩)) hS ?_;refine pick_o 1 (.pointer (some ⟨Mb,0,none⟩)) hS ?_;refine pick_o 2 (.pointer (some ⟨Mb,1,none⟩)) hS ?_;refine pick_o (hy:=fun w' hw=>ur) 3 (.slice (some ⟨g,0,none⟩) s.o.length cap) hS ?_
 refine pick_o (hy:=fun w' hw=>yd) 4 (int i64 (fr:Int)) hS ?_;refine pick_o 5 (int i64 v) hS ?_;refine pick_o (hy:=fun w' hw=>yl) 6 (.pointer (some ⟨g,fr*4,none⟩)) hS ?_;refine pick_o 7 (.pointer (some ⟨g,fr*4+2,none⟩)) hS ?_;have hS2:∀(b o:Nat),b≠g->(X.setCell ⟨g,fr*4+2,none⟩ (int i64 v)).cell? ⟨b,o,none⟩=X.cell? ⟨b,o,none⟩:=fun b o hb=>Lj (Lg X ⟨g,fr*4+2,none⟩ _ b hb)
 refine z38 (i:=8) (w1:=X.setCell ⟨g,fr*4+2,none⟩ (int i64 v)) rfl rfl ye rfl rfl (by simp[go_sem,hz,hx]) ⟨(hS2 _ _ hn.1).trans hS.1,(hS2 _ _ hn.2.1).trans hS.2.1,(hS2 _ _ hn.2.2).trans hS.2.2⟩ ?_;refine z37 ye ?_;clear hz hx hS hS2;generalize X.setCell ⟨g,fr*4+2,none⟩ (int i64 v)=Z at*;go_wp2_with fail
 go_end0
 exact⟨⟨_,rfl⟩,HFin.o.1,HFin.o.2⟩
theorem info_func:(prog.info? 1).map (fun i=>(i.zero,i.size,i.bytes))=some (some .nilFunc,1,8):=ye
theorem boxes4 (W:World) (a b c d:Obj):((((W.alloc a).alloc b).alloc c).alloc d).heap[W.heap.size]?=some a/\((((W.alloc a).alloc b).alloc c).alloc d).heap[W.heap.size+1]?=some b/\((((W.alloc a).alloc b).alloc c).alloc d).heap[W.heap.size+1+1]?=some c/\((((W.alloc a).alloc b).alloc c).alloc d).heap[W.heap.size+1+1+1]?=some d/\Below W.heap.size W ((((W.alloc a).alloc b).alloc c).alloc d):=by
 have s1:(W.alloc a).heap.size=W.heap.size+1:=yq;have s2:((W.alloc a).alloc b).heap.size=W.heap.size+1+1:=yq;have s3:(((W.alloc a).alloc b).alloc c).heap.size=W.heap.size+1+1+1:=yq;have b1:Below (W.alloc a).heap.size (W.alloc a) ((W.alloc a).alloc b):=Lb.alloc La _;have b2:Below ((W.alloc a).alloc b).heap.size ((W.alloc a).alloc b) (((W.alloc a).alloc b).alloc c):=Lb.alloc La _;have b3:Below (((W.alloc a).alloc b).alloc c).heap.size (((W.alloc a).alloc b).alloc c) ((((W.alloc a).alloc b).alloc c).alloc d):=Lb.alloc La _;have h0:=(Ld W a).1;have h1:=(Ld (W.alloc a) b).1
 have h2:=(Ld ((W.alloc a).alloc b) c).1;have h3:=(Ld (((W.alloc a).alloc b).alloc c) d).1;rw[s1]at h1;rw[s2]at h2;rw[s3]at h3;refine⟨(b3.block _ ya).trans ((b2.block _ ya).trans ((b1.block _ ya).trans h0)),(b3.block _ ya).trans ((b2.block _ ya).trans h1),(b3.block _ ya).trans h2,h3,?_⟩;exact(((Lb.alloc La _).alloc ya _).alloc ya _).alloc ya _
theorem putOff_calls (l:Lt) {kn:Option Addr}{fv:Value}{f:FuncId}{ta tb:Nat}(h:KmE B W0 Mb ve s W) (hl:s.later.length<=960000) (hF:FormK B W0 l.t fv) (hBd:BdT l.t l.names) (hK:KnAt W kn l.names.reverse) (hT:TellK W Mb l.fr l.wh (.func (.func f) #[] #[.pointer (some ⟨ta,0,none⟩),.pointer (some ⟨tb,0,none⟩)])) :
 Calls prog 46 #[.pointer (some ⟨Mb,0,none⟩),fv,.pointer kn,.func (.func f) #[] #[.pointer (some ⟨ta,0,none⟩),.pointer (some ⟨tb,0,none⟩)]] W (SetP B W0 Mb ve (s.wait l) W):=by
 obtain⟨ls,vo,vl,h⟩:=h;obtain⟨us,hus,hsh⟩:=hF;obtain⟨tyv,pv,rfl⟩:=hsh.iface;have HF:=U (show FormK B W0 l.t (.iface tyv pv) from⟨us,hus,hsh⟩);have HBd9:=U hBd;clear hus hsh hBd;obtain⟨adp,cpp,hvp⟩:=z46 h.lrow;subst hvp;have hll:ls.length=s.later.length:=by rw[<-h.lfst,List.length_map]
 have HL:=U (show ls.length<=960000 by omega);obtain⟨g4,g5,g6,g7,gb⟩:=boxes4 W (.cells #[.pointer (some ⟨Mb,0,none⟩)] 43) (.cells #[.iface tyv pv] 49) (.cells #[.pointer kn] 94) (.cells #[.func (.func f) #[] #[.pointer (some ⟨ta,0,none⟩),.pointer (some ⟨tb,0,none⟩)]] 107);obtain⟨Y,hY⟩:∃Y,(((W.alloc (.cells #[.pointer (some ⟨Mb,0,none⟩)] 43)).alloc (.cells #[.iface tyv pv] 49)).alloc (.cells #[.pointer kn] 94)).alloc (.cells #[.func (.func f) #[] #[.pointer (some ⟨ta,0,none⟩),.pointer (some ⟨tb,0,none⟩)]] 107)=Y:=⟨_,rfl⟩
 rw[hY]at g4 g5 g6 g7 gb;have HY:=U hY;have HG:=U (Lc g4 (Lc g5 (Lc g6 g7)));have HB:=U gb;have St:=U (h.below gb);have HK:=U (KnAt.frame (Kf.of_below gb) _ _ hK);have HT:=U (hT.frame (Kf.of_below gb));clear h hl hK hT hll g4 g5 g6 g7 gb hY;go_enter func46,ntmps46
 go_upto_region 1 with fail
 rw[HY.o];clear HY;generalize W.heap.size+1+1+1=p7 at HG |-;generalize W.heap.size+1+1=p6 at HG |-;generalize W.heap.size+1=p5 at HG |-;obtain⟨p4,hp4⟩:∃p,W.heap.size=p:=⟨_,rfl⟩
 rw[hp4]at HG |-;clear hp4;have hbd:Below Y.heap.size Y Y.drew:=Lb.drew;have HGd:=U (show Y.drew.heap[p4]?=_/\Y.drew.heap[p5]?=_/\Y.drew.heap[p6]?=_/\Y.drew.heap[p7]?=_ from HG.o);have HBd:=U (HB.o.trans (hbd.mono HB.o.size));have Std:=U (St.o.below hbd);have HKd:=U (KnAt.frame (Kf.of_below hbd) _ _ HK.o);have HTd:=U (HT.o.frame (Kf.of_below hbd));refine z31 (S:=fun w=>w.cell? ⟨p4,0,none⟩=some (.pointer (some ⟨Mb,0,none⟩))) (n:=11) (ls:= #[false,false,false,false,false,false,false,false,false,false,false]) ye rfl ye ?_;clear hbd HG HB St HK HT;generalize Y.drew=X at*
 have hc2:X.cell? ⟨Mb,2,none⟩=some (.slice adp ls.length cpp):=z11 Std.o.blk 2;have hS:X.cell? ⟨p4,0,none⟩=some (.pointer (some ⟨Mb,0,none⟩)):=z11 HGd.o.1 0;refine pick_o (hy:=fun w' hw=>ut) 0 (.pointer (some ⟨Mb,0,none⟩)) hS ?_;refine pick_o (hy:=fun w' hw=>ut) 1 (.pointer (some ⟨Mb,0,none⟩)) hS ?_;refine pick_o 2 (.pointer (some ⟨Mb,0,none⟩)) hS ?_;refine pick_o 3 (.pointer (some ⟨Mb,2,none⟩)) hS ?_;refine pick_o 5 (.func (.func 100) #[] #[.pointer (some ⟨p7,0,none⟩),.pointer (some ⟨p4,0,none⟩),.pointer (some ⟨p5,0,none⟩),.pointer (some ⟨p6,0,none⟩)]) hS ?_
 have HLate:=U (show LateK B W0 X Mb l (.func (.func 100) #[] #[.pointer (some ⟨p7,0,none⟩),.pointer (some ⟨p4,0,none⟩),.pointer (some ⟨p5,0,none⟩),.pointer (some ⟨p6,0,none⟩)]) from⟨p4,p5,p6,p7,_,kn,_,rfl,HGd.o.1,HGd.o.2.1,HGd.o.2.2.1,HGd.o.2.2.2,⟨HF.o,HBd9.o⟩,HKd.o,HTd.o⟩);have H4:=U HGd.o.1;have bl:=(Below.refl X.heap.size X).alloc La (.cells #[.func (.func 100) #[] #[.pointer (some ⟨p7,0,none⟩),.pointer (some ⟨p4,0,none⟩),.pointer (some ⟨p5,0,none⟩),.pointer (some ⟨p6,0,none⟩)]] 1)
 have hE:=(Ld X (.cells #[.func (.func 100) #[] #[.pointer (some ⟨p7,0,none⟩),.pointer (some ⟨p4,0,none⟩),.pointer (some ⟨p5,0,none⟩),.pointer (some ⟨p6,0,none⟩)]] 1)).1;have St2:=U (Std.o.below bl);have HLate2:=U (HLate.o.frame (Kf.of_below bl));have H42:=U ((bl.block _ (z13 H4.o)).trans H4.o);have HB2:=U (HBd.o.trans (bl.mono HBd.o.size));have hS2:(X.alloc (.cells #[.func (.func 100) #[] #[.pointer (some ⟨p7,0,none⟩),.pointer (some ⟨p4,0,none⟩),.pointer (some ⟨p5,0,none⟩),.pointer (some ⟨p6,0,none⟩)]] 1)).cell? ⟨p4,0,none⟩=some (.pointer (some ⟨Mb,0,none⟩)):=z11 H42.o 0
 have hc22:(X.alloc (.cells #[.func (.func 100) #[] #[.pointer (some ⟨p7,0,none⟩),.pointer (some ⟨p4,0,none⟩),.pointer (some ⟨p5,0,none⟩),.pointer (some ⟨p6,0,none⟩)]] 1)).cell? ⟨Mb,2,none⟩=some (.slice adp ls.length cpp):=z11 St2.o.blk 2;refine pick_fork (i:=4) (j:=6) ye ?_ ?_
 .refine⟨_,.slice adp ls.length cpp,X,rfl,rfl,by simp[go_sem,hc2],hS,?_⟩;refine z25 yg ?_;refine z27 (i:=6) (v:=.slice (some ⟨X.heap.size,0,none⟩) 1 1) (w1:=X.alloc (.cells #[.func (.func 100) #[] #[.pointer (some ⟨p7,0,none⟩),.pointer (some ⟨p4,0,none⟩),.pointer (some ⟨p5,0,none⟩),.pointer (some ⟨p6,0,none⟩)]] 1)) rfl ye rfl rfl yf hS2 yg ?_;refine zb75 ?_;intro nb hnb fu hfu hone;clear HGd HF HKd HTd hc2 hc22 HLate H4 Std HBd hS bl;rw[hfu]at HLate2 hE H42 St2 HB2 hS2 |-;clear hfu;generalize X.alloc (.cells #[fu] 1)=X2 at*;rw[hnb]at hE |-;obtain⟨i0,hi,hz0,hz1,hz2⟩:=info_parts info_func
  obtain⟨vp2,X3,hrun,hown,hgrow,-,hat⟩:=run_append_own_at (P:=prog) X2 W0.heap.size 44 44 1 i0 _ 1 8 underlying44 hi hz0 hz1 hz2 rfl yk (.slice adp ls.length cpp) ls.length (ls.map Prod.snd) St2.o.lrow ⟨nb,0,none⟩ 1 1 [fu] rfl (fun j u hu=>by
   rw[Addr.add_lit];match j,hu with
   |0,hu=>simp at hu;subst hu;exact z11 hE 0) (fun u hu=>by
   simp at hu;rw[hu];exact hone) jm jc St2.o.size
  refine zb62 ?_;intro hnx hb3 h43 hS3 ad2 cp2 hv2;subst hv2;refine zb35 ?_;intro d2 w2 HNx HFr;have hS4:(X3.setCell ⟨Mb,2,none⟩ (.slice ad2 (ls.length+1) cp2)).cell? ⟨p4,0,none⟩=some (.pointer (some ⟨Mb,0,none⟩)):=(Lj (Lg X3 ⟨Mb,2,none⟩ _ p4 (fun e=>uu))).trans hS3;refine z38 (i:=10) (w1:=X3.setCell ⟨Mb,2,none⟩ (.slice ad2 (ls.length+1) cp2)) rfl rfl ye rfl rfl (by simp[go_sem,d2,w2]) hS4 ?_;refine z37 ye ?_;clear hnx hrun hown hgrow hat hE hi hz0 hz1 hz2 hb3 h43 hS3 hS4 d2 w2 St2 HLate2 H42 HB2 hS2;generalize X3.setCell ⟨Mb,2,none⟩ (.slice ad2 (ls.length+1) cp2)=Z at*;go_wp2_with fail
  go_end0
  exact⟨⟨_,rfl⟩,HNx.o,HFr.o⟩
 .refine⟨_,.slice (some ⟨X.heap.size,0,none⟩) 1 1,X.alloc (.cells #[.func (.func 100) #[] #[.pointer (some ⟨p7,0,none⟩),.pointer (some ⟨p4,0,none⟩),.pointer (some ⟨p5,0,none⟩),.pointer (some ⟨p6,0,none⟩)]] 1),rfl,rfl,yf,hS2,?_⟩;refine z25 yg ?_;refine z27 (i:=4) (v:=.slice adp ls.length cpp) (w1:=X.alloc (.cells #[.func (.func 100) #[] #[.pointer (some ⟨p7,0,none⟩),.pointer (some ⟨p4,0,none⟩),.pointer (some ⟨p5,0,none⟩),.pointer (some ⟨p6,0,none⟩)]] 1)) rfl ye rfl rfl (by simp[go_sem,hc22]) hS2 yg ?_;refine zb75 ?_;intro nb hnb fu hfu hone;clear HGd HF HKd HTd hc2 hc22 HLate H4 Std HBd hS bl
  rw[hfu]at HLate2 hE H42 St2 HB2 hS2 |-;clear hfu;generalize X.alloc (.cells #[fu] 1)=X2 at*;rw[hnb]at hE |-;obtain⟨i0,hi,hz0,hz1,hz2⟩:=info_parts info_func;obtain⟨vp2,X3,hrun,hown,hgrow,-,hat⟩:=run_append_own_at (P:=prog) X2 W0.heap.size 44 44 1 i0 _ 1 8 underlying44 hi hz0 hz1 hz2 rfl yk (.slice adp ls.length cpp) ls.length (ls.map Prod.snd) St2.o.lrow ⟨nb,0,none⟩ 1 1 [fu] rfl (fun j u hu=>by
   rw[Addr.add_lit];match j,hu with
   |0,hu=>simp at hu;subst hu;exact z11 hE 0) (fun u hu=>by
   simp at hu;rw[hu];exact hone) jm jc St2.o.size
  refine zb62 ?_;intro hnx hb3 h43 hS3 ad2 cp2 hv2;subst hv2;refine zb35 ?_;intro d2 w2 HNx HFr;have hS4:(X3.setCell ⟨Mb,2,none⟩ (.slice ad2 (ls.length+1) cp2)).cell? ⟨p4,0,none⟩=some (.pointer (some ⟨Mb,0,none⟩)):=(Lj (Lg X3 ⟨Mb,2,none⟩ _ p4 (fun e=>uu))).trans hS3;refine z38 (i:=10) (w1:=X3.setCell ⟨Mb,2,none⟩ (.slice ad2 (ls.length+1) cp2)) rfl rfl ye rfl rfl (by simp[go_sem,d2,w2]) hS4 ?_;refine z37 ye ?_;clear hnx hrun hown hgrow hat hE hi hz0 hz1 hz2 hb3 h43 hS3 hS4 d2 w2 St2 HLate2 H42 HB2 hS2;generalize X3.setCell ⟨Mb,2,none⟩ (.slice ad2 (ls.length+1) cp2)=Z at*;go_wp2_with fail
  go_end0
  exact⟨⟨_,rfl⟩,HNx.o,HFr.o⟩
theorem forms_at {B:Nat}{W0:World}:∀(f:Fo) (vs:List Value) (q i:Nat),Forms B W0 f vs->i<f.count->FormK B W0 ((kidsAt f q).getD i default) (vs.getD i default)
 |.none,_,_,_,_,h=>un
 | .tree n k r,_,q,0,⟨v,us,rest,e,h1,h2,h3⟩,_=>by
   subst e;simp only[kidsAt,List.getD_cons_zero];exact⟨us,h1,h2⟩
 | .tree n k r,_,q,i+1,⟨v,us,rest,e,h1,h2,h3⟩,hi=>by
   subst e;simp only[kidsAt,List.getD_cons_succ];exact forms_at r rest _ i h3 uo
theorem FormK.open (h:FormK B W0 t v):∃us,Shape B W0 t.n us v/\us.length=t.k.count/\(∀u∈us,∃T p,u=.iface T p)/\ ∀i,i<t.k.count->FormK B W0 (t.kid i) (us.getD i default):=by
 obtain⟨us,h1,h2⟩:=h;exact⟨us,h2,h1.length,h1.ifaces,fun i hi=>forms_at t.k us (t.at_+1) i h1 hi⟩
theorem where_idx:∀(r:List ByteArray) (x:ByteArray),x∈r-> ∃n,whereK r x=some n/\n<r.length
 |[],_,h=>vy
 | y::r,x,h=>by
   unfold whereK;split
   .exact⟨_,rfl,yq⟩
   .rename_i hne;rcases List.mem_cons.1 h with e|e
    .exact absurd e.symm hne
    .obtain⟨n,h1,h2⟩:=where_idx r x e;exact⟨n,h1,jd⟩
theorem idxGo_where (x:ByteArray):∀(r ss:List ByteArray) (m:Nat),(∃suf,ss=r.reverse++suf)->m=r.length->idxGo ss x m=match whereK r x with|some n=>((ss.length-1-n:Nat):Int)|none=> -1
 |[],ss,m,_,hm=>by subst hm;rfl
 | y::r,ss,m,⟨suf,e⟩,hm=>by
   subst hm;have hg:ss.getD r.length ⟨#[]⟩=y:=by
    rw[e];simp[List.getD]
   simp only[Ll];unfold idxGo whereK;rw[hg,str_eq];by_cases h:y=x
   .rw[if_pos zx,if_pos h]
   .rw[if_neg zx,if_neg h];exact idxGo_where x r ss r.length ⟨y::suf,by rw[e];simp⟩ rfl
theorem idx_where {x:ByteArray}{n:Nat}(h:whereK ss.reverse x=some n):idxZ ss x=((ss.length-1-n:Nat):Int):=by
 unfold idxZ;rw[idxGo_where x ss.reverse ss ss.length ⟨[],yq⟩ yq,h]
theorem hit_var (v:Value) (w:World):(Instr.typeAssert (.iface 98 v) 49 98 true).run prog w=.ok (.tuple #[v,.bool true]) w:=ye
theorem hit_fn (v:Value) (w:World):(Instr.typeAssert (.iface 104 v) 49 104 true).run prog w=.ok (.tuple #[v,.bool true]) w:=ye
theorem hit_rec (v:Value) (w:World):(Instr.typeAssert (.iface 110 v) 49 110 true).run prog w=.ok (.tuple #[v,.bool true]) w:=ye
theorem hit_let (v:Value) (w:World):(Instr.typeAssert (.iface 112 v) 49 112 true).run prog w=.ok (.tuple #[v,.bool true]) w:=ye
theorem hit_if (v:Value) (w:World):(Instr.typeAssert (.iface 114 v) 49 114 true).run prog w=.ok (.tuple #[v,.bool true]) w:=ye
theorem hit_case (v:Value) (w:World):(Instr.typeAssert (.iface 117 v) 49 117 true).run prog w=.ok (.tuple #[v,.bool true]) w:=ye
theorem hit_hand (v:Value) (w:World):(Instr.typeAssert (.iface 121 v) 49 121 true).run prog w=.ok (.tuple #[v,.bool true]) w:=ye
theorem hit_ret (v:Value) (w:World):(Instr.typeAssert (.iface 235 v) 49 235 true).run prog w=.ok (.tuple #[v,.bool true]) w:=ye
theorem hit_op (v:Value) (w:World):(Instr.typeAssert (.iface 237 v) 49 237 true).run prog w=.ok (.tuple #[v,.bool true]) w:=ye
theorem miss_var {T:TypeId}(h:T≠98) (v:Value) (w:World):(Instr.typeAssert (.iface T v) 49 98 true).run prog w=.ok (.tuple #[.agg #[.string ⟨#[]⟩],.bool false]) w:=by
 unfold Instr.typeAssert;simp[go_sem,h]
theorem miss_fn {T:TypeId}(h:T≠104) (v:Value) (w:World):(Instr.typeAssert (.iface T v) 49 104 true).run prog w=.ok (.tuple #[.agg #[.string ⟨#[]⟩,.nilIface],.bool false]) w:=by
 unfold Instr.typeAssert;simp[go_sem,h]
theorem miss_rec {T:TypeId}(h:T≠110) (v:Value) (w:World):(Instr.typeAssert (.iface T v) 49 110 true).run prog w=.ok (.tuple #[.agg #[.string ⟨#[]⟩,.string ⟨#[]⟩,.nilIface,.nilIface],.bool false]) w:=by
 unfold Instr.typeAssert;simp[go_sem,h]
theorem miss_let {T:TypeId}(h:T≠112) (v:Value) (w:World):(Instr.typeAssert (.iface T v) 49 112 true).run prog w=.ok (.tuple #[.agg #[.string ⟨#[]⟩,.nilIface,.nilIface],.bool false]) w:=by
 unfold Instr.typeAssert;simp[go_sem,h]
theorem miss_if {T:TypeId}(h:T≠114) (v:Value) (w:World):(Instr.typeAssert (.iface T v) 49 114 true).run prog w=.ok (.tuple #[.agg #[.nilIface,.nilIface,.nilIface],.bool false]) w:=by
 unfold Instr.typeAssert;simp[go_sem,h]
theorem miss_case {T:TypeId}(h:T≠117) (v:Value) (w:World):(Instr.typeAssert (.iface T v) 49 117 true).run prog w=.ok (.tuple #[.agg #[.nilIface,.nilIface,.string ⟨#[]⟩,.string ⟨#[]⟩,.nilIface],.bool false]) w:=by
 unfold Instr.typeAssert;simp[go_sem,h]
theorem miss_hand {T:TypeId}(h:T≠121) (v:Value) (w:World):(Instr.typeAssert (.iface T v) 49 121 true).run prog w=.ok (.tuple #[.agg #[int i64 0,.nilIface,.slice none 0 0],.bool false]) w:=by
 unfold Instr.typeAssert;simp[go_sem,h]
theorem miss_ret {T:TypeId}(h:T≠235) (v:Value) (w:World):(Instr.typeAssert (.iface T v) 49 235 true).run prog w=.ok (.tuple #[.agg #[.string ⟨#[]⟩,.nilIface],.bool false]) w:=by
 unfold Instr.typeAssert;simp[go_sem,h]
theorem kidsAt_first (f:Fo) (p:Nat) (h:0<f.count):((kidsAt f p).getD 0 default).at_=p:=by
 cases f with
 |none=>simp[Fo.count]at h
 |tree n k r=>rfl
theorem kidsAt_next:∀(f:Fo) (p i:Nat),i+1<f.count->((kidsAt f p).getD (i+1) default).at_=((kidsAt f p).getD i default).at_+1+((kidsAt f p).getD i default).k.flat.length
 |.none,p,i,h=>un
 | .tree n k r,p,0,h=>by
   have h1:=kidsAt_first r (p+1+k.flat.length) (by simp only[Fo.count]at h;omega);simp only[kidsAt,List.getD_cons_succ,List.getD_cons_zero];exact h1
 | .tree n k r,p,i+1,h=>by
   have h1:=kidsAt_next r (p+1+k.flat.length) i (by simp only[Fo.count]at h;omega);simp only[kidsAt,List.getD_cons_succ];exact h1
theorem Stands.end (h:Stands ns t):treeEnd ns (t.at_:Int)=((t.at_+1+t.k.flat.length:Nat):Int):=by
 obtain⟨suf,hd⟩:=h.drop;exact treeEnd_at hd h.kids h.good.wf
theorem Stands.first (_h:Stands ns t) (h0:0<t.k.count):(t.kid 0).at_=t.at_+1:=kidsAt_first t.k _ h0
theorem Stands.next (h:Stands ns t) {i:Nat}(hi:i+1<t.k.count):treeEnd ns ((t.kid i).at_:Int)=((t.kid (i+1)).at_:Int):=by
 rw[(h.kid ya).end];exact congrArg _ (kidsAt_next t.k _ i hi).symm
theorem Stands.lt (h:Stands ns t):t.at_<ns.length/\ns.getD t.at_ default=t.n/\t.at_+t.size<=ns.length:=by
 obtain⟨suf,hd⟩:=h.drop;have hl:=congrArg List.length hd;simp only[List.length_drop,Ll,Lk]at hl;refine⟨ya,?_,by unfold Tp.size;omega⟩;have:ns.getD t.at_ default=(ns.drop t.at_).getD 0 default:=by simp[List.getD,List.getElem?_drop]
 rw[this,hd];rfl
theorem kid_calls {b off cap:Nat}(i:Nat) (W:World) (hn:NodesAt W b off ns) (hm:ns.length<=300) (h:Stands ns t) (hi:i<t.k.count) :
 Calls prog 59 #[.slice (some ⟨b,off,none⟩) ns.length cap,int i64 (t.at_:Int),int i64 (i:Int)] W fun e W'=> e=.returned (int i64 ((t.kid i).at_:Int))/\W=W':= by
 have HE:=U (fun(at_:Int)=>z59 b off cap ns at_ W hn ya);have HS:=U (Lc h (Lc hi hm));have hlt:=h.lt.1;have HW:O (wrap64 ((t.at_:Int)+1)=((t.kid 0).at_:Int)):=by
  show _=_;rw[h.first ya];unfold wrap64;omega
 have HI:O (i<=300):=by
  show _<=_;have h1:=t.kids_len;have h2:=Fo.count_le t.k;have h3:=h.lt.2.2;unfold Tp.size at h3;omega
 clear hn hm h hi hlt;generalize ns.length=len at*;generalize t.at_=p at*;go_enter func59,ntmps59
 go_wp2_with fail
 rw[HW.o];go_loopw [1,7] (fun at_ j wr=> ∃(k:Nat),k<=i/\at_=int i64 ((t.kid k).at_:Int)/\j=int i64 (k:Int)/\wr=W) (fun _ j _=>i-(intOf j).toNat)
 case atStart=>exact⟨0,Li _,rfl,rfl,rfl⟩
 case round=>
  obtain⟨k,hk,rfl,rfl,rfl⟩:=hrel;by_cases hki:(k:Int)<(i:Int)
  .have hnx:=HS.o.1.next (i:=k) (by have:=HS.o.2.1;omega);have HC:=U (HE.o ((t.kid k).at_:Int));rw[hnx]at HC;have hstep:i-(intOf (int i64 ((k+1:Nat):Int))).toNat<i-(intOf (int i64 (k:Int))).toNat:=yu;clear hnx;go_wp2_with fail
   refine HC.o.mono ?_;rintro e W1 ⟨rfl,rfl⟩;go_wp2_with fail
   try rw[z30 (by have:=HI.o;omega)]
   exact⟨⟨k+1,ya,rfl,rfl,trivial⟩,hstep⟩
  .have e:k=i:=by omega
   subst e;go_wp2_with fail
   go_ret;exact⟨rfl,rfl⟩
theorem row_made (X:World):(X.alloc (.cells #[] 9)).ownsRow X.heap.size 9 1 (.slice (some ⟨X.heap.size,0,none⟩) 0 0) 0 (strRow []):=World.ownsRow_made X #[] 0 La (Li _) rfl
theorem withN_calls {mv:Value}{ms:List ByteArray}(W:World) (h:NamesV W v ss) (hm:NamesV W mv ms) (hl:ss.length+ms.length<=100000) :
 Calls prog 57 #[v,mv] W fun e W'=> ∃u,e=.returned u/\NmT W' u (ss++ms)/\Below W.heap.size W W':= by
 have hb0:Below W.heap.size W (W.alloc (.cells #[] 9)):=Lb.alloc La _;obtain⟨ad,cp,rfl⟩:=h.slice;obtain⟨adm,cpm,rfl⟩:=hm.slice;have HV:=U (Lc (h.below hb0) (Lc hm (Lc hl hb0)));clear h hm hl hb0;go_enter func57,ntmps57
 go_wp2_with (first
  |(at_builtin;refine z34 rfl _ _ 33 rfl _ _ rfl rfl (fun ty=>app_names ty (row_made W) HV.o.1 (by have:=HV.o.2.2.1;simp;omega) yq) ?_;rintro v5 w5 ⟨ho5,hg5,-⟩;have B5:O (Below W.heap.size W w5):=HV.o.2.2.2.grown hg5 yq (fun k hk=>((row_made W).lt k hk).1);have O5:=U ho5;have M5:=U (HV.o.2.1.below B5.o);clear ho5 hg5)
  |(at_builtin;refine z34 rfl _ _ 33 rfl _ _ rfl rfl (fun ty=>app_names ty O5.o M5.o (by have:=HV.o.2.2.1;simp;omega) B5.o.size) ?_;rintro v6 w6 ⟨ho6,hg6,-⟩;have B6:O (Below W.heap.size W w6):=B5.o.grown hg6 B5.o.size (fun k hk=>(O5.o.lt k hk).1);have O6:=U ho6;clear ho6 hg6))
 go_ret;exact⟨_,rfl,nmT_owns O6.o,B6.o⟩
theorem index_calls (x:ByteArray) (W:World) (h:NamesV W v ss) (hl:ss.length<=100000) :
 Calls prog 55 #[v,.string x] W fun e W'=> e=.returned (int i64 (idxZ ss x))/\W=W':= by
 obtain⟨ad,cp,rfl⟩:=h.slice;obtain⟨L,hL⟩:∃L,ss.length=L:=⟨_,rfl⟩
 have HV:=U h;have HL:=U (Lc hL hl);rw[hL]at HV |-;obtain⟨TG,hTG⟩:∃TG,idxZ ss x=TG:=⟨_,rfl⟩
 have HTG:O (idxGo ss x L=TG):=by show _=_;rw[<-hL];exact hTG
 rw[hTG];clear h hl hL hTG;go_enter func55,ntmps55
 have HW1:O (wrap64 ((L:Int)-1)=(L:Int)-1):=uv;go_wp2_with fail
 rw[HW1.o];go_loopw [5] (fun i wr=> ∃(k:Nat) (z:Int),i=int i64 z/\z=(k:Int)-1/\k<=L/\O (idxGo ss x k=TG)/\wr=W) (fun i _=>(intOf i+1).toNat)
 case atStart=>exact⟨L,_,rfl,rfl,La,HTG,rfl⟩
 case round=>
  obtain⟨k,z,rfl,hz,hk,HI,rfl⟩:=hrel
  cases k with
  | zero=>
    have hzn:¬ ((0:Int)<=z):=ya;have HE:O (TG= -1):=by show _=_;rw[<-HI.o];rfl
    clear hz;go_wp2_with fail
    go_ret;rw[HE.o];exact⟨rfl,rfl⟩
  | succ k=>
    have hzk:z=(k:Int):=ya;subst hzk;clear hz;obtain⟨-,g,o,rfl,hg,hc⟩:=HV.o.cell (by omega:0<L);have hcell:=hc k ya;have HI2:O ((if ((ss.getD k ⟨#[]⟩).toList==x.toList)=true then ((ss.length-1-k:Nat):Int) else idxGo ss x k)=TG):=HI;obtain⟨y,hy⟩:∃y,ss.getD k ⟨#[]⟩=y:=⟨_,rfl⟩
    rw[hy]at hcell HI2;have hk0:(0:Int)<=(k:Int):=ya;have hkL:(k:Int)<(L:Int):=ya;clear hc hy HI
    cases heq:(y.toList==x.toList) with
    | true=>
      rw[heq,if_pos rfl]at HI2;have HW2:O (wrap64 (wrap64 ((L:Int)-1)-(k:Int))=TG):=by show _=_;rw[HW1.o,<-HI2.o];have:=HL.o;unfold wrap64;omega
      go_wp2_with fail
      go_ret;rw[HW2.o];exact⟨rfl,rfl⟩
    | false=>
      rw[heq,if_neg yk]at HI2;have HW2:O (wrap64 ((k:Int)-1)=(k:Int)-1):=uv;go_wp2_with fail
      rw[HW2.o];exact⟨⟨k,_,rfl,rfl,ya,HI2,trivial⟩,by simp only[intOf];omega⟩
end
end Go.Proofs.YtbbffkiobmbkfaaGreatDoor
