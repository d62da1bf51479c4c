import Derived.Test.YtbbffkiobmbkfaaGreatDoorPkV33
open Go.Proofs.Tryz
open Go.Value Go.IntKind
set_option maxHeartbeats 8000000
set_option maxRecDepth 100000
namespace Go.Proofs.YtbbffkiobmbkfaaGreatDoor
open Go.RowKit
variable {is:List In}{B Fb bc cc k oc:Nat}{x0 x1 x2:Value}{W X:World}
section
open Go.RowKit
end
section
open Go.RowKit Go.Conc
def CodeAt (W0:World) (bc oc cc:Nat) (is:List In):Prop:=bc<W0.heap.size/\InsAt W0 bc oc is/\is.length<=cc/\is.length<=1500/\ ∀i∈is,i.ok=true
theorem z29 {a:Addr}{v:Value}(h:W.cell? a=some v):a.block<W.heap.size:=by
 unfold World.cell? at h;split at h
 .rename_i e;obtain⟨hlt,_⟩:=Array.getElem?_eq_some_iff.mp e;exact hlt
 .cases h
theorem z76 (n v p a b:Int) (w:World) (h1:wrap64 (n+a)=n+a) (h2:wrap64 (v+b)=v+b) :
 Calls prog 149 #[.agg #[int i64 n,int i64 v,int i64 p],int i64 a,int i64 b] w fun e w'=> e=.returned (.agg #[int i64 (n+a),int i64 (v+b),int i64 p])/\Below w.heap.size w w':= by
 go_enter func149,ntmps149
 go_wp2_with fail
 refine bodyPost_ret (by simp[results,go_sem];exact rfl) rfl ?_;exact⟨rfl,(Lb.alloc La _).alloc yq _⟩
theorem z79 (n:Int) (w:World) :
 Calls prog 150 #[int i64 n] w fun e w'=> e=.returned (.agg #[int i64 n,int i64 0,int i64 2])/\Below w.heap.size w w':= by
 go_enter func150,ntmps150
 go_wp2_with fail
 refine bodyPost_ret (by simp[results,go_sem];exact rfl) rfl ?_;exact⟨rfl,Lb.alloc La _⟩
def ClauseP (bc oc k B:Nat) (W:World) (e:Ending) (W':World):Prop:= ∃ad cp,e=.returned (.slice ad B cp)/\(0<B->ad=some ⟨bc,oc+(k+1)*4,none⟩)/\Below W.heap.size W W'
theorem tabClauses_calls {N:Nat}(hF:W.cell? ⟨Fb,0,none⟩=some (.slice (some ⟨bc,oc,none⟩) N cc)) (hc2:W.cell? ⟨bc,oc+k*4+2,none⟩=some (int i64 (B:Int))) (hk:k+B<N) (hcc:N<=cc) (hN:N<=1500) :
 Calls prog 170 #[.pointer (some ⟨Fb,0,none⟩),int i64 (k:Int)] W (ClauseP bc oc k B W):=by
 have hFl:=z29 hF;have hbl:=z29 hc2;have p0:∀y:Later W.heap.size W,y.w.cell? ⟨Fb,0,none⟩=_:=fun y=>y.cell hFl hF
 have p2:∀y:Later W.heap.size W,y.w.cell? ⟨bc,oc+k*4+2,none⟩=_:=fun y=>y.cell hbl hc2
 obtain⟨kn,hkn⟩:∃kn:Nat,k+1=kn:=⟨_,rfl⟩
 have w1:wrap64 ((k:Int)+1)=(kn:Int):=zf;have q0:(0:Int)<=(k:Int):=ya;have q1:(k:Int)<(N:Int):=ya;have q2:(0:Int)<=(kn:Int):=ya;have q3:(kn:Int)<=(N:Int):=ya;have q4:(kn:Int)<=(cc:Int):=ya;have q4':(N:Int)<=(cc:Int):=ya;have q5:(0:Int)<=(B:Int):=ya;have q6:(B:Int)<=((cc-kn:Nat):Int):=ya;have HB:O (k+B<N/\N<=cc/\k+1=kn):=⟨hk,hcc,hkn⟩
 clear hF hc2 hk hcc hN hFl hbl hkn;go_enter func170,ntmps170
 go_wp2_with fail
 refine z28 W.heap.size ye ye ?_;repeat(go_big_quiet_step (fail))
 obtain⟨ad,had⟩:∃ad,(if cc=kn then some (⟨bc,oc,none⟩:Addr) else some ⟨bc,oc+kn*4,none⟩)=ad:=⟨_,rfl⟩
 rw[had];have HA:=U had;clear had;refine wpQuiet_nil ?_;rintro w5 ⟨y,rfl⟩;have HY:=U y.h;generalize y.w=W1 at*;clear p0 p2;go_wp2_with fail
 go_ret;refine⟨_,_,rfl,fun hB=>?_,HY.o⟩;rw[<-HA.o,if_neg uw,HB.o.2.2]
theorem linesI_len (hB:(is.getD k default).b=(B:Int)) (hk:k+B<is.length):(clausesZ is (k:Int)).length=B:=by
 unfold clausesZ;rw[Lp,hB,Lp,List.length_take,List.length_drop];omega
theorem linesI_next {j:Nat}(hB:(is.getD k default).b=(B:Int)) (hk:k+B<is.length) (hj:j<B):(clausesZ is (k:Int)).take (j+1)=(clausesZ is (k:Int)).take j++ [is.getD (k+(j+1)) default]:=by
 have hl:=linesI_len hB hk;have e:(clausesZ is (k:Int))[j]?=some (is.getD (k+(j+1)) default):=by
  unfold clausesZ;rw[Lp,hB,Lp,List.getElem?_take_of_lt hj,List.getElem?_drop,List.getD_eq_getElem?_getD,show k+1+j=k+(j+1) by omega,Lr ya];rfl
 rw[List.take_add_one,e];rfl
def BoolP (b:Bool) (W:World) (e:Ending) (W':World):Prop:=e=.returned (.bool b)/\Below W.heap.size W W'
theorem isTable_calls (hF:W.cell? ⟨Fb,0,none⟩=some (.slice (some ⟨bc,oc,none⟩) is.length cc)) (hin:InsAt W bc oc is) (hbc:bc<W.heap.size) (hcc:is.length<=cc) (hN:is.length<=1500) (hall:∀i∈is,i.ok=true) (a:Int) (ha:0<=a) (ha1:a<=65535) :
 Calls prog 148 #[.pointer (some ⟨Fb,0,none⟩),int i64 a] W (BoolP (tableZ is a) W):=by
 have hFl:=z29 hF;have p0:∀y:Later W.heap.size W,y.w.cell? ⟨Fb,0,none⟩=_:=fun y=>y.cell hFl hF
 have HF:=U hF;have HN:=U (Lc hN hcc);have HIn:=U (Lc hin hbc);by_cases t1:(is.length:Int)<=a
 ·have HT:O (tableZ is a=false):=by
   show _=_;unfold tableZ;rw[decide_eq_false ya];rfl
  have t1d:decide ((is.length:Int)<=a)=true:=decide_eq_true t1;clear hF hin hbc hcc hN hall ha ha1 hFl;go_enter func148,ntmps148
  go_wp2_with fail
  refine z28 W.heap.size ye ye ?_;repeat(go_big_quiet_step (fail))
  refine wpQuiet_nil ?_;rintro w5 ⟨y,rfl⟩;have HY:=U y.h;generalize y.w=W1 at*;go_wp2_with fail
  go_ret;refine⟨?_,HY.o⟩;rw[HT.o];rfl
 obtain⟨k,rfl⟩:∃k:Nat,a=(k:Int):=⟨a.toNat,ya⟩
 have hk:k<is.length:=ya;have hok:=all_ok hall hk;have c0:=hin k hk 0 ya;have c2:=hin k hk 2 ya;obtain⟨i,hi⟩:∃i,is.getD k default=i:=⟨_,rfl⟩
 rw[hi]at c0 c2 hok;obtain⟨op,a1,b1,c1v⟩:=i;simp only[In.cell,Nat.add_zero]at c0 c2;have p1:∀y:Later W.heap.size W,y.w.cell? ⟨bc,oc+k*4,none⟩=_:=fun y=>y.cell hbc c0
 have p2:∀y:Later W.heap.size W,y.w.cell? ⟨bc,oc+k*4+2,none⟩=_:=fun y=>y.cell hbc c2
 have HI:=U hi;have HOk:=U hok;have HC2:=U c2;have HTb:O (tableZ is (k:Int)=(decide ((k:Int)<(is.length:Int)) && (decide (op=24) && (decide (b1<=4) && (decide (b1<(is.length:Int)-k) && (clausesZ is k).all (fun i=>decide (i.op=25))))))):=by
  show _=_;unfold tableZ;rw[Lp,hi]
 have q1:(0:Int)<=(k:Int):=ya;have t1d:decide ((is.length:Int)<=(k:Int))=false:=decide_eq_false t1;have t1n:decide (is.length<=k)=false:=decide_eq_false ya;have hws:wrap64 ((is.length:Int)-(k:Int))=(is.length:Int)-k:=zf;clear hF hin hbc hcc hN hall ha ha1 hFl c0 c2 hi hok t1;have t1:(k:Int)<(is.length:Int):=ya;by_cases t2:op=24
 case neg=>
  have HT:O (tableZ is (k:Int)=false):=by
   show _=_;rw[HTb.o,decide_eq_false t2];simp
  have t2':(op !=24)=true:=by simp[t2]
  clear t2;go_enter func148,ntmps148
  go_wp2_with fail
  refine z28 W.heap.size ye ye ?_;repeat(go_big_quiet_step (fail))
  refine wpQuiet_nil ?_;rintro w5 ⟨y,rfl⟩;have HY:=U y.h;generalize y.w=W1 at*;go_wp2_with fail
  go_ret;refine⟨?_,HY.o⟩;rw[HT.o];rfl
 subst t2;have t2':((24:Int) !=24)=false:=rfl;have hb1:0<=b1/\b1<=65535:=by
  have:=ok_nums HOk.o qf qf qf;exact⟨this.2.2.1,this.2.2.2.1⟩
 have HB1:=U hb1;clear hb1;by_cases t3:4<b1
 ·have t3d:decide (4<b1)=true:=decide_eq_true t3;have HT:O (tableZ is (k:Int)=false):=by
   show _=_;rw[HTb.o,decide_eq_false (show ¬ b1<=4 by omega)];simp
  go_enter func148,ntmps148
  go_wp2_with fail
  refine z28 W.heap.size ye ye ?_;repeat(go_big_quiet_step (fail))
  refine wpQuiet_nil ?_;rintro w5 ⟨y,rfl⟩;have HY:=U y.h;generalize y.w=W1 at*;go_wp2_with fail
  go_ret;refine⟨?_,HY.o⟩;rw[HT.o];rfl
 have t3d:decide (4<b1)=false:=decide_eq_false t3;by_cases t4:(is.length:Int)-k<=b1
 ·have t4d:decide ((is.length:Int)-(k:Int)<=b1)=true:=decide_eq_true t4;have HT:O (tableZ is (k:Int)=false):=by
   show _=_;rw[HTb.o,decide_eq_false (show ¬ b1<(is.length:Int)-k by omega)];simp
  go_enter func148,ntmps148
  go_wp2_with fail
  refine z28 W.heap.size ye ye ?_;repeat(go_big_quiet_step (fail))
  refine wpQuiet_nil ?_;rintro w5 ⟨y,rfl⟩;have HY:=U y.h;generalize y.w=W1 at*;go_wp2_with fail
  go_ret;refine⟨?_,HY.o⟩;rw[HT.o];rfl
 have t4d:decide ((is.length:Int)-(k:Int)<=b1)=false:=decide_eq_false t4;obtain⟨B,hBz⟩:∃B:Nat,b1=(B:Int):=⟨b1.toNat,by have:=HB1.o;omega⟩
 have HBk:O (b1=(B:Int)/\k+B<is.length/\B<=4):=⟨hBz,ya,ya⟩
 clear hBz t3 t4;go_enter func148,ntmps148
 go_wp2_with fail
 refine z28 W.heap.size ye ye ?_;repeat(go_big_quiet_step (fail))
 refine wpQuiet_nil ?_;rintro w5 ⟨y,rfl⟩;have HY:=U y.h;generalize y.w=W1 at*;have hF1:=(HY.o.cell (z29 HF.o)).trans HF.o;have hin1:=HIn.o.1.below HY.o HIn.o.2;have hc21:=(HY.o.cell (z29 HC2.o)).trans HC2.o;rw[HBk.o.1]at hc21;have HCl:=U (tabClauses_calls hF1 hc21 HBk.o.2.1 HN.o.2 HN.o.1);clear p0 p1 p2 hF1 hc21;have HIn1:=U hin1;clear hin1;go_wp2_with fail
 refine HCl.o.mono ?_;rintro e W2 ⟨ad,cp,rfl,had,hb2⟩;have HAd:=U had;have HY2:=U (HY.o.trans (hb2.mono HY.o.size));have HIn2:=U (HIn1.o.below hb2 (Le HIn.o.2 HY.o.size));clear had hb2 HCl HIn1;go_wp2_with fail
 have HL:O (∀j,j<B->(clausesZ is (k:Int)).take (j+1)=(clausesZ is (k:Int)).take j++ [is.getD (k+(j+1)) default]):=fun j hj=>linesI_next (by rw[HI.o];exact HBk.o.1) HBk.o.2.1 hj
 have HLl:O ((clausesZ is (k:Int)).length=B):=linesI_len (by rw[HI.o];exact HBk.o.1) HBk.o.2.1;go_loopw [58] (fun i wr=> ∃(j:Nat),i=int i64 (j:Int)/\j<=B/\O (Below W2.heap.size W2 wr)/\O (∀c∈(clausesZ is (k:Int)).take j,c.op=25)) (fun i _=>B-(intOf i).toNat)
 case atStart=>exact⟨0,rfl,Li _,Lb,fun c hc=>absurd hc yq⟩
 case round=>
  obtain⟨j,rfl,hj,HBr,HAr⟩:=hrel;by_cases hlt:(j:Int)<(B:Int)
  .have hjB:j<B:=by omega
   have hkj:k+(j+1)<is.length:=yck;have hinW:=HIn2.o.below HBr.o (Le HIn.o.2 HY2.o.size);have f0:=hinW (k+(j+1)) hkj 0 ya;have f1:=hinW (k+(j+1)) hkj 1 ya;have f2:=hinW (k+(j+1)) hkj 2 ya;have f3:=hinW (k+(j+1)) hkj 3 ya;have hnx:=HL.o j hjB;have hmem:is.getD (k+(j+1)) default∈clausesZ is (k:Int):=by
    have h1:is.getD (k+(j+1)) default∈(clausesZ is (k:Int)).take (j+1):=by rw[hnx];simp
    exact List.mem_of_mem_take h1
   obtain⟨⟨fop,fa,fb,fc⟩,hf⟩:∃i,is.getD (k+(j+1)) default=i:=⟨_,rfl⟩
   rw[hf]at f0 f1 f2 f3 hnx hmem;have eo:oc+(k+(j+1))*4=oc+(k+1)*4+j*4:=ya;rw[eo]at f0 f1 f2 f3;simp only[In.cell,Nat.add_zero]at f0 f1 f2 f3;have had:=HAd.o ya;subst had;have hj0:(0:Int)<=(j:Int):=ya;have hst:B-(intOf (int i64 ((j+1:Nat):Int))).toNat<B-(intOf (int i64 (j:Int))).toNat:=yu;have HNx:=U hnx;have HMm:=U hmem;have HSt:=U hst;have HJB:=U hjB;obtain⟨off,hoff⟩:∃off,oc+(k+1)*4=off:=⟨_,rfl⟩
   rw[hoff]at f0 f1 f2 f3 |-;clear hnx hmem hf hinW hst eo hkj hjB hj hoff;by_cases hop:fop=25
   case neg=>
    have hop':(fop !=25)=true:=by simp[hop]
    have HT:O (tableZ is (k:Int)=false):=by
     show _=_;rw[HTb.o];have:(clausesZ is (k:Int)).all (fun i=>decide (i.op=25))=false:=by
      rw[Bool.eq_false_iff];intro he;exact hop (of_decide_eq_true (List.all_eq_true.1 he _ HMm.o))
     rw[this];simp
    clear hop;go_wp2_with fail
    go_ret;refine⟨?_,(HY2.o.trans (HBr.o.mono HY2.o.size)).alloc (by have:=HY2.o.size;have:=HBr.o.size;omega) _⟩;rw[HT.o];rfl
   subst hop;go_wp2_with fail
   try rw[wrap_inc HJB.o yck]
   refine⟨⟨j+1,rfl,HJB.o,HBr.o.alloc HBr.o.size _,fun c hc=>?_⟩,HSt.o⟩;rw[HNx.o,List.mem_append,Ls]at hc;rcases hc with hc|rfl
   .exact HAr.o c hc
   .rfl
  .have hjB:j=B:=by omega
   have HT:O (tableZ is (k:Int)=true):=by
    show _=_;rw[HTb.o];have h1:=HBk.o;have h2:(clausesZ is (k:Int)).all (fun i=>decide (i.op=25))=true:=List.all_eq_true.2 (fun c hc=>decide_eq_true (HAr.o c (by rw[hjB,List.take_of_length_le (by rw[HLl.o];exact La)];exact hc)));rw[h2,decide_eq_true (show(k:Int)<(is.length:Int) by omega),decide_eq_true (show b1<=4 by omega),decide_eq_true (show b1<(is.length:Int)-k by omega)];rfl
   clear hjB hj;go_wp2_with fail
   go_ret;refine⟨?_,HY2.o.trans (HBr.o.mono HY2.o.size)⟩;rw[HT.o];rfl
theorem z35 (W:World) (o o':Obj):Below W.heap.size W ((W.alloc o).alloc o'):=(Lb.alloc La _).alloc yq _
theorem needs_0 (is:List In) (Fb:Nat) (a b c n v p:Int) (W:World) :
 Calls prog 113 #[.pointer (some ⟨Fb,0,none⟩),.agg #[int i64 0,int i64 a,int i64 b,int i64 c],.agg #[int i64 n,int i64 v,int i64 p]] W (BoolP (needsZ is ⟨0,a,b,c⟩ ⟨n,v,p⟩) W):=by
 have hz:needsZ is ⟨0,a,b,c⟩ ⟨n,v,p⟩=decide (v=1/\p=1):=gd;rw[hz];clear hz;by_cases h1:v=1
 .subst h1;by_cases h2:p=1
  .subst h2;go_enter func113,ntmps113
   go_wp2_with fail
   go_ret;exact⟨rfl,z35 _ _ _⟩
  .have h2':(p==1)=false:=by simp[h2]
   rw[decide_eq_false (fun h=>h2 h.2)];clear h2;go_enter func113,ntmps113
   go_wp2_with fail
   go_ret;exact⟨rfl,z35 _ _ _⟩
 .have h1':(v==1)=false:=by simp[h1]
  rw[decide_eq_false (fun h=>h1 h.1)];clear h1;go_enter func113,ntmps113
  go_wp2_with fail
  go_ret;exact⟨rfl,z35 _ _ _⟩
theorem needs_1 (is:List In) (Fb:Nat) (a b c n v p:Int) (W:World) :
 Calls prog 113 #[.pointer (some ⟨Fb,0,none⟩),.agg #[int i64 1,int i64 a,int i64 b,int i64 c],.agg #[int i64 n,int i64 v,int i64 p]] W (BoolP (needsZ is ⟨1,a,b,c⟩ ⟨n,v,p⟩) W):=by
 have hz:needsZ is ⟨1,a,b,c⟩ ⟨n,v,p⟩=true:=gd;rw[hz];clear hz;go_enter func113,ntmps113
 go_wp2_with fail
 go_ret;exact⟨rfl,z35 _ _ _⟩
theorem needs_2 (is:List In) (Fb:Nat) (a b c n v p:Int) (W:World) :
 Calls prog 113 #[.pointer (some ⟨Fb,0,none⟩),.agg #[int i64 2,int i64 a,int i64 b,int i64 c],.agg #[int i64 n,int i64 v,int i64 p]] W (BoolP (needsZ is ⟨2,a,b,c⟩ ⟨n,v,p⟩) W):=by
 have hz:needsZ is ⟨2,a,b,c⟩ ⟨n,v,p⟩=true:=gd;rw[hz];clear hz;go_enter func113,ntmps113
 go_wp2_with fail
 go_ret;exact⟨rfl,z35 _ _ _⟩
theorem needs_3 (is:List In) (Fb:Nat) (a b c n v p:Int) (W:World) :
 Calls prog 113 #[.pointer (some ⟨Fb,0,none⟩),.agg #[int i64 3,int i64 a,int i64 b,int i64 c],.agg #[int i64 n,int i64 v,int i64 p]] W (BoolP (needsZ is ⟨3,a,b,c⟩ ⟨n,v,p⟩) W):=by
 have hz:needsZ is ⟨3,a,b,c⟩ ⟨n,v,p⟩=true:=gd;rw[hz];clear hz;go_enter func113,ntmps113
 go_wp2_with fail
 go_ret;exact⟨rfl,z35 _ _ _⟩
theorem needs_4 (is:List In) (Fb:Nat) (a b c n v p:Int) (W:World) :
 Calls prog 113 #[.pointer (some ⟨Fb,0,none⟩),.agg #[int i64 4,int i64 a,int i64 b,int i64 c],.agg #[int i64 n,int i64 v,int i64 p]] W (BoolP (needsZ is ⟨4,a,b,c⟩ ⟨n,v,p⟩) W):=by
 have hz:needsZ is ⟨4,a,b,c⟩ ⟨n,v,p⟩=true:=gd;rw[hz];clear hz;go_enter func113,ntmps113
 go_wp2_with fail
 go_ret;exact⟨rfl,z35 _ _ _⟩
theorem needs_5 (is:List In) (Fb:Nat) (a b c n v p:Int) (W:World) :
 Calls prog 113 #[.pointer (some ⟨Fb,0,none⟩),.agg #[int i64 5,int i64 a,int i64 b,int i64 c],.agg #[int i64 n,int i64 v,int i64 p]] W (BoolP (needsZ is ⟨5,a,b,c⟩ ⟨n,v,p⟩) W):=by
 have hz:needsZ is ⟨5,a,b,c⟩ ⟨n,v,p⟩=decide (a<n):=gd;rw[hz];clear hz;go_enter func113,ntmps113
 go_wp2_with fail
 go_ret;exact⟨rfl,z35 _ _ _⟩
theorem needs_6 (is:List In) (Fb:Nat) (a b c n v p:Int) (W:World) :
 Calls prog 113 #[.pointer (some ⟨Fb,0,none⟩),.agg #[int i64 6,int i64 a,int i64 b,int i64 c],.agg #[int i64 n,int i64 v,int i64 p]] W (BoolP (needsZ is ⟨6,a,b,c⟩ ⟨n,v,p⟩) W):=by
 have hz:needsZ is ⟨6,a,b,c⟩ ⟨n,v,p⟩=true:=gd;rw[hz];clear hz;go_enter func113,ntmps113
 go_wp2_with fail
 go_ret;exact⟨rfl,z35 _ _ _⟩
theorem needs_7 (is:List In) (Fb:Nat) (a b c n v p:Int) (W:World) :
 Calls prog 113 #[.pointer (some ⟨Fb,0,none⟩),.agg #[int i64 7,int i64 a,int i64 b,int i64 c],.agg #[int i64 n,int i64 v,int i64 p]] W (BoolP (needsZ is ⟨7,a,b,c⟩ ⟨n,v,p⟩) W):=by
 have hz:needsZ is ⟨7,a,b,c⟩ ⟨n,v,p⟩=true:=gd;rw[hz];clear hz;go_enter func113,ntmps113
 go_wp2_with fail
 go_ret;exact⟨rfl,z35 _ _ _⟩
theorem needs_8 (is:List In) (Fb:Nat) (a b c n v p:Int) (W:World) :
 Calls prog 113 #[.pointer (some ⟨Fb,0,none⟩),.agg #[int i64 8,int i64 a,int i64 b,int i64 c],.agg #[int i64 n,int i64 v,int i64 p]] W (BoolP (needsZ is ⟨8,a,b,c⟩ ⟨n,v,p⟩) W):=by
 have hz:needsZ is ⟨8,a,b,c⟩ ⟨n,v,p⟩=decide (2<=v):=gd;rw[hz];clear hz;go_enter func113,ntmps113
 go_wp2_with fail
 go_ret;exact⟨rfl,z35 _ _ _⟩
theorem needs_9 (is:List In) (Fb:Nat) (a b c n v p:Int) (W:World) :
 Calls prog 113 #[.pointer (some ⟨Fb,0,none⟩),.agg #[int i64 9,int i64 a,int i64 b,int i64 c],.agg #[int i64 n,int i64 v,int i64 p]] W (BoolP (needsZ is ⟨9,a,b,c⟩ ⟨n,v,p⟩) W):=by
 have hz:needsZ is ⟨9,a,b,c⟩ ⟨n,v,p⟩=decide (v=1/\p=2):=gd;rw[hz];clear hz;by_cases h1:v=1
 .subst h1;by_cases h2:p=2
  .subst h2;go_enter func113,ntmps113
   go_wp2_with fail
   go_ret;exact⟨rfl,z35 _ _ _⟩
  .have h2':(p==2)=false:=by simp[h2]
   rw[decide_eq_false (fun h=>h2 h.2)];clear h2;go_enter func113,ntmps113
   go_wp2_with fail
   go_ret;exact⟨rfl,z35 _ _ _⟩
 .have h1':(v==1)=false:=by simp[h1]
  rw[decide_eq_false (fun h=>h1 h.1)];clear h1;go_enter func113,ntmps113
  go_wp2_with fail
  go_ret;exact⟨rfl,z35 _ _ _⟩
theorem needs_10 (is:List In) (Fb:Nat) (a b c n v p:Int) (W:World) :
 Calls prog 113 #[.pointer (some ⟨Fb,0,none⟩),.agg #[int i64 10,int i64 a,int i64 b,int i64 c],.agg #[int i64 n,int i64 v,int i64 p]] W (BoolP (needsZ is ⟨10,a,b,c⟩ ⟨n,v,p⟩) W):=by
 have hz:needsZ is ⟨10,a,b,c⟩ ⟨n,v,p⟩=decide (1<=v):=gd;rw[hz];clear hz;go_enter func113,ntmps113
 go_wp2_with fail
 go_ret;exact⟨rfl,z35 _ _ _⟩
theorem needs_11 (is:List In) (Fb:Nat) (a b c n v p:Int) (W:World) :
 Calls prog 113 #[.pointer (some ⟨Fb,0,none⟩),.agg #[int i64 11,int i64 a,int i64 b,int i64 c],.agg #[int i64 n,int i64 v,int i64 p]] W (BoolP (needsZ is ⟨11,a,b,c⟩ ⟨n,v,p⟩) W):=by
 have hz:needsZ is ⟨11,a,b,c⟩ ⟨n,v,p⟩=true:=gd;rw[hz];clear hz;go_enter func113,ntmps113
 go_wp2_with fail
 go_ret;exact⟨rfl,z35 _ _ _⟩
theorem needs_12 (is:List In) (Fb:Nat) (a b c n v p:Int) (W:World) :
 Calls prog 113 #[.pointer (some ⟨Fb,0,none⟩),.agg #[int i64 12,int i64 a,int i64 b,int i64 c],.agg #[int i64 n,int i64 v,int i64 p]] W (BoolP (needsZ is ⟨12,a,b,c⟩ ⟨n,v,p⟩) W):=by
 have hz:needsZ is ⟨12,a,b,c⟩ ⟨n,v,p⟩=decide (1<=v):=gd;rw[hz];clear hz;go_enter func113,ntmps113
 go_wp2_with fail
 go_ret;exact⟨rfl,z35 _ _ _⟩
theorem needs_13 (is:List In) (Fb:Nat) (a b c n v p:Int) (W:World) :
 Calls prog 113 #[.pointer (some ⟨Fb,0,none⟩),.agg #[int i64 13,int i64 a,int i64 b,int i64 c],.agg #[int i64 n,int i64 v,int i64 p]] W (BoolP (needsZ is ⟨13,a,b,c⟩ ⟨n,v,p⟩) W):=by
 have hz:needsZ is ⟨13,a,b,c⟩ ⟨n,v,p⟩=decide (1<=n):=gd;rw[hz];clear hz;go_enter func113,ntmps113
 go_wp2_with fail
 go_ret;exact⟨rfl,z35 _ _ _⟩
theorem needs_14 (is:List In) (Fb:Nat) (a b c n v p:Int) (W:World) :
 Calls prog 113 #[.pointer (some ⟨Fb,0,none⟩),.agg #[int i64 14,int i64 a,int i64 b,int i64 c],.agg #[int i64 n,int i64 v,int i64 p]] W (BoolP (needsZ is ⟨14,a,b,c⟩ ⟨n,v,p⟩) W):=by
 have hz:needsZ is ⟨14,a,b,c⟩ ⟨n,v,p⟩=decide (2<=v):=gd;rw[hz];clear hz;go_enter func113,ntmps113
 go_wp2_with fail
 go_ret;exact⟨rfl,z35 _ _ _⟩
theorem needs_15 (is:List In) (Fb:Nat) (a b c n v p:Int) (W:World) :
 Calls prog 113 #[.pointer (some ⟨Fb,0,none⟩),.agg #[int i64 15,int i64 a,int i64 b,int i64 c],.agg #[int i64 n,int i64 v,int i64 p]] W (BoolP (needsZ is ⟨15,a,b,c⟩ ⟨n,v,p⟩) W):=by
 have hz:needsZ is ⟨15,a,b,c⟩ ⟨n,v,p⟩=decide (2<=v):=gd;rw[hz];clear hz;go_enter func113,ntmps113
 go_wp2_with fail
 go_ret;exact⟨rfl,z35 _ _ _⟩
theorem needs_16 (is:List In) (Fb:Nat) (a b c n v p:Int) (W:World) :
 Calls prog 113 #[.pointer (some ⟨Fb,0,none⟩),.agg #[int i64 16,int i64 a,int i64 b,int i64 c],.agg #[int i64 n,int i64 v,int i64 p]] W (BoolP (needsZ is ⟨16,a,b,c⟩ ⟨n,v,p⟩) W):=by
 have hz:needsZ is ⟨16,a,b,c⟩ ⟨n,v,p⟩=decide (1<=v):=gd;rw[hz];clear hz;go_enter func113,ntmps113
 go_wp2_with fail
 go_ret;exact⟨rfl,z35 _ _ _⟩
theorem needs_17 (is:List In) (Fb:Nat) (a b c n v p:Int) (W:World) :
 Calls prog 113 #[.pointer (some ⟨Fb,0,none⟩),.agg #[int i64 17,int i64 a,int i64 b,int i64 c],.agg #[int i64 n,int i64 v,int i64 p]] W (BoolP (needsZ is ⟨17,a,b,c⟩ ⟨n,v,p⟩) W):=by
 have hz:needsZ is ⟨17,a,b,c⟩ ⟨n,v,p⟩=decide (1<=v):=gd;rw[hz];clear hz;go_enter func113,ntmps113
 go_wp2_with fail
 go_ret;exact⟨rfl,z35 _ _ _⟩
theorem needs_18 (is:List In) (Fb:Nat) (a b c n v p:Int) (W:World) :
 Calls prog 113 #[.pointer (some ⟨Fb,0,none⟩),.agg #[int i64 18,int i64 a,int i64 b,int i64 c],.agg #[int i64 n,int i64 v,int i64 p]] W (BoolP (needsZ is ⟨18,a,b,c⟩ ⟨n,v,p⟩) W):=by
 have hz:needsZ is ⟨18,a,b,c⟩ ⟨n,v,p⟩=decide (2<=v):=gd;rw[hz];clear hz;go_enter func113,ntmps113
 go_wp2_with fail
 go_ret;exact⟨rfl,z35 _ _ _⟩
theorem needs_19 (is:List In) (Fb:Nat) (a b c n v p:Int) (W:World) :
 Calls prog 113 #[.pointer (some ⟨Fb,0,none⟩),.agg #[int i64 19,int i64 a,int i64 b,int i64 c],.agg #[int i64 n,int i64 v,int i64 p]] W (BoolP (needsZ is ⟨19,a,b,c⟩ ⟨n,v,p⟩) W):=by
 have hz:needsZ is ⟨19,a,b,c⟩ ⟨n,v,p⟩=decide (1<=v):=gd;rw[hz];clear hz;go_enter func113,ntmps113
 go_wp2_with fail
 go_ret;exact⟨rfl,z35 _ _ _⟩
theorem needs_20 (is:List In) (Fb:Nat) (a b c n v p:Int) (W:World) :
 Calls prog 113 #[.pointer (some ⟨Fb,0,none⟩),.agg #[int i64 20,int i64 a,int i64 b,int i64 c],.agg #[int i64 n,int i64 v,int i64 p]] W (BoolP (needsZ is ⟨20,a,b,c⟩ ⟨n,v,p⟩) W):=by
 have hz:needsZ is ⟨20,a,b,c⟩ ⟨n,v,p⟩=decide (1<=v):=gd;rw[hz];clear hz;go_enter func113,ntmps113
 go_wp2_with fail
 go_ret;exact⟨rfl,z35 _ _ _⟩
theorem needs_21 (is:List In) (Fb:Nat) (a b c n v p:Int) (W:World) (hT:∀X,Below W.heap.size W X->Calls prog 148 #[.pointer (some ⟨Fb,0,none⟩),int i64 a] X (BoolP (tableZ is a) X)) :
 Calls prog 113 #[.pointer (some ⟨Fb,0,none⟩),.agg #[int i64 21,int i64 a,int i64 b,int i64 c],.agg #[int i64 n,int i64 v,int i64 p]] W (BoolP (needsZ is ⟨21,a,b,c⟩ ⟨n,v,p⟩) W):=by
 have hz:needsZ is ⟨21,a,b,c⟩ ⟨n,v,p⟩=tableZ is a:=gd;rw[hz];have HT:=U hT;clear hT hz;go_enter func113,ntmps113
 go_wp2_with fail
 refine(HT.o _ (z35 _ _ _)).mono ?_;rintro e X ⟨rfl,hb⟩;have HB:=U ((z35 W _ _).trans (hb.mono (z35 W _ _).size));clear hb;go_wp2_with fail
 go_ret;exact⟨rfl,HB.o⟩
theorem needs_22 (is:List In) (Fb:Nat) (a b c n v p:Int) (W:World) :
 Calls prog 113 #[.pointer (some ⟨Fb,0,none⟩),.agg #[int i64 22,int i64 a,int i64 b,int i64 c],.agg #[int i64 n,int i64 v,int i64 p]] W (BoolP (needsZ is ⟨22,a,b,c⟩ ⟨n,v,p⟩) W):=by
 have hz:needsZ is ⟨22,a,b,c⟩ ⟨n,v,p⟩=decide (1<=v):=gd;rw[hz];clear hz;go_enter func113,ntmps113
 go_wp2_with fail
 go_ret;exact⟨rfl,z35 _ _ _⟩
theorem needs_23 (is:List In) (Fb:Nat) (a b c n v p:Int) (W:World) :
 Calls prog 113 #[.pointer (some ⟨Fb,0,none⟩),.agg #[int i64 23,int i64 a,int i64 b,int i64 c],.agg #[int i64 n,int i64 v,int i64 p]] W (BoolP (needsZ is ⟨23,a,b,c⟩ ⟨n,v,p⟩) W):=by
 have hz:needsZ is ⟨23,a,b,c⟩ ⟨n,v,p⟩=decide (v=1/\p=3):=gd;rw[hz];clear hz;by_cases h1:v=1
 .subst h1;by_cases h2:p=3
  .subst h2;go_enter func113,ntmps113
   go_wp2_with fail
   go_ret;exact⟨rfl,z35 _ _ _⟩
  .have h2':(p==3)=false:=by simp[h2]
   rw[decide_eq_false (fun h=>h2 h.2)];clear h2;go_enter func113,ntmps113
   go_wp2_with fail
   go_ret;exact⟨rfl,z35 _ _ _⟩
 .have h1':(v==1)=false:=by simp[h1]
  rw[decide_eq_false (fun h=>h1 h.1)];clear h1;go_enter func113,ntmps113
  go_wp2_with fail
  go_ret;exact⟨rfl,z35 _ _ _⟩
theorem needs_24 (is:List In) (Fb:Nat) (a b c n v p:Int) (W:World) :
 Calls prog 113 #[.pointer (some ⟨Fb,0,none⟩),.agg #[int i64 24,int i64 a,int i64 b,int i64 c],.agg #[int i64 n,int i64 v,int i64 p]] W (BoolP (needsZ is ⟨24,a,b,c⟩ ⟨n,v,p⟩) W):=by
 have hz:needsZ is ⟨24,a,b,c⟩ ⟨n,v,p⟩=false:=gd;rw[hz];clear hz;go_enter func113,ntmps113
 go_wp2_with fail
 go_ret;exact⟨rfl,z35 _ _ _⟩
theorem needs_25 (is:List In) (Fb:Nat) (a b c n v p:Int) (W:World) :
 Calls prog 113 #[.pointer (some ⟨Fb,0,none⟩),.agg #[int i64 25,int i64 a,int i64 b,int i64 c],.agg #[int i64 n,int i64 v,int i64 p]] W (BoolP (needsZ is ⟨25,a,b,c⟩ ⟨n,v,p⟩) W):=by
 have hz:needsZ is ⟨25,a,b,c⟩ ⟨n,v,p⟩=false:=gd;rw[hz];clear hz;go_enter func113,ntmps113
 go_wp2_with fail
 go_ret;exact⟨rfl,z35 _ _ _⟩
theorem needs_calls (hF:W.cell? ⟨Fb,0,none⟩=some (.slice (some ⟨bc,oc,none⟩) is.length cc)) (hin:InsAt W bc oc is) (hbc:bc<W.heap.size) (hcc:is.length<=cc) (hN:is.length<=1500) (hall:∀i∈is,i.ok=true) (i:In) (hi:i.ok=true) (s:Sq) :
 Calls prog 113 #[.pointer (some ⟨Fb,0,none⟩),.agg #[int i64 i.op,int i64 i.a,int i64 i.b,int i64 i.c],.agg #[int i64 s.n,int i64 s.v,int i64 s.p]] W (BoolP (needsZ is i s) W):=by
 obtain⟨op,a,b,c⟩:=i;obtain⟨n,v,p⟩:=s;have ho:0<=op/\op<=25:=by
  unfold In.ok insOkZ at hi;split at hi
  .cases hi
  .rename_i hn;have h0:¬ manyZ op<0:=fun e=>hn (Or.inl e)
   unfold manyZ at h0;repeat' split at h0
   all_goals omega
 dsimp only;rcases ops_cases op with hz|hz
 .omega
 rcases hz with rfl|rfl|rfl|rfl|rfl|rfl|rfl|rfl|rfl|rfl|rfl|rfl|rfl|rfl|rfl|rfl|rfl|rfl|rfl|rfl|rfl|rfl|rfl|rfl|rfl|rfl
 .exact needs_0 is Fb a b c n v p W
 .exact needs_1 is Fb a b c n v p W
 .exact needs_2 is Fb a b c n v p W
 .exact needs_3 is Fb a b c n v p W
 .exact needs_4 is Fb a b c n v p W
 .exact needs_5 is Fb a b c n v p W
 .exact needs_6 is Fb a b c n v p W
 .exact needs_7 is Fb a b c n v p W
 .exact needs_8 is Fb a b c n v p W
 .exact needs_9 is Fb a b c n v p W
 .exact needs_10 is Fb a b c n v p W
 .exact needs_11 is Fb a b c n v p W
 .exact needs_12 is Fb a b c n v p W
 .exact needs_13 is Fb a b c n v p W
 .exact needs_14 is Fb a b c n v p W
 .exact needs_15 is Fb a b c n v p W
 .exact needs_16 is Fb a b c n v p W
 .exact needs_17 is Fb a b c n v p W
 .exact needs_18 is Fb a b c n v p W
 .exact needs_19 is Fb a b c n v p W
 .exact needs_20 is Fb a b c n v p W
 .have hn:=ok_nums hi qf qf qf;exact needs_21 is Fb a b c n v p W (fun X hX=>isTable_calls ((hX.cell (z29 hF)).trans hF) (hin.below hX hbc) (Le hbc hX.size) hcc hN hall a hn.1 hn.2.1)
 .exact needs_22 is Fb a b c n v p W
 .exact needs_23 is Fb a b c n v p W
 .exact needs_24 is Fb a b c n v p W
 .exact needs_25 is Fb a b c n v p W
def ExB (W:World) (g:Nat) (es:List (Int×Sq)):Prop:=
 ∃cur,W.heap[g]?=some (.cells cur 155)/\ ∀j,j<es.length->cur[j*4]?=some (int i64 (es.getD j (0,⟨0,0,0⟩)).1)/\cur[j*4+1]?=some (int i64 (es.getD j (0,⟨0,0,0⟩)).2.n)/\cur[j*4+2]?=some (int i64 (es.getD j (0,⟨0,0,0⟩)).2.v)/\cur[j*4+3]?=some (int i64 (es.getD j (0,⟨0,0,0⟩)).2.p)
def ExitsP (es:List (Int×Sq)) (W:World) (e:Ending) (W':World):Prop:=
 Below W.heap.size W W'/\ ∃ad c,e=.returned (.slice ad es.length c)/\(es= []\/ ∃g,ad=some ⟨g,0,none⟩/\ExB W' g es)
theorem exits_none {W':World}(hb:Below W.heap.size W W'):ExitsP [] W (.returned (.slice none 0 0)) W':= ⟨hb,none,0,rfl,Or.inl rfl⟩
theorem exits_one {t n v p:Int}{e:Int×Sq}(hb:Below W.heap.size W X) (he:e=(t,⟨n,v,p⟩)):ExitsP [e] W (.returned (.slice (some ⟨X.heap.size,0,none⟩) 1 1)) (X.alloc (.cells #[int i64 t,int i64 n,int i64 v,int i64 p] 155)):=by
 subst he;refine⟨hb.alloc hb.size _,_,1,rfl,Or.inr ⟨_,rfl,_,(Ld X _).1,fun j hj=>?_⟩⟩;obtain rfl:j=0:=by simpa using hj
 exact⟨rfl,rfl,rfl,rfl⟩
theorem exits_two {t n v p t' n' v' p':Int}{e e':Int×Sq}(hb:Below W.heap.size W X) (he:e=(t,⟨n,v,p⟩)) (he':e'= (t',⟨n',v',p'⟩)):ExitsP [e,e'] W (.returned (.slice (some ⟨X.heap.size,0,none⟩) 2 2)) (X.alloc (.cells #[int i64 t,int i64 n,int i64 v,int i64 p,int i64 t',int i64 n',int i64 v',int i64 p'] 155)):=by
 subst he he';refine⟨hb.alloc hb.size _,_,2,rfl,Or.inr ⟨_,rfl,_,(Ld X _).1,fun j hj=>?_⟩⟩;have hj':j=0\/j=1:=by simp at hj;omega
 rcases hj' with rfl|rfl
 .exact⟨rfl,rfl,rfl,rfl⟩
 .exact⟨rfl,rfl,rfl,rfl⟩
structure Boxed (W X:World) (b5 b6:Nat) (op a b c n v p:Int):Prop where
 bel:Below W.heap.size W X
 i:X.heap[b5]?=some (.cells #[int i64 op,int i64 a,int i64 b,int i64 c] 53)
 s:X.heap[b6]?=some (.cells #[int i64 n,int i64 v,int i64 p] 153)
def put4 (X:World) (g:Nat) (a b c d:Value):World:=(((X.setCell ⟨g,0,none⟩ a).setCell ⟨g,1,none⟩ b).setCell ⟨g,2,none⟩ c).setCell ⟨g,3,none⟩ d
def put3 (X:World) (g:Nat) (a b c:Value):World:=((X.setCell ⟨g,0,none⟩ a).setCell ⟨g,1,none⟩ b).setCell ⟨g,2,none⟩ c
theorem put4_is {g:Nat}{x3:Value}{t:TypeId}(h:X.heap[g]?=some (.cells #[x0,x1,x2,x3] t)) (a b c d:Value):(put4 X g a b c d).heap[g]?=some (.cells #[a,b,c,d] t)/\(∀q,q≠g->(put4 X g a b c d).heap[q]?=X.heap[q]?)/\(put4 X g a b c d).heap.size=X.heap.size/\(put4 X g a b c d).os=X.os/\(put4 X g a b c d).tape=X.tape/\(put4 X g a b c d).output=X.output:=by
 refine⟨by simp[put4,World.setCell,Array.getElem?_modify,h],fun q hq=>?_,ycl,ycl,ycl,ycl⟩;unfold put4;rw[Lg _ ⟨g,3,none⟩ _ q hq,Lg _ ⟨g,2,none⟩ _ q hq,Lg _ ⟨g,1,none⟩ _ q hq,Lg _ ⟨g,0,none⟩ _ q hq]
theorem put3_is {g:Nat}{t:TypeId}(h:X.heap[g]?=some (.cells #[x0,x1,x2] t)) (a b c:Value):(put3 X g a b c).heap[g]?=some (.cells #[a,b,c] t)/\(∀q,q≠g->(put3 X g a b c).heap[q]?=X.heap[q]?)/\(put3 X g a b c).heap.size=X.heap.size/\(put3 X g a b c).os=X.os/\(put3 X g a b c).tape=X.tape/\(put3 X g a b c).output=X.output:=by
 refine⟨by simp[put3,World.setCell,Array.getElem?_modify,h],fun q hq=>?_,ycm,ycm,ycm,ycm⟩;unfold put3;rw[Lg _ ⟨g,2,none⟩ _ q hq,Lg _ ⟨g,1,none⟩ _ q hq,Lg _ ⟨g,0,none⟩ _ q hq]
theorem two_newE (D:World) (o1 o2:Obj):((D.alloc o1).alloc o2).heap[D.heap.size]?=some o1/\((D.alloc o1).alloc o2).heap[D.heap.size+1]?=some o2:=by
 have h1:=(Ld D o1).1;have h2:=Ld (D.alloc o1) o2;have hs:(D.alloc o1).heap.size=D.heap.size+1:=yq;refine⟨(h2.2 _ ya).trans h1,?_⟩;have h3:=h2.1;rw[hs]at h3;exact h3
theorem boxed {b5 b6:Nat}{x3 y0 y1 y2:Value}(hb:Below W.heap.size W X) (h5:X.heap[b5]?=some (.cells #[x0,x1,x2,x3] 53)) (h6:X.heap[b6]?=some (.cells #[y0,y1,y2] 153)) (l5:W.heap.size<=b5) (l6:W.heap.size<=b6) (op a b c n v p:Int) :
 Boxed W (put3 (put4 X b5 (int i64 op) (int i64 a) (int i64 b) (int i64 c)) b6 (int i64 n) (int i64 v) (int i64 p)) b5 b6 op a b c n v p:=by
 have hne:b6≠b5:=fun e=>by
  subst e;rw[h5]at h6
  cases h6
 obtain⟨p1,p2,p3,p4,p5,p6⟩:=put4_is h5 (int i64 op) (int i64 a) (int i64 b) (int i64 c);obtain⟨q1,q2,q3,q4,q5,q6⟩:=put3_is ((p2 b6 hne).trans h6) (int i64 n) (int i64 v) (int i64 p);exact⟨⟨q4.trans (p4.trans hb.os),q5.trans (p5.trans hb.tape),q6.trans (p6.trans hb.output),by rw[q3,p3];exact hb.size,fun q hq=>(q2 q ya).trans ((p2 q ya).trans (hb.block q hq))⟩,(q2 b5 (Ne.symm hne)).trans p1,q1⟩
end
end Go.Proofs.YtbbffkiobmbkfaaGreatDoor
