import Derived.Test.YtbbffkiobmbkfaaGreatDoorPkV34
open Go.Proofs.Tryz
open Go.Value Go.IntKind
set_option maxHeartbeats 16000000
set_option maxRecDepth 100000
namespace Go.Proofs.YtbbffkiobmbkfaaGreatDoor
open Go.RowKit Go.Conc
variable {a b c n p v:Int}{es:List (Int×Sq)}{W X:World}
section
open Go.RowKit Go.Conc
theorem fl_slice {B:Nat}{e:TypeId}{sz:Nat}{v:Value}{n:Nat}{xs:List Value}(h:W.ownsRow B e sz v n xs):∃ad c,v=.slice ad n c:=by
 obtain⟨-,⟨rfl,rfl⟩|⟨g',cap,cur,rfl,-⟩⟩:=h
 .exact⟨_,_,rfl⟩
 .exact⟨_,_,rfl⟩
def exC (e:Int×Sq):List Value:= [int i64 e.1,int i64 e.2.n,int i64 e.2.v,int i64 e.2.p]
def rowE:List (Int×Sq)->List Value
 |[]=> []
 |e::r=>exC e++rowE r
theorem rowE_app:∀(a b:List (Int×Sq)),rowE (a++b)=rowE a++rowE b
 |[],_=>rfl
 |e::r,b=>by simp[rowE,rowE_app r b]
theorem rowE_get:∀(es:List (Int×Sq)) (j:Nat),j<es.length->(rowE es)[j*4]?=some (int i64 (es.getD j (0,⟨0,0,0⟩)).1)/\(rowE es)[j*4+1]?=some (int i64 (es.getD j (0,⟨0,0,0⟩)).2.n)/\(rowE es)[j*4+2]?=some (int i64 (es.getD j (0,⟨0,0,0⟩)).2.v)/\(rowE es)[j*4+3]?=some (int i64 (es.getD j (0,⟨0,0,0⟩)).2.p)
 |[],j,h=>absurd h yq
 |e::r,0,_=>⟨rfl,rfl,rfl,rfl⟩
 | e::r,j+1,h=>by
   have ih:=rowE_get r j zx;have e0:(j+1)*4=j*4+4:=ya;rw[e0];have sh:∀c,(rowE (e::r))[j*4+4+c]?=(rowE r)[j*4+c]? :=fun c=>by
    show(exC e++rowE r)[j*4+4+c]?=_;rw[List.getElem?_append_right (by simp[exC];omega)];congr 1
    simp[exC];omega
   have s0:=sh 0;simp only[Nat.add_zero]at s0;rw[s0,sh 1,sh 2,sh 3];exact ih
theorem exits_owns {v:Value}(hb:Below W.heap.size W X) (hr:X.ownsRow W.heap.size 155 4 v es.length (rowE es)):ExitsP es W (.returned v) X:=by
 refine⟨hb,?_⟩;obtain⟨h1,⟨rfl,h0⟩|⟨g,cap,cur,rfl,-,hg,-,-,-,ht⟩⟩:=hr
 .exact⟨none,0,qe,Or.inl (Lu h0)⟩
 ·refine⟨_,cap,rfl,Or.inr ⟨g,rfl,cur,hg,fun j hj=>?_⟩⟩;have hc:∀i,i<es.length*4->cur[i]?=(rowE es)[i]? :=fun i hi=>by
   rw[<-ht,List.getElem?_take_of_lt hi,Array.getElem?_toList]
  rw[hc _ ya,hc _ ya,hc _ ya,hc _ ya];exact rowE_get es j hj
theorem grown_cells {X5 X6:World}{B n:Nat}{va:Value}{xs:List Value}(hr:X5.ownsRow B 155 4 va n xs) (hg:X5.grownBy X6 va.ownBlock) {q:Nat}{cs:Array Value}{t:TypeId}(hq:X5.heap[q]?=some (.cells cs t)) (ht:t≠155):X6.heap[q]?=some (.cells cs t):=
 (hg.block q (z13 hq) (fun e=>by
  obtain⟨-,⟨rfl,-⟩|⟨g,cap,cur,rfl,-,hc,-⟩⟩:=hr
  .cases e
  .cases e;rw[hq]at hc
   cases hc;exact ht rfl)).trans hq
theorem info_exit:(prog.info? 155).map (fun i=>(i.zero,i.size,i.bytes))=some (some (.agg #[int i64 0,int i64 0,int i64 0,int i64 0]),4,32):=ye
theorem lit_cells (w:World) (l:List Value) (t:TypeId):∀j u,l[j]?=some u->(w.alloc (.cells l.toArray t)).cell? ((⟨w.heap.size,0,none⟩:Addr).add j)=some u:=fun j u hu=>by
 have e:((⟨w.heap.size,0,none⟩:Addr).add j)=⟨w.heap.size,j,none⟩:=by
  unfold Addr.add;split
  .rename_i h;subst h;rfl
  .simp
 rw[e,z11 (Ld w (.cells l.toArray t)).1 j];simpa using hu
structure Rw4 (W X:World) (b5 b6:Nat) (op a b c n v p:Int) (es:List (Int×Sq)) (ve:Value):Prop where
 bx:Boxed W X b5 b6 op a b c n v p
 row:X.ownsRow W.heap.size 155 4 ve es.length (rowE es)
theorem Rw4.below {X':World}{b5 b6:Nat}{op:Int}{ve:Value}(h:Rw4 W X b5 b6 op a b c n v p es ve) (hb:Below X.heap.size X X'):Rw4 W X' b5 b6 op a b c n v p es ve:=
 ⟨⟨h.bx.bel.trans (hb.mono h.bx.bel.size),(hb.block _ (z13 h.bx.i)).trans h.bx.i,(hb.block _ (z13 h.bx.s)).trans h.bx.s⟩,kept_owns h.row hb⟩
theorem Rw4.more {X1 X2:World}{b5 b6:Nat}{op:Int}{es':List (Int×Sq)}{ve ve':Value}(h:Rw4 W X b5 b6 op a b c n v p es ve) (hb:Below X.heap.size X X1) (ho:X2.ownsRow W.heap.size 155 4 ve' (es.length+es'.length) (rowE es++rowE es')) (hg:X1.grownBy X2 ve.ownBlock):Rw4 W X2 b5 b6 op a b c n v p (es++es') ve':= by
 have h1:=h.below hb;have ne:∀ {q:Nat} {cs:Array Value} {t:TypeId},X1.heap[q]?=some (.cells cs t)->t≠155->X2.heap[q]?=some (.cells cs t):=fun {q cs t} hq ht=>(hg.block q (z13 hq) (fun e=>by
  obtain⟨-,⟨rfl,-⟩|⟨g,cap,cur,rfl,-,hc,-⟩⟩:=h1.row
  .cases e
  .cases e;rw[hq]at hc
   cases hc;exact ht rfl)).trans hq
 have bl:Below W.heap.size W X2:=⟨hg.os.trans h1.bx.bel.os,hg.tape.trans h1.bx.bel.tape,hg.output.trans h1.bx.bel.output,Lf h1.bx.bel.size hg.size,fun q hq=>(hg.block q (Le hq h1.bx.bel.size) (fun e=>by
  obtain⟨-,⟨rfl,-⟩|⟨g,cap,cur,rfl,hB,-⟩⟩:=h1.row
  .cases e
  .cases e;have hq':g<W.heap.size:=hq;omega)).trans (h1.bx.bel.block q hq)⟩
 refine⟨⟨bl,ne h1.bx.i yk,ne h1.bx.s yk⟩,?_⟩;rw[Lk,rowE_app];exact ho
theorem handleI_calls {Fb bc oc cc gs N k:Nat}{is:List In}(hk0:(0:Int)<=(k:Int)) (hk1:(k:Int)<(N:Int)) (hkN:k<=1500) (hn0:0<=n) (hn1:n<=100) (hv0:0<=v) (hv1:v<=100) (f0:W.cell? ⟨Fb,0,none⟩=some (.slice (some ⟨bc,oc,none⟩) N cc)) (f1:W.cell? ⟨Fb,1,none⟩=some (.slice (some ⟨gs,0,none⟩) N N)) (f2:W.cell? ⟨bc,oc+k*4,none⟩=some (int i64 21)) (f3:W.cell? ⟨bc,oc+k*4+1,none⟩=some (int i64 a)) (f4:W.cell? ⟨bc,oc+k*4+2,none⟩=some (int i64 b)) (f5:W.cell? ⟨bc,oc+k*4+3,none⟩=some (int i64 c)) (f6:W.cell? ⟨gs,k*3,none⟩=some (int i64 n)) (f7:W.cell? ⟨gs,k*3+1,none⟩=some (int i64 v)) (f8:W.cell? ⟨gs,k*3+2,none⟩=some (int i64 p)) (hNi:N=is.length) (hin:InsAt W bc oc is) (hcc:N<=cc) (hN15:N<=1500) (hall:∀i∈is,i.ok=true) (hT:tableZ is a=true) (ha:0<=a) :
 Calls prog 151 #[.pointer (some ⟨Fb,0,none⟩),int i64 (k:Int)] W (ExitsP (handleZ is k ⟨21,a,b,c⟩ ⟨n,v,p⟩) W):=by
 subst hNi;obtain⟨t1,t2,t3,t4,t5⟩:=table_parts hT;obtain⟨ka,hka⟩:∃ka:Nat,a=(ka:Int):=⟨a.toNat,ya⟩
 have hkl:ka<is.length:=ya;have hti:=all_ok hall hkl;have hT1:=hin ka hkl 1 ya;have hT2:=hin ka hkl 2 ya;have e1:is.getD a.toNat default=is.getD ka default:=by rw[hka,Lp]
 rw[e1]at t2 t3 t4;obtain⟨⟨top,ta,tb,tc⟩,hie⟩:∃i,is.getD ka default=i:=⟨_,rfl⟩
 rw[hie]at hT1 hT2 hti t2 t3 t4;simp only[In.cell]at hT1 hT2;dsimp only at t2 t3 t4;subst t2;have hnum:=ok_nums hti qf qf qf;dsimp only at hnum;obtain⟨B,hB⟩:∃B:Nat,tb=(B:Int):=⟨tb.toNat,ya⟩
 subst hB;have HBk:O (ka+B<is.length/\B<=4/\is.length<=cc/\is.length<=1500/\a=(ka:Int)/\is.getD ka default=⟨24,ta,(B:Int),tc⟩/\bc<W.heap.size/\InsAt W bc oc is):=⟨ya,ya,hcc,hN15,hka,hie,z29 f2,hin⟩
 have HZ:O (handleZ is k ⟨21,a,b,c⟩ ⟨n,v,p⟩=((ta,(⟨n+1,0,2⟩:Sq))::(clausesZ is (ka:Int)).map (fun c=>(c.b,(⟨n+2,0,2⟩:Sq))))++ [((k:Int)+1,(⟨n,0,3⟩:Sq)),(c,⟨n+0,v+1,p⟩)]):=by
  show _=_;unfold handleZ;dsimp only;rw[e1,hie,hka];rfl
 have F0:=U f0;have FT:=U hT1;have FT2:=U hT2;have ha0:(0:Int)<=a:=ha;have ha1:a<(is.length:Int):=t1;have hat:a.toNat=ka:=by rw[hka,Lp]
 obtain⟨N,hNe⟩:∃N,is.length=N:=⟨_,rfl⟩
 have HNe:=U hNe;rw[hNe]at f0 f1 hk1 ha1 F0;clear t1 t3 t4 t5 hkl hti hT1 hT2 e1 hie hnum hin hcc hN15 hall hT ha hka hNe;refine zb67 ?_;intro w1 w2 w3 HM;clear hn0 hn1 hv0 hv1 hkN;go_enter func151,ntmps151
 go_wp2_with fail
 have hD:Below W.heap.size W W.drew:=Lb.drew
 have HCl:O (∀X,Below W.heap.size W X->(fun w':World=>w'.cell? ⟨Fb,0,none⟩=some (.slice (some ⟨bc,oc,none⟩) N cc)/\w'.cell? ⟨Fb,1,none⟩=some (.slice (some ⟨gs,0,none⟩) N N)/\w'.cell? ⟨bc,oc+k*4,none⟩=some (int i64 21)/\w'.cell? ⟨bc,oc+k*4+1,none⟩=some (int i64 a)/\w'.cell? ⟨bc,oc+k*4+2,none⟩=some (int i64 b)/\w'.cell? ⟨bc,oc+k*4+3,none⟩=some (int i64 c)/\w'.cell? ⟨gs,k*3,none⟩=some (int i64 n)/\w'.cell? ⟨gs,k*3+1,none⟩=some (int i64 v)/\w'.cell? ⟨gs,k*3+2,none⟩=some (int i64 p)) X):=fun X hX=>⟨(hX.cell (z29 f0)).trans f0,(hX.cell (z29 f1)).trans f1,(hX.cell (z29 f2)).trans f2,(hX.cell (z29 f3)).trans f3,(hX.cell (z29 f4)).trans f4,(hX.cell (z29 f5)).trans f5,(hX.cell (z29 f6)).trans f6,(hX.cell (z29 f7)).trans f7,(hX.cell (z29 f8)).trans f8⟩
 have hS:=HCl.o W.drew hD;refine z31 (S:=(fun w':World=>w'.cell? ⟨Fb,0,none⟩=some (.slice (some ⟨bc,oc,none⟩) N cc)/\w'.cell? ⟨Fb,1,none⟩=some (.slice (some ⟨gs,0,none⟩) N N)/\w'.cell? ⟨bc,oc+k*4,none⟩=some (int i64 21)/\w'.cell? ⟨bc,oc+k*4+1,none⟩=some (int i64 a)/\w'.cell? ⟨bc,oc+k*4+2,none⟩=some (int i64 b)/\w'.cell? ⟨bc,oc+k*4+3,none⟩=some (int i64 c)/\w'.cell? ⟨gs,k*3,none⟩=some (int i64 n)/\w'.cell? ⟨gs,k*3+1,none⟩=some (int i64 v)/\w'.cell? ⟨gs,k*3+2,none⟩=some (int i64 p))) ye rfl rfl ?_;refine pick_o 0 (.pointer (some ⟨Fb,0,none⟩)) hS ?_;refine pick_o 1 (.pointer (some ⟨Fb,0,none⟩)) hS ?_
 refine pick_o 2 (.pointer (some ⟨Fb,0,none⟩)) hS ?_;refine pick_o (hy:=fun w' h=>yh) 3 (.slice (some ⟨bc,oc,none⟩) N cc) hS ?_;refine pick_o 4 (int i64 (k:Int)) hS ?_;refine pick_o (hy:=fun w' _=>yaa) 5 (.pointer (some ⟨bc,oc+k*4,none⟩)) hS ?_;refine pick_o (hy:=fun w' h=>ycn) 6 (.agg #[int i64 21,int i64 a,int i64 b,int i64 c]) hS ?_;refine pick_o 7 (.pointer (some ⟨Fb,0,none⟩)) hS ?_;refine pick_o 8 (.pointer (some ⟨Fb,0,none⟩)) hS ?_;refine pick_o 9 (.pointer (some ⟨Fb,1,none⟩)) hS ?_;refine pick_o (hy:=fun w' h=>xh) 10 (.slice (some ⟨gs,0,none⟩) N N) hS ?_
 refine pick_o 11 (int i64 (k:Int)) hS ?_;refine pick_o (hy:=fun w' _=>yaa) 12 (.pointer (some ⟨gs,k*3,none⟩)) hS ?_;refine pick_o (hy:=fun w' h=>yco) 13 (.agg #[int i64 n,int i64 v,int i64 p]) hS ?_;refine pick_fork (i:=14) (j:=15) ye ?A ?B
 case' A=>
  have hB1:Below W.heap.size W (W.drew.alloc (.cells #[int i64 0,int i64 0,int i64 0,int i64 0] 53)):=hD.alloc hD.size _;have hB2:Below W.heap.size W ((W.drew.alloc (.cells #[int i64 0,int i64 0,int i64 0,int i64 0] 53)).alloc (.cells #[int i64 0,int i64 0,int i64 0] 153)):=hB1.alloc hB1.size _;refine⟨_,.pointer (some ⟨W.heap.size,0,none⟩),(W.drew.alloc (.cells #[int i64 0,int i64 0,int i64 0,int i64 0] 53)),rfl,rfl,yf,HCl.o _ hB1,?_⟩;refine z25 yg ?_
  refine z27 (i:=15) (v:=.pointer (some ⟨W.heap.size+1,0,none⟩)) (w1:=((W.drew.alloc (.cells #[int i64 0,int i64 0,int i64 0,int i64 0] 53)).alloc (.cells #[int i64 0,int i64 0,int i64 0] 153))) rfl ye rfl rfl yf (HCl.o _ hB2) yg ?_;have g5:((W.drew.alloc (.cells #[int i64 0,int i64 0,int i64 0,int i64 0] 53)).alloc (.cells #[int i64 0,int i64 0,int i64 0] 153)).heap[W.heap.size]?=some (.cells #[int i64 0,int i64 0,int i64 0,int i64 0] 53):=(two_newE W.drew _ _).1
  have g6:((W.drew.alloc (.cells #[int i64 0,int i64 0,int i64 0,int i64 0] 53)).alloc (.cells #[int i64 0,int i64 0,int i64 0] 153)).heap[W.heap.size+1]?=some (.cells #[int i64 0,int i64 0,int i64 0] 153):=(two_newE W.drew _ _).2;have HBx:=U (boxed hB2 g5 g6 ya ya 21 a b c n v p);have HB4:O (Below W.heap.size W (put4 ((W.drew.alloc (.cells #[int i64 0,int i64 0,int i64 0,int i64 0] 53)).alloc (.cells #[int i64 0,int i64 0,int i64 0] 153)) (W.heap.size) (int i64 21) (int i64 a) (int i64 b) (int i64 c))):=by
   obtain⟨p1,p2,p3,p4,p5,p6⟩:=put4_is g5 (int i64 21) (int i64 a) (int i64 b) (int i64 c);exact⟨p4.trans hB2.os,p5.trans hB2.tape,p6.trans hB2.output,ycp,fun q hq=>(p2 q ya).trans (hB2.block q hq)⟩
  refine z38 (i:=16) rfl (w1:=put4 ((W.drew.alloc (.cells #[int i64 0,int i64 0,int i64 0,int i64 0] 53)).alloc (.cells #[int i64 0,int i64 0,int i64 0] 153)) (W.heap.size) (int i64 21) (int i64 a) (int i64 b) (int i64 c)) rfl ye rfl rfl ycq (HCl.o _ HB4.o) ?_;refine z38 (i:=17) rfl (w1:=put3 (put4 ((W.drew.alloc (.cells #[int i64 0,int i64 0,int i64 0,int i64 0] 53)).alloc (.cells #[int i64 0,int i64 0,int i64 0] 153)) (W.heap.size) (int i64 21) (int i64 a) (int i64 b) (int i64 c)) (W.heap.size+1) (int i64 n) (int i64 v) (int i64 p)) rfl ye rfl rfl ycr (HCl.o _ HBx.o.bel) ?_;refine z37 ye ?_
  obtain⟨X,hX⟩:∃X,put3 (put4 ((W.drew.alloc (.cells #[int i64 0,int i64 0,int i64 0,int i64 0] 53)).alloc (.cells #[int i64 0,int i64 0,int i64 0] 153)) (W.heap.size) (int i64 21) (int i64 a) (int i64 b) (int i64 c)) (W.heap.size+1) (int i64 n) (int i64 v) (int i64 p)=X:=⟨_,rfl⟩
  rw[hX]at HBx |-;obtain⟨b5,hb5⟩:∃x,W.heap.size=x:=⟨_,rfl⟩
  obtain⟨b6,hb6⟩:∃x,W.heap.size+1=x:=⟨_,rfl⟩
  rw[hb6]at HBx |-;rw[hb5]at HBx |-;clear hX hb5 hb6 g5 g6 hB1 hB2 HB4 hS HCl hD;clear f0 f1 f2 f3 f4 f5 f6 f7 f8
 case' B=>
  have hB1:Below W.heap.size W (W.drew.alloc (.cells #[int i64 0,int i64 0,int i64 0] 153)):=hD.alloc hD.size _;have hB2:Below W.heap.size W ((W.drew.alloc (.cells #[int i64 0,int i64 0,int i64 0] 153)).alloc (.cells #[int i64 0,int i64 0,int i64 0,int i64 0] 53)):=hB1.alloc hB1.size _;refine⟨_,.pointer (some ⟨W.heap.size,0,none⟩),(W.drew.alloc (.cells #[int i64 0,int i64 0,int i64 0] 153)),rfl,rfl,yf,HCl.o _ hB1,?_⟩;refine z25 yg ?_
  refine z27 (i:=14) (v:=.pointer (some ⟨W.heap.size+1,0,none⟩)) (w1:=((W.drew.alloc (.cells #[int i64 0,int i64 0,int i64 0] 153)).alloc (.cells #[int i64 0,int i64 0,int i64 0,int i64 0] 53))) rfl ye rfl rfl yf (HCl.o _ hB2) yg ?_;have g5:((W.drew.alloc (.cells #[int i64 0,int i64 0,int i64 0] 153)).alloc (.cells #[int i64 0,int i64 0,int i64 0,int i64 0] 53)).heap[W.heap.size+1]?=some (.cells #[int i64 0,int i64 0,int i64 0,int i64 0] 53):=(two_newE W.drew _ _).2
  have g6:((W.drew.alloc (.cells #[int i64 0,int i64 0,int i64 0] 153)).alloc (.cells #[int i64 0,int i64 0,int i64 0,int i64 0] 53)).heap[W.heap.size]?=some (.cells #[int i64 0,int i64 0,int i64 0] 153):=(two_newE W.drew _ _).1;have HBx:=U (boxed hB2 g5 g6 ya ya 21 a b c n v p);have HB4:O (Below W.heap.size W (put4 ((W.drew.alloc (.cells #[int i64 0,int i64 0,int i64 0] 153)).alloc (.cells #[int i64 0,int i64 0,int i64 0,int i64 0] 53)) (W.heap.size+1) (int i64 21) (int i64 a) (int i64 b) (int i64 c))):=by
   obtain⟨p1,p2,p3,p4,p5,p6⟩:=put4_is g5 (int i64 21) (int i64 a) (int i64 b) (int i64 c);exact⟨p4.trans hB2.os,p5.trans hB2.tape,p6.trans hB2.output,ycp,fun q hq=>(p2 q ya).trans (hB2.block q hq)⟩
  refine z38 (i:=16) rfl (w1:=put4 ((W.drew.alloc (.cells #[int i64 0,int i64 0,int i64 0] 153)).alloc (.cells #[int i64 0,int i64 0,int i64 0,int i64 0] 53)) (W.heap.size+1) (int i64 21) (int i64 a) (int i64 b) (int i64 c)) rfl ye rfl rfl ycq (HCl.o _ HB4.o) ?_;refine z38 (i:=17) rfl (w1:=put3 (put4 ((W.drew.alloc (.cells #[int i64 0,int i64 0,int i64 0] 153)).alloc (.cells #[int i64 0,int i64 0,int i64 0,int i64 0] 53)) (W.heap.size+1) (int i64 21) (int i64 a) (int i64 b) (int i64 c)) (W.heap.size) (int i64 n) (int i64 v) (int i64 p)) rfl ye rfl rfl ycr (HCl.o _ HBx.o.bel) ?_;refine z37 ye ?_
  obtain⟨X,hX⟩:∃X,put3 (put4 ((W.drew.alloc (.cells #[int i64 0,int i64 0,int i64 0] 153)).alloc (.cells #[int i64 0,int i64 0,int i64 0,int i64 0] 53)) (W.heap.size+1) (int i64 21) (int i64 a) (int i64 b) (int i64 c)) (W.heap.size) (int i64 n) (int i64 v) (int i64 p)=X:=⟨_,rfl⟩
  rw[hX]at HBx |-;obtain⟨b5,hb5⟩:∃x,W.heap.size+1=x:=⟨_,rfl⟩
  obtain⟨b6,hb6⟩:∃x,W.heap.size=x:=⟨_,rfl⟩
  rw[hb5]at HBx |-;rw[hb6]at HBx |-;clear hX hb5 hb6 g5 g6 hB1 hB2 HB4 hS HCl hD;clear f0 f1 f2 f3 f4 f5 f6 f7 f8
 all_goals
  have i1:=z11 HBx.o.i 1;have s0:=z11 HBx.o.s 0;simp at i1 s0;have g0:=(HBx.o.bel.cell (z29 F0.o)).trans F0.o;have gt:=(HBx.o.bel.cell (z29 FT.o)).trans FT.o;go_wp2_with fail
  have HCl:O (∀Z,Below X.heap.size X Z->(fun w':World=>w'.cell? ⟨Fb,0,none⟩=some (.slice (some ⟨bc,oc,none⟩) N cc)/\w'.cell? ⟨b5,1,none⟩=some (int i64 a)/\w'.cell? ⟨b6,0,none⟩=some (int i64 n)/\w'.cell? ⟨bc,oc+ka*4+1,none⟩=some (int i64 ta)) Z):=fun Z hZ=>⟨(hZ.cell (z29 g0)).trans g0,(hZ.cell (z29 i1)).trans i1,(hZ.cell (z29 s0)).trans s0,(hZ.cell (z29 gt)).trans gt⟩
  have HD:O (Below X.heap.size X X.drew):=Lb.drew;have hS:=HCl.o _ HD.o;clear i1 s0 g0 gt;refine z31 (S:=(fun w':World=>w'.cell? ⟨Fb,0,none⟩=some (.slice (some ⟨bc,oc,none⟩) N cc)/\w'.cell? ⟨b5,1,none⟩=some (int i64 a)/\w'.cell? ⟨b6,0,none⟩=some (int i64 n)/\w'.cell? ⟨bc,oc+ka*4+1,none⟩=some (int i64 ta))) ye rfl rfl ?_;refine pick_o 0 (.pointer (some ⟨Fb,0,none⟩)) hS ?_;refine pick_o 1 (.pointer (some ⟨Fb,0,none⟩)) hS ?_;refine pick_o 2 (.pointer (some ⟨Fb,0,none⟩)) hS ?_;refine pick_o (hy:=fun w' h=>yh) 3 (.slice (some ⟨bc,oc,none⟩) N cc) hS ?_
  refine pick_o 4 (.pointer (some ⟨b5,1,none⟩)) hS ?_;refine pick_o (hy:=fun w' h=>xh) 5 (int i64 a) hS ?_;refine pick_o (hy:=fun w' _=>by simp[go_sem,ha0,ha1,hat]) 6 (.pointer (some ⟨bc,oc+ka*4,none⟩)) hS ?_;refine pick_o 7 (.pointer (some ⟨bc,oc+ka*4+1,none⟩)) hS ?_;refine pick_o (hy:=fun w' h=>by simp[go_sem,h.2.2.2]) 8 (int i64 ta) hS ?_;refine pick_o 9 (.pointer (some ⟨b6,0,none⟩)) hS ?_;refine pick_o (hy:=fun w' h=>by simp[go_sem,h.2.2.1]) 10 (int i64 n) hS ?_;refine z12 (i:=11) (v:=int i64 (n+1)) ye rfl ye ye rfl rfl (fun w' _=>ycs) hS yg ?_
  refine z26 (i:=12) (f:=150) (args:= #[int i64 (n+1)]) rfl ye rfl rfl yf ?_;refine(z79 (n+1) _).mono ?_;rintro e X1 ⟨rfl,hbx⟩;have HX1:=U (HD.o.trans (hbx.mono HD.o.size));clear hbx hS;have hS:=HCl.o _ HX1.o;refine⟨_,rfl,hS,?_⟩;refine z25 yg ?_;refine pick_o 13 (.agg #[int i64 ta,int i64 (n+1),int i64 0,int i64 2]) hS ?_;have HA:O (Below X.heap.size X (X1.alloc (.cells #[int i64 ta,int i64 (n+1),int i64 0,int i64 2] 155))):=HX1.o.alloc HX1.o.size _
  refine z27 (i:=14) (v:=.slice (some ⟨X1.heap.size,0,none⟩) 1 1) (w1:=X1.alloc (.cells #[int i64 ta,int i64 (n+1),int i64 0,int i64 2] 155)) rfl ye rfl rfl yf (HCl.o _ HA.o) yg ?_;refine z27 (i:=15) (v:=.slice (some ⟨X1.heap.size,0,none⟩) 1 1) (w1:=X1.alloc (.cells #[int i64 ta,int i64 (n+1),int i64 0,int i64 2] 155)) rfl ye rfl rfl yf (HCl.o _ HA.o) yg ?_;refine z37 ye ?_
  have HR0:O (Rw4 W (X1.alloc (.cells #[int i64 ta,int i64 (n+1),int i64 0,int i64 2] 155)) b5 b6 21 a b c n v p [(ta,⟨n+1,0,2⟩)] (.slice (some ⟨X1.heap.size,0,none⟩) 1 1)):=⟨⟨HBx.o.bel.trans (HA.o.mono HBx.o.bel.size),(HA.o.block _ (z13 HBx.o.i)).trans HBx.o.i,(HA.o.block _ (z13 HBx.o.s)).trans HBx.o.s⟩,World.ownsRow_lit X1 _ 1 (Lf HBx.o.bel.size HX1.o.size) yk rfl⟩
  generalize (.slice (some ⟨X1.heap.size,0,none⟩) 1 1:Value)=va at*;obtain⟨X2,hX2⟩:∃X2,X1.alloc (.cells #[int i64 ta,int i64 (n+1),int i64 0,int i64 2] 155)=X2:=⟨_,rfl⟩
  rw[hX2]at HR0 |-;clear hX2 hS HCl HA HD HX1 HBx;have i1:=z11 HR0.o.bx.i 1;simp at i1;go_wp2_with fail
  clear i1;have HC:O (Calls prog 170 #[.pointer (some ⟨Fb,0,none⟩),int i64 a] X2 (ClauseP bc oc ka B X2)):=by
   show Calls _ _ _ _ _;have h1:=HBk.o;rw[h1.2.2.2.2.1];exact tabClauses_calls ((HR0.o.bx.bel.cell (z29 F0.o)).trans F0.o) ((HR0.o.bx.bel.cell (z29 FT2.o)).trans FT2.o) yct yct yct
  refine HC.o.mono ?_;rintro e X3 ⟨ad,cp,rfl,had,hb3⟩;have HAd:=U had;have HR1:=U (HR0.o.below hb3);clear had hb3 HC HR0;have HL:O (∀j,j<B->(clausesZ is (ka:Int)).take (j+1)=(clausesZ is (ka:Int)).take j++ [is.getD (ka+(j+1)) default]):=fun j hj=>linesI_next (by rw[HBk.o.2.2.2.2.2.1]) HBk.o.1 hj
  have HLl:O ((clausesZ is (ka:Int)).length=B):=linesI_len (by rw[HBk.o.2.2.2.2.2.1]) HBk.o.1;go_wp2_with fail
  go_loopw [7,44] (fun va i wr=> ∃j:Nat,i=int i64 (j:Int)/\j<=B/\O (Rw4 W wr b5 b6 21 a b c n v p ((ta,(⟨n+1,0,2⟩:Sq))::((clausesZ is (ka:Int)).take j).map (fun c=>(c.b,(⟨n+2,0,2⟩:Sq)))) va)) (fun _ i _=>B-(intOf i).toNat)
  case atStart=>exact⟨0,rfl,Li _,HR1⟩
  case round=>
   clear HR1;obtain⟨j,rfl,hj,HRr⟩:=hrel;have HEl:O (((ta,(⟨n+1,0,2⟩:Sq))::((clausesZ is (ka:Int)).take j).map (fun c=>(c.b,(⟨n+2,0,2⟩:Sq)))).length<=10):=by
    show _<=_;simp only[Ll,List.length_map,List.length_take];have:=HBk.o;omega
   by_cases hlt:(j:Int)<(B:Int)
   .have hjB:j<B:=by omega
    have hkj:ka+(j+1)<is.length:=yck;have hinW:=HBk.o.2.2.2.2.2.2.2.below HRr.o.bx.bel HBk.o.2.2.2.2.2.2.1;have f0:=hinW (ka+(j+1)) hkj 0 ya;have f1:=hinW (ka+(j+1)) hkj 1 ya;have f2:=hinW (ka+(j+1)) hkj 2 ya;have f3:=hinW (ka+(j+1)) hkj 3 ya;have hnx:=HL.o j hjB;obtain⟨⟨fop,fa,fb,fc⟩,hf⟩:∃i,is.getD (ka+(j+1)) default=i:=⟨_,rfl⟩
    rw[hf]at f0 f1 f2 f3 hnx;have eo:oc+(ka+(j+1))*4=oc+(ka+1)*4+j*4:=ya;rw[eo]at f0 f1 f2 f3;simp only[In.cell,Nat.add_zero]at f0 f1 f2 f3;have had:=HAd.o ya;subst had;have hj0:(0:Int)<=(j:Int):=ya;have hst:B-(intOf (int i64 ((j+1:Nat):Int))).toNat<B-(intOf (int i64 (j:Int))).toNat:=yu;have HNx:=U hnx;have HSt:=U hst;have HJB:=U hjB;obtain⟨off,hoff⟩:∃off,oc+(ka+1)*4=off:=⟨_,rfl⟩
    rw[hoff]at f0 f1 f2 f3 |-;have hA5:=(Ld wr (.cells #[int i64 fop,int i64 fa,int i64 fb,int i64 fc] 53)).1;have hB5:=(Below.refl wr.heap.size wr).alloc La (.cells #[int i64 fop,int i64 fa,int i64 fb,int i64 fc] 53);obtain⟨V,hV⟩:∃V,wr.alloc (.cells #[int i64 fop,int i64 fa,int i64 fb,int i64 fc] 53)=V:=⟨_,rfl⟩
    rw[hV]at hA5 hB5;obtain⟨Tb,hTb⟩:∃Tb,wr.heap.size=Tb:=⟨_,rfl⟩
    have HRv:=U (HRr.o.below hB5);rw[hTb]at hA5;have HV:=U hV;have HTb:=U hA5;clear hnx hf hinW hst eo hkj hjB hj hoff hB5 hV;go_wp2_with fail
    rw[HV.o];have t2:=z11 hA5 2;have s0:=z11 HRv.o.bx.s 0;simp at t2 s0;have HCl:O (∀Z,Below V.heap.size V Z->(fun w':World=>w'.cell? ⟨Tb,2,none⟩=some (int i64 fb)/\w'.cell? ⟨b6,0,none⟩=some (int i64 n)) Z):=fun Z hZ=>⟨(hZ.cell (z29 t2)).trans t2,(hZ.cell (z29 s0)).trans s0⟩
    have HD:O (Below V.heap.size V V.drew):=Lb.drew;have hS:=HCl.o _ HD.o;clear t2 s0 HV hTb f0 f1 f2 f3 hA5;refine z31 (S:=(fun w':World=>w'.cell? ⟨Tb,2,none⟩=some (int i64 fb)/\w'.cell? ⟨b6,0,none⟩=some (int i64 n))) ye rfl rfl ?_;refine pick_o 0 u7 hS ?_;refine pick_o 1 (.pointer (some ⟨Tb,2,none⟩)) hS ?_;refine pick_o (hy:=fun w' h=>yh) 2 (int i64 fb) hS ?_;refine pick_o 3 (.pointer (some ⟨b6,0,none⟩)) hS ?_;refine pick_o (hy:=fun w' h=>uz) 4 (int i64 n) hS ?_;refine z12 (i:=5) (v:=int i64 (n+2)) ye rfl ye ye rfl rfl (fun w' _=>ycu) hS yg ?_
    refine z26 (i:=6) (f:=150) (args:= #[int i64 (n+2)]) rfl ye rfl rfl yf ?_;refine(z79 (n+2) _).mono ?_;rintro e X4 ⟨rfl,hbx⟩;have HX4:=U (HD.o.trans (hbx.mono HD.o.size));clear hbx hS;have hS:=HCl.o _ HX4.o;refine⟨_,rfl,hS,?_⟩;refine z25 yg ?_;refine pick_o 7 (.agg #[int i64 fb,int i64 (n+2),int i64 0,int i64 2]) hS ?_;have hAX5:=(Ld X4 (.cells #[int i64 fb,int i64 (n+2),int i64 0,int i64 2] 155)).1;have HBX5:O (Below V.heap.size V (X4.alloc (.cells #[int i64 fb,int i64 (n+2),int i64 0,int i64 2] 155))):=HX4.o.alloc HX4.o.size _
    refine z27 (i:=8) (v:=.slice (some ⟨X4.heap.size,0,none⟩) 1 1) (w1:=X4.alloc (.cells #[int i64 fb,int i64 (n+2),int i64 0,int i64 2] 155)) rfl ye rfl rfl yf (HCl.o _ HBX5.o) yg ?_;have HLc:=U (lit_cells X4 [int i64 fb,int i64 (n+2),int i64 0,int i64 2] 155);have HRb:=U (HRv.o.below HBX5.o);obtain⟨X5,hX5⟩:∃X,X4.alloc (.cells #[int i64 fb,int i64 (n+2),int i64 0,int i64 2] 155)=X:=⟨_,rfl⟩
    have HLc2:O (∀j u,[int i64 fb,int i64 (n+2),int i64 0,int i64 2][j]?=some u->X5.cell? ((⟨X4.heap.size,0,none⟩:Addr).add j)=some u):=by
     rw[<-hX5];exact HLc.o
    rw[hX5]at HRb HBX5 |-;clear hX5 hAX5 HLc;obtain⟨i0,hi,hz0,hz1,hz2⟩:=info_parts info_exit;obtain⟨va2,X6,hrun,hown,hgrow,-,hat2⟩:=run_append_own_at (P:=prog) X5 W.heap.size 192 192 155 i0 _ 4 32 underlying192 hi hz0 hz1 hz2 rfl yk u7 (((ta,(⟨n+1,0,2⟩:Sq))::((clausesZ is (ka:Int)).take j).map (fun c=>(c.b,(⟨n+2,0,2⟩:Sq)))).length) (rowE ((ta,(⟨n+1,0,2⟩:Sq))::((clausesZ is (ka:Int)).take j).map (fun c=>(c.b,(⟨n+2,0,2⟩:Sq))))) HRb.o.row ⟨X4.heap.size,0,none⟩ 1 1 [int i64 fb,int i64 (n+2),int i64 0,int i64 2] rfl HLc2.o (fun u hu=>by
     simp only[List.mem_cons,List.not_mem_nil,or_false]at hu;rcases hu with rfl|rfl|rfl|rfl<;>rfl) ycv (by have:=HEl.o;omega) HRb.o.bx.bel.size
    have HR6:=U (HRb.o.more (es':= [(fb,⟨n+2,0,2⟩)]) Lb hown hgrow);obtain⟨av,ln,cv,hva⟩:∃av ln cv,va2=.slice av ln cv:=by
     obtain⟨a',c',h'⟩:=fl_slice HR6.o.row;exact⟨a',_,c',h'⟩
    subst hva;have hT6:=grown_cells HRb.o.row hgrow ((HBX5.o.block Tb (z13 HTb.o)).trans HTb.o) yk;have t26:=z11 hT6 2;have s06:=z11 HR6.o.bx.s 0;simp at t26 s06;have hS6:(fun w':World=>w'.cell? ⟨Tb,2,none⟩=some (int i64 fb)/\w'.cell? ⟨b6,0,none⟩=some (int i64 n)) X6:=⟨t26,s06⟩
    clear hT6 t26 s06;refine z27 (i:=9) (v:=.slice av ln cv) (w1:=X6) rfl ye rfl rfl (z45 (s:=.tmp 48) (x:=.tmp 56) (t:=192) rfl rfl rfl hrun) hS6 yg ?_;refine z27 (i:=10) (v:=.slice av ln cv) (w1:=X6) rfl ye rfl rfl yf hS6 yg ?_;refine z37 ye ?_;clear hrun hown hgrow hat2 hi hz0 hz1 hz2 hS6 hS;go_wp2_with fail
    try rw[wrap_inc HJB.o yck]
    refine⟨⟨j+1,rfl,HJB.o,?_⟩,HSt.o⟩;show Rw4 _ _ _ _ _ _ _ _ _ _ _ _ _;rw[HNx.o,List.map_append,<-Ln];exact HR6.o
   .have hjB:j=B:=by omega
    subst hjB;have HEs:O (((ta,(⟨n+1,0,2⟩:Sq))::((clausesZ is (ka:Int)).take j).map (fun c=>(c.b,(⟨n+2,0,2⟩:Sq))))=(ta,(⟨n+1,0,2⟩:Sq))::(clausesZ is (ka:Int)).map (fun c=>(c.b,(⟨n+2,0,2⟩:Sq)))):=by
     show _=_;rw[List.take_of_length_le (by rw[HLl.o];exact La)]
    clear hlt hj;obtain⟨V,hVe⟩:∃V,wr=V:=⟨_,rfl⟩
    have i3:=z11 HRr.o.bx.i 3;have s0:=z11 HRr.o.bx.s 0;have s1:=z11 HRr.o.bx.s 1;have s2:=z11 HRr.o.bx.s 2;simp at i3 s0 s1 s2;go_wp2_with fail
    subst hVe;have HCl:O (∀Z,Below wr.heap.size wr Z->(fun w':World=>w'.cell? ⟨b5,3,none⟩=some (int i64 c)/\w'.cell? ⟨b6,0,none⟩=some (int i64 n)/\w'.cell? ⟨b6,1,none⟩=some (int i64 v)/\w'.cell? ⟨b6,2,none⟩=some (int i64 p)) Z):=fun Z hZ=>⟨(hZ.cell (z29 i3)).trans i3,(hZ.cell (z29 s0)).trans s0,(hZ.cell (z29 s1)).trans s1,(hZ.cell (z29 s2)).trans s2⟩
    have HD:O (Below wr.heap.size wr wr.drew):=Lb.drew;have hS:=HCl.o _ HD.o;clear i3 s0 s1 s2;refine z31 (S:=(fun w':World=>w'.cell? ⟨b5,3,none⟩=some (int i64 c)/\w'.cell? ⟨b6,0,none⟩=some (int i64 n)/\w'.cell? ⟨b6,1,none⟩=some (int i64 v)/\w'.cell? ⟨b6,2,none⟩=some (int i64 p))) ye rfl rfl ?_;refine pick_o 0 u7 hS ?_;refine pick_o 1 (int i64 (k:Int)) hS ?_;refine z12 (i:=2) (v:=int i64 ((k:Int)+1)) ye rfl ye ye rfl rfl (fun w' _=>ycw) hS yg ?_;refine pick_o 3 (.pointer (some ⟨b6,0,none⟩)) hS ?_;refine pick_o (hy:=fun w' h=>xh) 4 (int i64 n) hS ?_
    refine pick_o 5 (.agg #[int i64 n,int i64 0,int i64 3]) hS ?_;refine pick_o 6 (.agg #[int i64 ((k:Int)+1),int i64 n,int i64 0,int i64 3]) hS ?_;refine pick_o 7 (.pointer (some ⟨b5,3,none⟩)) hS ?_;refine pick_o (hy:=fun w' h=>yh) 8 (int i64 c) hS ?_;refine pick_o (hy:=fun w' h=>yi) 9 (.agg #[int i64 n,int i64 v,int i64 p]) hS ?_;refine z26 (i:=10) (f:=149) (args:= #[.agg #[int i64 n,int i64 v,int i64 p],int i64 0,int i64 1]) rfl ye rfl rfl yf ?_;refine(z76 n v p (0) (1) _ yj yj).mono ?_;rintro e X4 ⟨rfl,hbx⟩;have HX4:=U (HD.o.trans (hbx.mono HD.o.size));clear hbx hS;have hS:=HCl.o _ HX4.o
    refine⟨_,rfl,hS,?_⟩;refine z25 yg ?_;refine pick_o 11 (.agg #[int i64 c,int i64 (n+0),int i64 (v+1),int i64 p]) hS ?_;have hAX5:=(Ld X4 (.cells #[int i64 ((k:Int)+1),int i64 n,int i64 0,int i64 3,int i64 c,int i64 (n+0),int i64 (v+1),int i64 p] 155)).1;have HBX5:O (Below wr.heap.size wr (X4.alloc (.cells #[int i64 ((k:Int)+1),int i64 n,int i64 0,int i64 3,int i64 c,int i64 (n+0),int i64 (v+1),int i64 p] 155))):=HX4.o.alloc HX4.o.size _
    refine z27 (i:=12) (v:=.slice (some ⟨X4.heap.size,0,none⟩) 2 2) (w1:=X4.alloc (.cells #[int i64 ((k:Int)+1),int i64 n,int i64 0,int i64 3,int i64 c,int i64 (n+0),int i64 (v+1),int i64 p] 155)) rfl ye rfl rfl yf (HCl.o _ HBX5.o) yg ?_;have HLc:=U (lit_cells X4 [int i64 ((k:Int)+1),int i64 n,int i64 0,int i64 3,int i64 c,int i64 (n+0),int i64 (v+1),int i64 p] 155);have HRb:=U (HRr.o.below HBX5.o);obtain⟨X5,hX5⟩:∃X,X4.alloc (.cells #[int i64 ((k:Int)+1),int i64 n,int i64 0,int i64 3,int i64 c,int i64 (n+0),int i64 (v+1),int i64 p] 155)=X:=⟨_,rfl⟩
    have HLc2:O (∀j u,[int i64 ((k:Int)+1),int i64 n,int i64 0,int i64 3,int i64 c,int i64 (n+0),int i64 (v+1),int i64 p][j]?=some u->X5.cell? ((⟨X4.heap.size,0,none⟩:Addr).add j)=some u):=by
     rw[<-hX5];exact HLc.o
    rw[hX5]at HRb HBX5 |-;clear hX5 hAX5 HLc;obtain⟨i0,hi,hz0,hz1,hz2⟩:=info_parts info_exit
    obtain⟨va2,X6,hrun,hown,hgrow,-,hat2⟩:=run_append_own_at (P:=prog) X5 W.heap.size 192 192 155 i0 _ 4 32 underlying192 hi hz0 hz1 hz2 rfl yk u7 (((ta,(⟨n+1,0,2⟩:Sq))::((clausesZ is (ka:Int)).take j).map (fun c=>(c.b,(⟨n+2,0,2⟩:Sq)))).length) (rowE ((ta,(⟨n+1,0,2⟩:Sq))::((clausesZ is (ka:Int)).take j).map (fun c=>(c.b,(⟨n+2,0,2⟩:Sq))))) HRb.o.row ⟨X4.heap.size,0,none⟩ 2 2 [int i64 ((k:Int)+1),int i64 n,int i64 0,int i64 3,int i64 c,int i64 (n+0),int i64 (v+1),int i64 p] rfl HLc2.o (fun u hu=>by
     simp only[List.mem_cons,List.not_mem_nil,or_false]at hu;rcases hu with rfl|rfl|rfl|rfl|rfl|rfl|rfl|rfl<;>rfl) ycv (by have:=HEl.o;omega) HRb.o.bx.bel.size
    have HR6:=U (HRb.o.more (es':= [((k:Int)+1,⟨n,0,3⟩),(c,⟨n+0,v+1,p⟩)]) Lb hown hgrow);obtain⟨av,ln,cv,hva⟩:∃av ln cv,va2=.slice av ln cv:=by
     obtain⟨a',c',h'⟩:=fl_slice HR6.o.row;exact⟨a',_,c',h'⟩
    subst hva;have i36:=z11 HR6.o.bx.i 3;have s06:=z11 HR6.o.bx.s 0;have s16:=z11 HR6.o.bx.s 1;have s26:=z11 HR6.o.bx.s 2;simp at i36 s06 s16 s26;have hS6:(fun w':World=>w'.cell? ⟨b5,3,none⟩=some (int i64 c)/\w'.cell? ⟨b6,0,none⟩=some (int i64 n)/\w'.cell? ⟨b6,1,none⟩=some (int i64 v)/\w'.cell? ⟨b6,2,none⟩=some (int i64 p)) X6:=⟨i36,s06,s16,s26⟩
    clear i36 s06 s16 s26;refine z27 (i:=13) (v:=.slice av ln cv) (w1:=X6) rfl ye rfl rfl (z45 (s:=.tmp 59) (x:=.tmp 71) (t:=192) rfl rfl rfl hrun) hS6 yg ?_;refine z27 (i:=14) (v:=.slice av ln cv) (w1:=X6) rfl ye rfl rfl yf hS6 yg ?_;refine z37 ye ?_;clear hrun hown hgrow hat2 hi hz0 hz1 hz2 hS6 hS;go_wp2_with fail
    go_ret;rw[HZ.o,<-HEs.o];exact exits_owns HR6.o.bx.bel HR6.o.row
end
end Go.Proofs.YtbbffkiobmbkfaaGreatDoor
