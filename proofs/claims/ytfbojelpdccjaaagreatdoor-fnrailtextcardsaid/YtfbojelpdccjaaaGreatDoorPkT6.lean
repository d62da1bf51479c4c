import Derived.Deep.CutBlock
import Derived.Test.YtfbojelpdccjaaaGreatDoorPkT5
open Go.Proofs.Tryz
set_option maxHeartbeats 16000000
set_option maxRecDepth 100000
namespace Go.Proofs.YtfbojelpdccjaaaGreatDoor
open Go.RowKit Go.Deep
variable {key:List UInt8}
section
open Go.RowKit Go.Deep
theorem tx_name (s:ByteArray):tx s.data.toList=s:=rfl
def ShowC (b off cap:Nat) (ns:List Nd) (F:Nat):Prop:= ∀(t:Tp) (least:Int) (W:World),t.size<=F->Stands ns t->Ex t->b<W.heap.size->NodesAt W b off ns->
 Calls prog 22 #[.slice (some ⟨b,off,none⟩) ns.length cap,.int .i64 (t.at_:Int),.int .i64 least] W fun e W'=> e=.returned (.string (tx (showZ F t least)))/\Below W.heap.size W W'
def BareP (W:World) (T:List UInt8) (e:Ending) (W':World):Prop:=e=.returned (.string (tx T))/\Below W.heap.size W W'
abbrev ndC (k:Int) (t:Tp):Array Value:= #[.int .i64 k,.int .i64 t.n.num,.string t.n.a,.string t.n.b,.string t.n.c,.int .i64 t.n.kids]
structure PreB (b off:Nat) (ns:List Nd) (F:Nat) (t:Tp) (W:World):Prop where
 hl:ns.length<=300
 hnt:∀m∈ns,Neat m
 hF:t.size<=F+1
 hs:Stands ns t
 hx:Ex t
 hb:b<W.heap.size
 hn:NodesAt W b off ns
structure PostB (b off:Nat) (ns:List Nd) (F:Nat) (t:Tp) (k:Int) (W Y:World):Prop where
 P:PreB b off ns F t Y
 lo:Below W.heap.size W Y
 box:Y.heap[W.heap.size]?=some (.cells (ndC k t) 60)
section
variable {b off cap:Nat}{ns:List Nd}{F:Nat}{t:Tp}{W Y:World}{k:Int}
theorem PreB.below (P:PreB b off ns F t W) (h:Below W.heap.size W Y):PreB b off ns F t Y:=
 ⟨P.hl,P.hnt,P.hF,P.hs,P.hx,Le P.hb h.size,P.hn.below h P.hb⟩
theorem PreB.cells (P:PreB b off ns F t W) (ek:t.n.kind=k):(W.cell? ⟨b,off+t.at_*6,none⟩=some (.int .i64 k)/\W.cell? ⟨b,off+t.at_*6+1,none⟩=some (.int .i64 t.n.num)/\W.cell? ⟨b,off+t.at_*6+2,none⟩=some (.string t.n.a)/\W.cell? ⟨b,off+t.at_*6+3,none⟩=some (.string t.n.b)/\W.cell? ⟨b,off+t.at_*6+4,none⟩=some (.string t.n.c)/\W.cell? ⟨b,off+t.at_*6+5,none⟩=some (.int .i64 t.n.kids))/\(0:Int)<=(t.at_:Int)/\(t.at_:Int)<(ns.length:Int)/\t.n.a.size<=8/\t.n.b.size<=8:=by
 obtain⟨hlt,hat,-⟩:=P.hs.lt;have g:=P.hn t.at_ hlt;rw[hat]at g;have e0:=g 0 yf;rw[show t.n.cell 0=.int .i64 k from by rw[<-ek];rfl]at e0;have hN:=P.hs.neat P.hnt;exact⟨⟨e0,g 1 yf,g 2 yf,g 3 yf,g 4 yf,g 5 yf⟩,yf,yf,hN.a,hN.b⟩
theorem PreB.start (P:PreB b off ns F t W) (_:t.n.kind=k):∃Y,I (W.alloc (.cells (ndC k t) 60)=Y)/\I (PostB b off ns F t k W Y):=by
 have h:=(Below.refl W.heap.size W).alloc La (.cells (ndC k t) 60);exact⟨_,rfl,P.below h,h,(Ld W (.cells (ndC k t) 60)).1⟩
theorem PreB.first (P:PreB b off ns F t W) (h:1<=t.k.count):I (wrap64 ((t.at_:Int)+1)=((t.kid 0).at_:Int)):=by
 show _=_;have:=P.hs.lt;have:=P.hl;rw[P.hs.first h];unfold wrap64;omega
theorem PreB.next (P:PreB b off ns F t W):I (wrap64 ((t.at_:Int)+1)=(t.at_:Int)+1):=by
 show _=_;have:=P.hs.lt;have:=P.hl;unfold wrap64;omega
theorem PostB.at (R:PostB b off ns F t k W Y) {X:World}(h:Below Y.heap.size Y X):X.cell? ⟨W.heap.size,0,none⟩=some (.int .i64 k)/\X.cell? ⟨W.heap.size,1,none⟩=some (.int .i64 t.n.num)/\X.cell? ⟨W.heap.size,2,none⟩=some (.string t.n.a)/\X.cell? ⟨W.heap.size,3,none⟩=some (.string t.n.b)/\X.cell? ⟨W.heap.size,4,none⟩=some (.string t.n.c)/\X.cell? ⟨W.heap.size,5,none⟩=some (.int .i64 t.n.kids):=by
 have g:=z8 ((h.block _ (z12 R.box)).trans R.box);exact⟨g 0,g 1,g 2,g 3,g 4,g 5⟩
theorem PostB.place (R:PostB b off ns F t k W Y) (j:Nat) (hj:j<t.k.count):I (∀X,Below Y.heap.size Y X->Calls prog 83 #[.slice (some ⟨b,off,none⟩) ns.length cap,.int .i64 (t.at_:Int),.int .i64 (j:Int)] X fun e X'=> e=.returned (.int .i64 ((t.kid j).at_:Int))/\X=X'):=
 fun X hX=>kid_calls (cap:=cap) j X (R.P.hn.below hX R.P.hb) R.P.hl R.P.hs hj
theorem PostB.kid (R:PostB b off ns F t k W Y) (ih:ShowC b off cap ns F) (j:Nat) (l:Int) (hj:j<t.k.count) (hh:¬ (t.n.kind=23\/t.n.kind=24)):∃T,I (showZ F (t.kid j) l=T)/\(tx T).size<=18000/\I (∀X,Below Y.heap.size Y X->Calls prog 22 #[.slice (some ⟨b,off,none⟩) ns.length cap,.int .i64 ((t.kid j).at_:Int),.int .i64 l] X (BareP X T)):=by
 have h1:=sum_mem t.kids _ (Tp.kid_mem hj);have h2:=t.kids_sum;have h3:=R.P.hF;have h4:=R.P.hs.lt.2.2;have h5:=R.P.hl;have he:=R.P.hx.1.ex hj (z14 hh _);have h6:=(bare_len R.P.hnt F).1 (t.kid j) l yf (R.P.hs.kid hj) he;exact⟨_,rfl,by rw[z32];omega,fun X hX=>ih (t.kid j) l X yf (R.P.hs.kid hj) he (Le R.P.hb hX.size) (R.P.hn.below hX R.P.hb)⟩
theorem dec_calls (n:Int) (h0:0<=n) (h1:n<=999999999) (w:World):Calls prog 82 #[.int .i64 n] w fun e w'=> e=.returned (.string (tx (Lib.itoa n)))/\Below w.heap.size w w':= by
 obtain⟨m,rfl⟩:∃m:Nat,n=(m:Int):=⟨n.toNat,yf⟩
 cases m with
 | zero=>
   refine(l2Dec_zero w).mono ?_;rintro e w' ⟨rfl,rfl⟩;refine⟨?_,Lb⟩;unfold tx Lib.itoa;rw[if_neg yf];rw[show((0:Nat):Int).toNat=0 from rfl,Lib.decDigits_one yf];rfl
 | succ u=>
   have e:Lib.itoa ((u+1:Nat):Int)=Lib.decDigits (u+1):=by
    unfold Lib.itoa;rw[if_neg yf,Int.toNat_natCast]
   rw[e];exact l2Dec_pos (u+1) w yf yf
theorem level_calls (k:Int) (W:World):Calls prog 46 #[.int .i64 k] W fun e W'=> e=.returned (.int .i64 (lvZ k))/\W=W':= by
 by_cases h:k=8\/k=9\/k=10\/k=6\/k=20\/k=19\/k=14\/k=15\/k=11\/k=12\/k=13\/k=7\/k=17\/k=18\/k=21\/k=22
 .rcases h with rfl|rfl|rfl|rfl|rfl|rfl|rfl|rfl|rfl|rfl|rfl|rfl|rfl|rfl|rfl|rfl
  all_goals
   go_enter func46,ntmps46
   go_wp2_with fail
   go_ret;exact⟨rfl,rfl⟩
 .have hz:lvZ k=6:=by unfold lvZ;(iterate 6 rw[if_neg yf])
  simp only[not_or]at h;obtain⟨k8,k9,k10,k6,k20,k19,k14,k15,k11,k12,k13,k7,k17,k18,k21,k22⟩:=h;rw[hz];go_enter func46,ntmps46
  go_wp2_with fail
  go_ret;exact⟨rfl,rfl⟩
theorem two_calls (hl:ns.length<=300) (hnt:∀m∈ns,Neat m) (ih:ShowC b off cap ns F) (l r:Int) (sg:List UInt8) (hsg:sg.length<=8) (hF:t.size<=F+1) (hs:Stands ns t) (hx:Ex t) (hh:¬ (t.n.kind=23\/t.n.kind=24)) (hc:t.k.count=2) (hb:b<W.heap.size) (hn:NodesAt W b off ns) :
 Calls prog 84 #[.slice (some ⟨b,off,none⟩) ns.length cap,.int .i64 (t.at_:Int),.int .i64 l,.string (tx sg),.int .i64 r] W (BareP W (showZ F (t.kid 0) l++ [32]++sg++ [32]++showZ F (t.kid 1) r)):=by
 have hsz:=hs.lt.2.2;have HZ:I ((t.kid 0).size+(t.kid 1).size+1=t.size/\1<=(t.kid 0).size/\1<=(t.kid 1).size/\t.size<=300):=⟨(kids2 hc).2,(t.kid 0).size_pos,(t.kid 1).size_pos,yf⟩
 have HK0:=J (kid_calls (cap:=cap) 0 W hn hl hs yf);have HS0:=J (ih (t.kid 0) l W jq (hs.kid yf) (hx.1.ex yf (z14 hh _)) hb hn);have HK1:=J (fun X (hX:Below W.heap.size W X)=>kid_calls (cap:=cap) 1 X (hn.below hX hb) hl hs yf);have HS1:=J (fun X (hX:Below W.heap.size W X)=>ih (t.kid 1) r X jq (hs.kid yf) (hx.1.ex yf (z14 hh _)) (Le hb hX.size) (hn.below hX hb));have h0:=(bare_len hnt F).1 (t.kid 0) l jq (hs.kid yf) (hx.1.ex yf (z14 hh _));have h1:=(bare_len hnt F).1 (t.kid 1) r jq (hs.kid yf) (hx.1.ex yf (z14 hh _));obtain⟨T0,hT0⟩:∃T,showZ F (t.kid 0) l=T:=⟨_,rfl⟩
 obtain⟨T1,hT1⟩:∃T,showZ F (t.kid 1) r=T:=⟨_,rfl⟩
 rw[hT0]at HS0 h0 |-;rw[hT1]at HS1 h1 |-;have l0:(tx T0).size<=18000:=by rw[z32];have:=HZ.o;omega
 have l1:(tx T1).size<=18000:=by rw[z32];have:=HZ.o;omega
 have l2:(tx sg).size<=8:=by rw[z32];exact hsg
 obtain⟨sb,hsb⟩:∃sb,tx sg=sb:=⟨_,rfl⟩
 have HSB:=J hsb;rw[hsb]at l2 |-;clear hl hnt ih hsg hF hs hx hh hc hb hn hsz h0 h1 hT0 hT1 hsb;go_enter func84,ntmps84
 go_wp2_with fail
 refine HK0.o.mono ?_;rintro e Xk ⟨rfl,rfl⟩;go_wp2_with fail
 refine HS0.o.mono ?_;rintro e X1 ⟨rfl,hb1⟩;have B1:=J hb1;clear hb1;go_wp2_with fail
 refine(HK1.o X1 B1.o).mono ?_;rintro e Xk ⟨rfl,rfl⟩;go_wp2_with fail
 refine(HS1.o X1 B1.o).mono ?_;rintro e X2 ⟨rfl,hb2⟩;have B2:=J (B1.o.trans (hb2.mono B1.o.size));clear hb2;go_wp2_with fail
 go_ret;refine⟨?_,B2.o⟩;simp only[<-z24];rw[HSB.o];rfl
def handZ' (F:Nat) (t:Tp) (base:List UInt8):Nat->List UInt8
 |0=>base
 |j+1=>((t.kids.drop 2).take j).foldl (fun T c=>T++opT c (showZ F (c.kid 0) 0)) (base++retT (t.kid 1) (showZ F ((t.kid 1).kid 0) 0))
theorem handZ_next {F:Nat}{t:Tp}{base:List UInt8}{j:Nat}(h:j+2<t.k.count):handZ' F t base (j+2)=handZ' F t base (j+1)++opT (t.kid (2+j)) (showZ F ((t.kid (2+j)).kid 0) 0):=by
 have hl:j<(t.kids.drop 2).length:=jr;have hg:(t.kids.drop 2)[j]=t.kid (2+j):=by
  unfold Tp.kid;simp[List.getD,show 2+j<t.kids.length by rw[t.kids_len];omega]
 show((t.kids.drop 2).take (j+1)).foldl _ _=_;rw[List.take_add_one,List.getElem?_eq_getElem hl,hg,List.foldl_append];rfl
theorem handZ_all {F:Nat}{t:Tp}{base:List UInt8}(h:2<=t.k.count):handZ' F t base (t.k.count-1)=(t.kids.drop 2).foldl (fun T c=>T++opT c (showZ F (c.kid 0) 0)) (base++retT (t.kid 1) (showZ F ((t.kid 1).kid 0) 0)):=by
 obtain⟨m,hm⟩:∃m,t.k.count=m+2:=⟨t.k.count-2,yf⟩
 rw[hm,show m+2-1=m+1 by omega];show((t.kids.drop 2).take m).foldl _ _=_;rw[List.take_of_length_le jr]
theorem clause_at {t:Tp}(hs:Stands ns t) (hx:Ex t) (hh:t.n.kind=23\/t.n.kind=24) {i:Nat}(h1:1<=i) (hi:i<t.k.count):Stands ns (t.kid i)/\(t.kid i).k.count=1/\Ex ((t.kid i).kid 0)/\((t.kid i).kid 0).size+1=(t.kid i).size:=by
 have hm:t.kid i∈t.kids.drop 1:=by
  have hl:i-1<(t.kids.drop 1).length:=jr;have hg:(t.kids.drop 1)[i-1]=t.kid i:=by
   unfold Tp.kid;simp[List.getD,show i<t.kids.length by rw[t.kids_len];omega];congr 1
   omega
  rw[<-hg];exact List.getElem_mem hl
 have hc:=(hs.head hh _ hm).2;exact⟨hs.kid hi,hc,clause_ex hx.1 hi hc,(kids1 hc).2⟩
theorem handZ_len (hl:ns.length<=300) (hnt:∀m∈ns,Neat m) {t:Tp}(hs:Stands ns t) (hx:Ex t) (hh:t.n.kind=23\/t.n.kind=24) (hF:t.size<=F+1) {base:List UInt8}:∀j,j<t.k.count->(handZ' F t base j).length<=base.length+20000*j
 |0,_=>Nat.le_add_right _ _
 | 1,h=>by
   obtain⟨c1,c2,c3,c4⟩:=clause_at hs hx hh (i:=1) La h;have hsz:=sum_mem t.kids _ (Tp.kid_mem h);have e:=t.kids_sum;have nt:=name_len ((c1.neat hnt).a);have g:=(bare_len hnt F).1 ((t.kid 1).kid 0) 0 yf (c1.kid yf) c3;have hl2:=hs.lt.2.2;simp only[handZ',List.take_zero,List.foldl_nil,List.length_append,retT,List.length_cons,List.length_nil];omega
 | j+2,h=>by
   obtain⟨c1,c2,c3,c4⟩:=clause_at hs hx hh (i:=2+j) yf yf;have hsz:=sum_mem t.kids _ (Tp.kid_mem (t:=t) (i:=2+j) yf);have e:=t.kids_sum;have nt:=c1.neat hnt;have na:=name_len nt.a;have nb:=name_len nt.b;have nc:=name_len nt.c;have g:=(bare_len hnt F).1 ((t.kid (2+j)).kid 0) 0 yf (c1.kid yf) c3;have hl2:=hs.lt.2.2;have ih:=handZ_len hl hnt hs hx hh hF (base:=base) (j+1) yf;rw[handZ_next yf];simp only[List.length_append,opT,List.length_cons,List.length_nil];omega
theorem hand_c (P:PreB b off ns F t W) (ih:ShowC b off cap ns F) (ek:t.n.kind=k) (hk:(k=23/\key= [104,97,110,100,108,101,32])\/(k=24/\key= [115,104,97,108,108,111,119,32])) :
 Calls prog 85 #[.slice (some ⟨b,off,none⟩) ns.length cap,.int .i64 (t.at_:Int)] W (BareP W (handT (showZ F) t)):=by
 obtain⟨hl,hnt,hF,hs,hx,hb,hn⟩:=P;rcases hk with ⟨rfl,hkey⟩|⟨rfl,hkey⟩
 all_goals
  have HKey:=J hkey;have hkl:key.length<=8:=by rw[hkey];decide
  obtain⟨hlt,hat,hsz⟩:=hs.lt;have hh:t.n.kind=23\/t.n.kind=24:=yf;have c0:=hn t.at_ hlt 0 yf;have c5:=hn t.at_ hlt 5 yf;rw[hat]at c0 c5;simp only[Nd.cell,Nat.add_zero]at c0 c5;rw[ek]at c0;have hgood:=hs.toGood;have har:=(arity_at hgood).2.1 (by rw[ek];rfl);obtain⟨kc,hkc⟩:∃kc:Nat,t.k.count=kc:=⟨_,rfl⟩
  rw[hs.kids,hkc]at c5;rw[hkc]at har;have HKc:=J (Lc hkc har);have HP1:I (wrap64 ((t.at_:Int)+1)=((t.kid 0).at_:Int)):=by show _=_;rw[hs.first yf];unfold wrap64;omega
  have hsum:=(kidsM (t:=t) yf).2;have HS0:=J (ih (t.kid 0) 0 W yf (hs.kid yf) (hx.1.ex yf (role_first _)) hb hn);have h0:=(bare_len hnt F).1 (t.kid 0) 0 yf (hs.kid yf) (hx.1.ex yf (role_first _));have hT:handT (showZ F) t=handZ' F t (key++showZ F (t.kid 0) 0++ [32,119,105,116,104]) (kc-1)++ [32,101,110,100]:=by
   rw[<-hkc,handZ_all yf,hkey];unfold handT;rw[ek];rfl
  obtain⟨T0,hT0⟩:∃T,showZ F (t.kid 0) 0=T:=⟨_,rfl⟩
  rw[hT0]at HS0 h0 hT;have l0:(tx T0).size<=18000:=by rw[z32];omega
  obtain⟨base,hbase⟩:∃x,key++T0++ [32,119,105,116,104]=x:=⟨_,rfl⟩
  have HBs:=J hbase;have HBl:I (base.length<=18100):=by show _<=_;rw[<-hbase];simp only[List.length_append,List.length_cons,List.length_nil];omega
  rw[hbase]at hT;rw[hT];have HLn:=J (fun j (hj:j<kc)=>handZ_len (F:=F) (base:=base) hl hnt hs hx hh hF j yf);have HCl:=J (fun i (h1:1<=i) (hi:i<kc)=>clause_at hs hx hh h1 yf);have HNx:=J (fun j (hj:j+2<kc)=>handZ_next (F:=F) (t:=t) (base:=base) (j:=j) yf);have HSu:=J (fun i (hi:i<kc)=>sum_mem t.kids _ (Tp.kid_mem (t:=t) (i:=i) yf));have HSm:=J (Lc t.kids_sum (Lc hF hsz));have HK:=J (fun(X:World) (i:Nat) (hX:Below W.heap.size W X) (hi:i<kc)=>kid_calls (cap:=cap) i X (hn.below hX hb) hl hs yf)
  have HI:=J (fun(X:World) (c:Tp) (hX:Below W.heap.size W X) (h1:c.size<=F) (h2:Stands ns c) (h3:Ex c)=>ih c 0 X h1 h2 h3 (Le hb hX.size) (hn.below hX hb));have HN:=J (fun(X:World) (hX:Below W.heap.size W X)=>hn.below hX hb);have HC0:=J (fun(X:World) (hX:Below W.heap.size W X)=>(hX.cell (p:=⟨b,off+t.at_*6+5,none⟩) hb).trans c5);have HNt:=J hnt;have HL:=J hl;have hp0:(0:Int)<=(t.at_:Int):=yf;have hpl:(t.at_:Int)<(ns.length:Int):=yf;clear hl hnt ih hF hs hx hb hn hlt hat hsz hh hgood har hkc hsum h0 hT0 hbase hT ek hkey;go_enter func85,ntmps85
  go_wp2_with fail
  rw[HP1.o];refine HS0.o.mono ?_;rintro e X1 ⟨rfl,hb1⟩;have B1:=J hb1;clear hb1 c0 c5 HS0;go_wp2_with fail
  go_loopw [5,6] (fun out i wr=> ∃(j:Nat) (z:Int),out=.string (tx (handZ' F t base j))/\i=.int .i64 z/\z=1+(j:Int)/\j+1<=kc/\I (Below W.heap.size W wr)) (fun _ i _=>kc-(intOf i).toNat)
  case atStart=>
   refine⟨0,1,?_,rfl,rfl,js,B1⟩;show Value.string _=Value.string _;congr 1
   show _=tx base;rw[<-HBs.o,HKey.o];simp only[<-z24];rfl
  case round=>
   obtain⟨j,z,rfl,rfl,hzj,hj,HBr⟩:=hrel;have c5:=HC0.o wr HBr.o;by_cases hz:z<(kc:Int)
   .have hjk:1+j<kc:=by omega
    obtain⟨q1,q2,q3,q4⟩:=HCl.o (1+j) yf hjk;have hsu:=HSu.o (1+j) hjk;have HKd:=J (HK.o wr (1+j) HBr.o hjk);rw[show((1+j:Nat):Int)=z by omega]at HKd;have hln:=HLn.o j yf;obtain⟨c,hc⟩:∃c,t.kid (1+j)=c:=⟨_,rfl⟩
    rw[hc]at q1 q2 q3 q4 hsu HKd;obtain⟨hl0,hl1,-⟩:=q1.lt;have hnc:=HN.o wr HBr.o;obtain⟨b0,b1,b2,b3,b4,b5⟩:=fsx (hnc c.at_ hl0);rw[hl1]at b0 b1 b2 b3 b4 b5;simp only[Nd.cell,Nat.add_zero]at b0 b1 b2 b3 b4 b5;have nt:=q1.neat HNt.o;have na:c.n.a.size<=8:=nt.a;have nb:c.n.b.size<=8:=nt.b;have nc:c.n.c.size<=8:=nt.c;have hc0:(0:Int)<=(c.at_:Int):=yf;have hcl:(c.at_:Int)<(ns.length:Int):=yf;have HP3:I (wrap64 ((c.at_:Int)+1)=((c.kid 0).at_:Int)):=by show _=_;rw[q1.first yf];have:=HL.o;unfold wrap64;omega
    have g:=(bare_len HNt.o F).1 (c.kid 0) 0 (by have:=HSm.o;omega) (q1.kid yf) q3;have HIc:=J (fun(X:World) (hX:Below W.heap.size W X)=>HI.o X (c.kid 0) hX (by have:=HSm.o;omega) (q1.kid yf) q3);obtain⟨Tc,hTc⟩:∃T,showZ F (c.kid 0) 0=T:=⟨_,rfl⟩
    rw[hTc]at g HIc;have HTc:=J hTc;have lc:(tx Tc).size<=18000:=by rw[z32];have:=HSm.o;have:=HL.o;omega
    have HV1:I (Below W.heap.size W (wr.alloc (.cells #[.int .i64 c.n.kind,.int .i64 c.n.num,.string c.n.a,.string c.n.b,.string c.n.c,.int .i64 c.n.kids] 60))):=HBr.o.alloc HBr.o.size _;have HVa:=J (Ld wr (.cells #[.int .i64 c.n.kind,.int .i64 c.n.num,.string c.n.a,.string c.n.b,.string c.n.c,.int .i64 c.n.kids] 60)).1;obtain⟨V,hV⟩:∃V,wr.alloc (.cells #[.int .i64 c.n.kind,.int .i64 c.n.num,.string c.n.a,.string c.n.b,.string c.n.c,.int .i64 c.n.kids] 60)=V:=⟨_,rfl⟩
    rw[hV]at HV1 HVa;have HV:=J hV;have HJ:=J (Lc hzj (Lc hj hc));have HZs:I (wrap64 (z+1)=z+1):=by show _=_;have:=HKc.o;unfold wrap64;omega
    have hstep:kc-(intOf (.int .i64 (z+1))).toNat<kc-(intOf (.int .i64 z)).toNat:=by simp only[intOf];omega
    obtain⟨TO,hTO⟩:∃T,handZ' F t base j=T:=⟨_,rfl⟩
    rw[hTO]at hln |-;have HTO:=J hTO;have lo:(tx TO).size<=200000:=jt;clear hjk q1 q2 q3 q4 hsu hln hl0 hl1 hnc nt g hTc hV hj hTO hc hzj;go_wp2_with fail
    refine HKd.o.mono ?_;rintro e Xk ⟨rfl,rfl⟩;clear c5;go_upto_region 10 with fail
    rw[HV.o];clear HV b0 b1 b2 b3 b4 b5;have g2:=z8 HVa.o 2;have g3:=z8 HVa.o 3;have g4:=z8 HVa.o 4;simp at g2 g3 g4
    cases j with
    | zero=>
      have hz1:z=1:=by have:=HJ.o.1;omega
      subst hz1;go_wp2_with fail
      rw[HP3.o];refine(HIc.o V HV1.o).mono ?_;rintro e X4 ⟨rfl,hb4⟩;have B4:=J (HV1.o.trans (hb4.mono HV1.o.size));clear hb4 g2 g3 g4;go_wp2_with fail
      try rw[HZs.o]
      refine⟨⟨1,_,?_,rfl,by rfl,js,B4⟩,hstep⟩;show Value.string _=Value.string _;congr 1
      show _=tx (base++retT (t.kid 1) (showZ F ((t.kid 1).kid 0) 0));have hc:=HJ.o.2.2;rw[show 1+0=1 from rfl]at hc;rw[hc,HTc.o,show base=TO from HTO.o];simp only[retT,<-z24,tx_name,ByteArray.append_assoc];rfl
    | succ j=>
      have hz1:(z==1)=false:=by have:=HJ.o.1;simp;omega
      go_wp2_with fail
      rw[HP3.o];refine(HIc.o V HV1.o).mono ?_;rintro e X4 ⟨rfl,hb4⟩;have B4:=J (HV1.o.trans (hb4.mono HV1.o.size));clear hb4 g2 g3 g4;go_wp2_with fail
      try rw[HZs.o]
      refine⟨⟨j+2,_,?_,rfl,by have:=HJ.o.1;omega,by have:=HJ.o;omega,B4⟩,hstep⟩;show Value.string _=Value.string _;congr 1
      have hc:=HJ.o.2.2;rw[show 1+(j+1)=2+j by omega]at hc;rw[HNx.o j (by have:=HJ.o;omega),hc,HTc.o,HTO.o];simp only[opT,<-z24,tx_name,ByteArray.append_assoc];rfl
   .have ej:j=kc-1:=by omega
    obtain⟨TO,hTO⟩:∃T,handZ' F t base (kc-1)=T:=⟨_,rfl⟩
    have hln:=HLn.o (kc-1) js;rw[hTO]at hln;rw[ej,hTO];have lo:(tx TO).size<=200000:=jt;have HTO:=J hTO;clear hln hTO ej hzj hj;go_wp2_with fail
    go_ret;refine⟨?_,HBr.o⟩;simp only[<-z24];rw[HTO.o];rfl
theorem bare_hand (P:PreB b off ns F t W) (ih:ShowC b off cap ns F) (ek:t.n.kind=k) (hk:(k=23/\key= [104,97,110,100,108,101,32])\/(k=24/\key= [115,104,97,108,108,111,119,32])) :
 Calls prog 45 #[.slice (some ⟨b,off,none⟩) ns.length cap,.int .i64 (t.at_:Int)] W (BareP W (handT (showZ F) t)):=by
 have HH:=J (fun Y (R:PreB b off ns F t Y)=>hand_c (cap:=cap) R ih ek hk);have HP:=P.first (by have:=(arity_at P.hs.toGood).2.1 (by rw[ek];rcases hk with h|h<;>(rw[h.1];rfl));omega)
 rcases hk with ⟨rfl,rfl⟩|⟨rfl,rfl⟩
 all_goals
  refine zb85 ?_;intro Y HY R c0 c1 c2 c3 c4 c5 hp0 hpl na nb;have B0:=J (Below.refl Y.heap.size Y);clear P ek ih;go_enter func45,ntmps45
  go_upto_region 3 with fail
  refine zb69 ?_;intro e0 e1 e2 e3 e4 e5;clear HY c0 c1 c2 c3 c4 c5;go_wp2_with fail
  clear e0 e1 e2 e3 e4 e5;refine(HH.o Y R.o.P).mono ?_;rintro e X1 ⟨rfl,hb⟩;have B1:=J (B0.o.trans (hb.mono B0.o.size));clear hb;generalize hTT:handT (showZ F) t=TT;have HTT:=J hTT;clear hTT HH;obtain⟨e0,e1,e2,e3,e4,e5⟩:=R.o.at B1.o;go_wp2_with fail
  clear e0 e1 e2 e3 e4 e5;go_ret;refine⟨?_,R.o.lo.trans (B1.o.mono R.o.lo.size)⟩;rw[HTT.o];rfl
theorem bare_c1 (P:PreB b off ns F t W) (ek:t.n.kind=1) :
 Calls prog 45 #[.slice (some ⟨b,off,none⟩) ns.length cap,.int .i64 (t.at_:Int)] W (BareP W (Lib.itoa t.n.num)):=by
 have HNu:=J ((P.hs.neat P.hnt).num ek);refine zb44 ?_;intro Y HY R c0 c1 c2 c3 c4 c5 hp0 hpl na nb HP B0;clear P ek;go_enter func45,ntmps45
 go_upto_region 3 with fail
 refine zb69 ?_;intro e0 e1 e2 e3 e4 e5;clear HY c0 c1 c2 c3 c4 c5;go_wp2_with fail
 clear e0 e1 e2 e3 e4 e5;refine(dec_calls t.n.num HNu.o.1 HNu.o.2 Y).mono ?_;rintro e X1 ⟨rfl,hb⟩;have B1:=J (B0.o.trans (hb.mono B0.o.size));clear hb;generalize hTT:Lib.itoa t.n.num=TT;have HTT:=J hTT;clear hTT;obtain⟨e0,e1,e2,e3,e4,e5⟩:=R.o.at B1.o;go_wp2_with fail
 clear e0 e1 e2 e3 e4 e5;go_ret;refine⟨?_,R.o.lo.trans (B1.o.mono R.o.lo.size)⟩;rw[HTT.o];rfl
theorem bare_c2 (P:PreB b off ns F t W) {u:Int}(ek:t.n.kind=2) (hu:t.n.num=u) (hk:(u=0/\key= [102,97,108,115,101])\/(u=1/\key= [116,114,117,101])) :
 Calls prog 45 #[.slice (some ⟨b,off,none⟩) ns.length cap,.int .i64 (t.at_:Int)] W (BareP W (key)):=by
 rcases hk with ⟨rfl,rfl⟩|⟨rfl,rfl⟩
 all_goals
  refine zb85 ?_;intro Y HY R c0 c1 c2 c3 c4 c5 hp0 hpl na nb;have HP:=P.next;have B0:=J (Below.refl Y.heap.size Y);have hxl:W.heap.size<Y.heap.size:=z12 R.o.box;have hxn:W.heap.size≠Y.heap.size:=yf;have HU:=J hu;clear P ek hu;go_enter func45,ntmps45
  go_upto_region 3 with fail
  refine zb69 ?_;intro e0 e1 e2 e3 e4 e5;clear HY c0 c1 c2 c3 c4 c5;rw[HU.o]at e1;go_wp2_with fail
  go_ret;exact⟨rfl,R.o.lo.trans ((B0.o.alloc La _).mono R.o.lo.size)⟩
theorem bare_c3 (P:PreB b off ns F t W) (ek:t.n.kind=3) :
 Calls prog 45 #[.slice (some ⟨b,off,none⟩) ns.length cap,.int .i64 (t.at_:Int)] W (BareP W (text3 (showZ F) t)):=by
 refine zb44 ?_;intro Y HY R c0 c1 c2 c3 c4 c5 hp0 hpl na nb HP B0;clear P ek;go_enter func45,ntmps45
 go_upto_region 3 with fail
 refine zb69 ?_;intro e0 e1 e2 e3 e4 e5;clear HY c0 c1 c2 c3 c4 c5;go_wp2_with fail
 clear e0 e1 e2 e3 e4 e5;go_ret;refine⟨?_,R.o.lo.trans (B0.o.mono R.o.lo.size)⟩;simp only[text3];rfl
theorem bare_c4 (P:PreB b off ns F t W) (ek:t.n.kind=4) :
 Calls prog 45 #[.slice (some ⟨b,off,none⟩) ns.length cap,.int .i64 (t.at_:Int)] W (BareP W (text4 (showZ F) t)):=by
 refine zb44 ?_;intro Y HY R c0 c1 c2 c3 c4 c5 hp0 hpl na nb HP B0;clear P ek;go_enter func45,ntmps45
 go_upto_region 3 with fail
 refine zb69 ?_;intro e0 e1 e2 e3 e4 e5;clear HY c0 c1 c2 c3 c4 c5;go_wp2_with fail
 clear e0 e1 e2 e3 e4 e5;go_ret;refine⟨?_,R.o.lo.trans (B0.o.mono R.o.lo.size)⟩;simp only[text4];rfl
theorem bare_c5 (P:PreB b off ns F t W) (ek:t.n.kind=5) :
 Calls prog 45 #[.slice (some ⟨b,off,none⟩) ns.length cap,.int .i64 (t.at_:Int)] W (BareP W (text5 (showZ F) t)):=by
 refine zb44 ?_;intro Y HY R c0 c1 c2 c3 c4 c5 hp0 hpl na nb HP B0;clear P ek;go_enter func45,ntmps45
 go_upto_region 3 with fail
 refine zb69 ?_;intro e0 e1 e2 e3 e4 e5;clear HY c0 c1 c2 c3 c4 c5;go_wp2_with fail
 clear e0 e1 e2 e3 e4 e5;go_ret;refine⟨?_,R.o.lo.trans (B0.o.mono R.o.lo.size)⟩;simp only[text5,tx_name];rfl
theorem bare_c6 (P:PreB b off ns F t W) (ih:ShowC b off cap ns F) (ek:t.n.kind=6) :
 Calls prog 45 #[.slice (some ⟨b,off,none⟩) ns.length cap,.int .i64 (t.at_:Int)] W (BareP W (text6 (showZ F) t)):=by
 refine zb85 ?_;intro Y HY R c0 c1 c2 c3 c4 c5 hp0 hpl na nb;have hc:=z19 P.hs.toGood ek (c:=1) rfl;have HP:=P.first yf;obtain⟨T0,HT0,hl0,K0⟩:=R.o.kid (cap:=cap) ih 0 0 yf yf;have B0:=J (Below.refl Y.heap.size Y);clear P ek hc ih;go_enter func45,ntmps45
 go_upto_region 3 with fail
 refine zb69 ?_;intro e0 e1 e2 e3 e4 e5;clear HY c0 c1 c2 c3 c4 c5;go_upto_region 15 with fail
 have hb:Below Y.heap.size Y Y.drew:=Lb.drew;generalize hX1:Y.drew=X1 at hb;refine zb50 ?_;intro B1;clear hb hX1;clear e0 e1 e2 e3 e4 e5;refine pick_o 0 (.pointer (some ⟨W.heap.size,2,none⟩)) (R.o.at B1.o).2.2.1 ?_;refine pick_o (hy:=fun w' h=>ju) 1 (.string t.n.a) (R.o.at B1.o).2.2.1 ?_;refine z10 (i:=2) (v:=.string ((⟨#[102,110,32]⟩:ByteArray)++t.n.a)) yb rfl yb yb rfl rfl (fun w' _=>jv) (R.o.at B1.o).2.2.1 yd ?_;refine z10 (i:=3) (v:=.string (((⟨#[102,110,32]⟩:ByteArray)++t.n.a)++(⟨#[32,45,62,32]⟩:ByteArray))) yb rfl yb yb rfl rfl (fun w' _=>jv) (R.o.at B1.o).2.2.1 yd ?_
 refine pick_o 4 (.slice (some ⟨b,off,none⟩) ns.length cap) (R.o.at B1.o).2.2.1 ?_;refine pick_o 5 (.int .i64 ((t.kid 0).at_:Int)) (R.o.at B1.o).2.2.1 ?_;refine zb55 ?_;intro X2 B2;refine⟨_,rfl,(R.o.at B2.o).2.2.1,?_⟩;refine z15 yd ?_;refine z10 (i:=7) (v:=.string ((((⟨#[102,110,32]⟩:ByteArray)++t.n.a)++(⟨#[32,45,62,32]⟩:ByteArray))++tx T0)) yb rfl yb yb rfl rfl (fun w' _=>jv) (R.o.at B2.o).2.2.1 yd ?_;refine pick_o 8 (.string ((((⟨#[102,110,32]⟩:ByteArray)++t.n.a)++(⟨#[32,45,62,32]⟩:ByteArray))++tx T0)) (R.o.at B2.o).2.2.1 ?_;refine z34 yb ?_;obtain⟨e0,e1,e2,e3,e4,e5⟩:=R.o.at B2.o
 go_wp2_with fail
 clear e0 e1 e2 e3 e4 e5;go_ret;refine⟨?_,R.o.lo.trans (B2.o.mono R.o.lo.size)⟩;simp only[text6,<-z24,tx_name];rw[HT0.o];rfl
theorem bare_c7 (P:PreB b off ns F t W) (ih:ShowC b off cap ns F) (ek:t.n.kind=7) :
 Calls prog 45 #[.slice (some ⟨b,off,none⟩) ns.length cap,.int .i64 (t.at_:Int)] W (BareP W (text7 (showZ F) t)):=by
 refine zb85 ?_;intro Y HY R c0 c1 c2 c3 c4 c5 hp0 hpl na nb;have hc:=z19 P.hs.toGood ek (c:=2) rfl;have HP:=P.first yf;obtain⟨T0,HT0,hl0,K0⟩:=R.o.kid (cap:=cap) ih 0 5 yf yf;obtain⟨T1,HT1,hl1,K1⟩:=R.o.kid (cap:=cap) ih 1 6 yf yf;have D1:=R.o.place (cap:=cap) 1 yf;have B0:=J (Below.refl Y.heap.size Y);clear P ek hc ih;go_enter func45,ntmps45
 go_upto_region 3 with fail
 refine zb69 ?_;intro e0 e1 e2 e3 e4 e5;clear HY c0 c1 c2 c3 c4 c5;go_wp2_with fail
 clear e0 e1 e2 e3 e4 e5;refine zb46 ?_;intro X1 B1 e0 e1 e2 e3 e4 e5;go_wp2_with fail
 clear e0 e1 e2 e3 e4 e5;refine(D1.o X1 B1.o).mono ?_;rintro e Xk ⟨rfl,rfl⟩;go_wp2_with fail
 refine zb52 ?_;intro X2 B2 e0 e1 e2 e3 e4 e5;go_wp2_with fail
 clear e0 e1 e2 e3 e4 e5;go_ret;refine⟨?_,R.o.lo.trans (B2.o.mono R.o.lo.size)⟩;simp only[text7,<-z24];rw[HT0.o,HT1.o];rfl
theorem bare_c8 (P:PreB b off ns F t W) (ih:ShowC b off cap ns F) (ek:t.n.kind=8) :
 Calls prog 45 #[.slice (some ⟨b,off,none⟩) ns.length cap,.int .i64 (t.at_:Int)] W (BareP W (text8 (showZ F) t)):=by
 refine zb13 ?_;intro Y HY R c0 c1 c2 c3 c4 c5 hp0 hpl na nb HP T0 HT0 hl0 K0 T1 HT1 hl1 K1 D1 B0;clear P ek ih;go_enter func45,ntmps45
 go_upto_region 3 with fail
 refine zb69 ?_;intro e0 e1 e2 e3 e4 e5;clear HY c0 c1 c2 c3 c4 c5;go_upto_region 19 with fail
 have hb:Below Y.heap.size Y Y.drew:=Lb.drew;generalize hX1:Y.drew=X1 at hb;refine zb50 ?_;intro B1;clear hb hX1;clear e0 e1 e2 e3 e4 e5;refine pick_o 0 (.pointer (some ⟨W.heap.size,2,none⟩)) (R.o.at B1.o).2.2.1 ?_;refine pick_o (hy:=fun w' h=>ju) 1 (.string t.n.a) (R.o.at B1.o).2.2.1 ?_;refine z10 (i:=2) (v:=.string ((⟨#[108,101,116,32]⟩:ByteArray)++t.n.a)) yb rfl yb yb rfl rfl (fun w' _=>jv) (R.o.at B1.o).2.2.1 yd ?_;refine z10 (i:=3) (v:=.string (((⟨#[108,101,116,32]⟩:ByteArray)++t.n.a)++(⟨#[32,61,32]⟩:ByteArray))) yb rfl yb yb rfl rfl (fun w' _=>jv) (R.o.at B1.o).2.2.1 yd ?_
 refine pick_o 4 (.slice (some ⟨b,off,none⟩) ns.length cap) (R.o.at B1.o).2.2.1 ?_;refine pick_o 5 (.int .i64 ((t.kid 0).at_:Int)) (R.o.at B1.o).2.2.1 ?_;refine pick_o 9 (.slice (some ⟨b,off,none⟩) ns.length cap) (R.o.at B1.o).2.2.1 ?_;refine pick_o 10 (.slice (some ⟨b,off,none⟩) ns.length cap) (R.o.at B1.o).2.2.1 ?_;refine pick_o 11 (.int .i64 (t.at_:Int)) (R.o.at B1.o).2.2.1 ?_;refine zb55 ?_;intro X2 B2;refine⟨_,rfl,(R.o.at B2.o).2.2.1,?_⟩;refine z15 yd ?_
 refine z10 (i:=7) (v:=.string ((((⟨#[108,101,116,32]⟩:ByteArray)++t.n.a)++(⟨#[32,61,32]⟩:ByteArray))++tx T0)) yb rfl yb yb rfl rfl (fun w' _=>jv) (R.o.at B2.o).2.2.1 yd ?_;refine z10 (i:=8) (v:=.string (((((⟨#[108,101,116,32]⟩:ByteArray)++t.n.a)++(⟨#[32,61,32]⟩:ByteArray))++tx T0)++(⟨#[32,105,110,32]⟩:ByteArray))) yb rfl yb yb rfl rfl (fun w' _=>jv) (R.o.at B2.o).2.2.1 yd ?_;refine z16 (i:=12) (f:=83) (args:= #[.slice (some ⟨b,off,none⟩) ns.length cap,.int .i64 (t.at_:Int),.int .i64 1]) rfl yb rfl rfl yc ?_;refine(D1.o X2 B2.o).mono ?_;rintro e Xk ⟨rfl,rfl⟩
 refine⟨_,rfl,(R.o.at B2.o).2.2.1,?_⟩;refine z15 yd ?_;refine z16 (i:=13) (f:=22) (args:= #[.slice (some ⟨b,off,none⟩) ns.length cap,.int .i64 ((t.kid 1).at_:Int),.int .i64 0]) rfl yb rfl rfl yc ?_;refine(K1.o X2 B2.o).mono ?_;rintro e X3 ⟨rfl,hb⟩;have B3:=J (B2.o.trans (hb.mono B2.o.size));clear hb;refine⟨_,rfl,(R.o.at B3.o).2.2.1,?_⟩;refine z15 yd ?_;refine z10 (i:=14) (v:=.string ((((((⟨#[108,101,116,32]⟩:ByteArray)++t.n.a)++(⟨#[32,61,32]⟩:ByteArray))++tx T0)++(⟨#[32,105,110,32]⟩:ByteArray))++tx T1)) yb rfl yb yb rfl rfl (fun w' _=>jv) (R.o.at B3.o).2.2.1 yd ?_
 refine pick_o 15 (.string ((((((⟨#[108,101,116,32]⟩:ByteArray)++t.n.a)++(⟨#[32,61,32]⟩:ByteArray))++tx T0)++(⟨#[32,105,110,32]⟩:ByteArray))++tx T1)) (R.o.at B3.o).2.2.1 ?_;refine z34 yb ?_;obtain⟨e0,e1,e2,e3,e4,e5⟩:=R.o.at B3.o;go_wp2_with fail
 clear e0 e1 e2 e3 e4 e5;go_ret;refine⟨?_,R.o.lo.trans (B3.o.mono R.o.lo.size)⟩;simp only[text8,<-z24,tx_name];rw[HT0.o,HT1.o];rfl
theorem bare_c9 (P:PreB b off ns F t W) (ih:ShowC b off cap ns F) (ek:t.n.kind=9) :
 Calls prog 45 #[.slice (some ⟨b,off,none⟩) ns.length cap,.int .i64 (t.at_:Int)] W (BareP W (text9 (showZ F) t)):=by
 refine zb13 ?_;intro Y HY R c0 c1 c2 c3 c4 c5 hp0 hpl na nb HP T0 HT0 hl0 K0 T1 HT1 hl1 K1 D1 B0;clear P ek ih;go_enter func45,ntmps45
 go_upto_region 3 with fail
 refine zb69 ?_;intro e0 e1 e2 e3 e4 e5;clear HY c0 c1 c2 c3 c4 c5;go_upto_region 21 with fail
 have hb:Below Y.heap.size Y Y.drew:=Lb.drew;generalize hX1:Y.drew=X1 at hb;refine zb68 ?_;intro B1;clear hb;clear hX1;clear e0 e1 e2 e3 e4 e5;refine pick_o 0 (.pointer (some ⟨W.heap.size,2,none⟩)) ⟨(R.o.at B1.o).2.2.1,(R.o.at B1.o).2.2.2.1⟩ ?_;refine pick_o (hy:=fun w' h=>jw) 1 (.string t.n.a) ⟨(R.o.at B1.o).2.2.1,(R.o.at B1.o).2.2.2.1⟩ ?_;refine z10 (i:=2) (v:=.string ((⟨#[108,101,116,32,114,101,99,32]⟩:ByteArray)++t.n.a)) yb rfl yb yb rfl rfl (fun w' _=>jv) ⟨(R.o.at B1.o).2.2.1,(R.o.at B1.o).2.2.2.1⟩ yd ?_
 refine z10 (i:=3) (v:=.string (((⟨#[108,101,116,32,114,101,99,32]⟩:ByteArray)++t.n.a)++(⟨#[32]⟩:ByteArray))) yb rfl yb yb rfl rfl (fun w' _=>jv) ⟨(R.o.at B1.o).2.2.1,(R.o.at B1.o).2.2.2.1⟩ yd ?_;refine pick_o 4 (.pointer (some ⟨W.heap.size,3,none⟩)) ⟨(R.o.at B1.o).2.2.1,(R.o.at B1.o).2.2.2.1⟩ ?_;refine pick_o (hy:=fun w' h=>by simp[go_sem,h.2]) 5 (.string t.n.b) ⟨(R.o.at B1.o).2.2.1,(R.o.at B1.o).2.2.2.1⟩ ?_
 refine z10 (i:=6) (v:=.string ((((⟨#[108,101,116,32,114,101,99,32]⟩:ByteArray)++t.n.a)++(⟨#[32]⟩:ByteArray))++t.n.b)) yb rfl yb yb rfl rfl (fun w' _=>jv) ⟨(R.o.at B1.o).2.2.1,(R.o.at B1.o).2.2.2.1⟩ yd ?_;refine z10 (i:=7) (v:=.string (((((⟨#[108,101,116,32,114,101,99,32]⟩:ByteArray)++t.n.a)++(⟨#[32]⟩:ByteArray))++t.n.b)++(⟨#[32,61,32]⟩:ByteArray))) yb rfl yb yb rfl rfl (fun w' _=>jv) ⟨(R.o.at B1.o).2.2.1,(R.o.at B1.o).2.2.2.1⟩ yd ?_;refine pick_o 8 (.slice (some ⟨b,off,none⟩) ns.length cap) ⟨(R.o.at B1.o).2.2.1,(R.o.at B1.o).2.2.2.1⟩ ?_
 refine pick_o 9 (.int .i64 ((t.kid 0).at_:Int)) ⟨(R.o.at B1.o).2.2.1,(R.o.at B1.o).2.2.2.1⟩ ?_;refine pick_o 13 (.slice (some ⟨b,off,none⟩) ns.length cap) ⟨(R.o.at B1.o).2.2.1,(R.o.at B1.o).2.2.2.1⟩ ?_;refine pick_o 14 (.slice (some ⟨b,off,none⟩) ns.length cap) ⟨(R.o.at B1.o).2.2.1,(R.o.at B1.o).2.2.2.1⟩ ?_;refine pick_o 15 (.int .i64 (t.at_:Int)) ⟨(R.o.at B1.o).2.2.1,(R.o.at B1.o).2.2.2.1⟩ ?_;refine z16 (i:=10) (f:=22) (args:= #[.slice (some ⟨b,off,none⟩) ns.length cap,.int .i64 ((t.kid 0).at_:Int),.int .i64 0]) rfl yb rfl rfl yc ?_;refine(K0.o X1 B1.o).mono ?_;rintro e X2 ⟨rfl,hb⟩
 have B2:=J (B1.o.trans (hb.mono B1.o.size));clear hb;refine⟨_,rfl,⟨(R.o.at B2.o).2.2.1,(R.o.at B2.o).2.2.2.1⟩,?_⟩;refine z15 yd ?_;refine z10 (i:=11) (v:=.string ((((((⟨#[108,101,116,32,114,101,99,32]⟩:ByteArray)++t.n.a)++(⟨#[32]⟩:ByteArray))++t.n.b)++(⟨#[32,61,32]⟩:ByteArray))++tx T0)) yb rfl yb yb rfl rfl (fun w' _=>jv) ⟨(R.o.at B2.o).2.2.1,(R.o.at B2.o).2.2.2.1⟩ yd ?_
 refine z10 (i:=12) (v:=.string (((((((⟨#[108,101,116,32,114,101,99,32]⟩:ByteArray)++t.n.a)++(⟨#[32]⟩:ByteArray))++t.n.b)++(⟨#[32,61,32]⟩:ByteArray))++tx T0)++(⟨#[32,105,110,32]⟩:ByteArray))) yb rfl yb yb rfl rfl (fun w' _=>jv) ⟨(R.o.at B2.o).2.2.1,(R.o.at B2.o).2.2.2.1⟩ yd ?_;refine z16 (i:=16) (f:=83) (args:= #[.slice (some ⟨b,off,none⟩) ns.length cap,.int .i64 (t.at_:Int),.int .i64 1]) rfl yb rfl rfl yc ?_;refine(D1.o X2 B2.o).mono ?_;rintro e Xk ⟨rfl,rfl⟩;refine⟨_,rfl,⟨(R.o.at B2.o).2.2.1,(R.o.at B2.o).2.2.2.1⟩,?_⟩;refine z15 yd ?_
 refine z16 (i:=17) (f:=22) (args:= #[.slice (some ⟨b,off,none⟩) ns.length cap,.int .i64 ((t.kid 1).at_:Int),.int .i64 0]) rfl yb rfl rfl yc ?_;refine(K1.o X2 B2.o).mono ?_;rintro e X3 ⟨rfl,hb⟩;have B3:=J (B2.o.trans (hb.mono B2.o.size));clear hb;refine⟨_,rfl,⟨(R.o.at B3.o).2.2.1,(R.o.at B3.o).2.2.2.1⟩,?_⟩;refine z15 yd ?_
 refine z10 (i:=18) (v:=.string ((((((((⟨#[108,101,116,32,114,101,99,32]⟩:ByteArray)++t.n.a)++(⟨#[32]⟩:ByteArray))++t.n.b)++(⟨#[32,61,32]⟩:ByteArray))++tx T0)++(⟨#[32,105,110,32]⟩:ByteArray))++tx T1)) yb rfl yb yb rfl rfl (fun w' _=>jv) ⟨(R.o.at B3.o).2.2.1,(R.o.at B3.o).2.2.2.1⟩ yd ?_;refine pick_o 19 (.string ((((((((⟨#[108,101,116,32,114,101,99,32]⟩:ByteArray)++t.n.a)++(⟨#[32]⟩:ByteArray))++t.n.b)++(⟨#[32,61,32]⟩:ByteArray))++tx T0)++(⟨#[32,105,110,32]⟩:ByteArray))++tx T1)) ⟨(R.o.at B3.o).2.2.1,(R.o.at B3.o).2.2.2.1⟩ ?_;refine z34 yb ?_;obtain⟨e0,e1,e2,e3,e4,e5⟩:=R.o.at B3.o
 go_wp2_with fail
 clear e0 e1 e2 e3 e4 e5;go_ret;refine⟨?_,R.o.lo.trans (B3.o.mono R.o.lo.size)⟩;simp only[text9,<-z24,tx_name];rw[HT0.o,HT1.o];rfl
theorem bare_c10 (P:PreB b off ns F t W) (ih:ShowC b off cap ns F) (ek:t.n.kind=10) :
 Calls prog 45 #[.slice (some ⟨b,off,none⟩) ns.length cap,.int .i64 (t.at_:Int)] W (BareP W (text10 (showZ F) t)):=by
 refine zb8 ?_;intro Y HY R c0 c1 c2 c3 c4 c5 hp0 hpl na nb HP T0 HT0 hl0 K0 T1 HT1 hl1 K1 D1 T2 HT2 hl2 K2 D2 B0;clear P ek ih;go_enter func45,ntmps45
 go_upto_region 3 with fail
 refine zb69 ?_;intro e0 e1 e2 e3 e4 e5;clear HY c0 c1 c2 c3 c4 c5;go_wp2_with fail
 clear e0 e1 e2 e3 e4 e5;refine zb46 ?_;intro X1 B1 e0 e1 e2 e3 e4 e5;go_wp2_with fail
 clear e0 e1 e2 e3 e4 e5;refine(D1.o X1 B1.o).mono ?_;rintro e Xk ⟨rfl,rfl⟩;go_wp2_with fail
 refine zb52 ?_;intro X2 B2 e0 e1 e2 e3 e4 e5;go_wp2_with fail
 clear e0 e1 e2 e3 e4 e5;refine(D2.o X2 B2.o).mono ?_;rintro e Xk ⟨rfl,rfl⟩;go_wp2_with fail
 refine(K2.o X2 B2.o).mono ?_;rintro e X3 ⟨rfl,hb⟩;have B3:=J (B2.o.trans (hb.mono B2.o.size));clear hb;obtain⟨e0,e1,e2,e3,e4,e5⟩:=R.o.at B3.o;go_wp2_with fail
 clear e0 e1 e2 e3 e4 e5;go_ret;refine⟨?_,R.o.lo.trans (B3.o.mono R.o.lo.size)⟩;simp only[text10,<-z24];rw[HT0.o,HT1.o,HT2.o];rfl
theorem bare_c16 (P:PreB b off ns F t W) (ih:ShowC b off cap ns F) (ek:t.n.kind=16) :
 Calls prog 45 #[.slice (some ⟨b,off,none⟩) ns.length cap,.int .i64 (t.at_:Int)] W (BareP W (text16 (showZ F) t)):=by
 refine zb13 ?_;intro Y HY R c0 c1 c2 c3 c4 c5 hp0 hpl na nb HP T0 HT0 hl0 K0 T1 HT1 hl1 K1 D1 B0;clear P ek ih;go_enter func45,ntmps45
 go_upto_region 3 with fail
 refine zb69 ?_;intro e0 e1 e2 e3 e4 e5;clear HY c0 c1 c2 c3 c4 c5;go_wp2_with fail
 clear e0 e1 e2 e3 e4 e5;refine zb46 ?_;intro X1 B1 e0 e1 e2 e3 e4 e5;go_wp2_with fail
 clear e0 e1 e2 e3 e4 e5;refine(D1.o X1 B1.o).mono ?_;rintro e Xk ⟨rfl,rfl⟩;go_wp2_with fail
 refine zb52 ?_;intro X2 B2 e0 e1 e2 e3 e4 e5;go_wp2_with fail
 clear e0 e1 e2 e3 e4 e5;go_ret;refine⟨?_,R.o.lo.trans (B2.o.mono R.o.lo.size)⟩;simp only[text16,<-z24];rw[HT0.o,HT1.o];rfl
theorem bare_c22 (P:PreB b off ns F t W) (ih:ShowC b off cap ns F) (ek:t.n.kind=22) :
 Calls prog 45 #[.slice (some ⟨b,off,none⟩) ns.length cap,.int .i64 (t.at_:Int)] W (BareP W (text22 (showZ F) t)):=by
 refine zb85 ?_;intro Y HY R c0 c1 c2 c3 c4 c5 hp0 hpl na nb;have hc:=z19 P.hs.toGood ek (c:=1) rfl;have HP:=P.first yf;obtain⟨T0,HT0,hl0,K0⟩:=R.o.kid (cap:=cap) ih 0 6 yf yf;have B0:=J (Below.refl Y.heap.size Y);clear P ek hc ih;go_enter func45,ntmps45
 go_upto_region 3 with fail
 refine zb69 ?_;intro e0 e1 e2 e3 e4 e5;clear HY c0 c1 c2 c3 c4 c5;go_upto_region 45 with fail
 have hb:Below Y.heap.size Y Y.drew:=Lb.drew;generalize hX1:Y.drew=X1 at hb;refine zb50 ?_;intro B1;clear hb hX1;clear e0 e1 e2 e3 e4 e5;refine pick_o 0 (.pointer (some ⟨W.heap.size,2,none⟩)) (R.o.at B1.o).2.2.1 ?_;refine pick_o (hy:=fun w' h=>ju) 1 (.string t.n.a) (R.o.at B1.o).2.2.1 ?_;refine z10 (i:=2) (v:=.string ((⟨#[100,111,32]⟩:ByteArray)++t.n.a)) yb rfl yb yb rfl rfl (fun w' _=>jv) (R.o.at B1.o).2.2.1 yd ?_;refine z10 (i:=3) (v:=.string (((⟨#[100,111,32]⟩:ByteArray)++t.n.a)++(⟨#[32]⟩:ByteArray))) yb rfl yb yb rfl rfl (fun w' _=>jv) (R.o.at B1.o).2.2.1 yd ?_
 refine pick_o 4 (.slice (some ⟨b,off,none⟩) ns.length cap) (R.o.at B1.o).2.2.1 ?_;refine pick_o 5 (.int .i64 ((t.kid 0).at_:Int)) (R.o.at B1.o).2.2.1 ?_;refine z16 (i:=6) (f:=22) (args:= #[.slice (some ⟨b,off,none⟩) ns.length cap,.int .i64 ((t.kid 0).at_:Int),.int .i64 6]) rfl yb rfl rfl yc ?_;refine(K0.o X1 B1.o).mono ?_;rintro e X2 ⟨rfl,hb⟩;have B2:=J (B1.o.trans (hb.mono B1.o.size));clear hb;refine⟨_,rfl,(R.o.at B2.o).2.2.1,?_⟩;refine z15 yd ?_
 refine z10 (i:=7) (v:=.string ((((⟨#[100,111,32]⟩:ByteArray)++t.n.a)++(⟨#[32]⟩:ByteArray))++tx T0)) yb rfl yb yb rfl rfl (fun w' _=>jv) (R.o.at B2.o).2.2.1 yd ?_;refine pick_o 8 (.string ((((⟨#[100,111,32]⟩:ByteArray)++t.n.a)++(⟨#[32]⟩:ByteArray))++tx T0)) (R.o.at B2.o).2.2.1 ?_;refine z34 yb ?_;obtain⟨e0,e1,e2,e3,e4,e5⟩:=R.o.at B2.o;go_wp2_with fail
 clear e0 e1 e2 e3 e4 e5;go_ret;refine⟨?_,R.o.lo.trans (B2.o.mono R.o.lo.size)⟩;simp only[text22,<-z24,tx_name];rw[HT0.o];rfl
theorem bare_c20 (P:PreB b off ns F t W) (ih:ShowC b off cap ns F) (ek:t.n.kind=20) :
 Calls prog 45 #[.slice (some ⟨b,off,none⟩) ns.length cap,.int .i64 (t.at_:Int)] W (BareP W (text20 (showZ F) t)):=by
 refine zb8 ?_;intro Y HY R c0 c1 c2 c3 c4 c5 hp0 hpl na nb HP T0 HT0 hl0 K0 T1 HT1 hl1 K1 D1 T2 HT2 hl2 K2 D2 B0;clear P ek ih;go_enter func45,ntmps45
 go_upto_region 3 with fail
 refine zb69 ?_;intro e0 e1 e2 e3 e4 e5;clear HY c0 c1 c2 c3 c4 c5;go_upto_region 47 with fail
 have hb:Below Y.heap.size Y Y.drew:=Lb.drew;generalize hX1:Y.drew=X1 at hb;refine zb68 ?_;intro B1;clear hb;clear hX1;clear e0 e1 e2 e3 e4 e5;refine pick_o 0 (.slice (some ⟨b,off,none⟩) ns.length cap) ⟨(R.o.at B1.o).2.2.1,(R.o.at B1.o).2.2.2.1⟩ ?_;refine pick_o 1 (.int .i64 ((t.kid 0).at_:Int)) ⟨(R.o.at B1.o).2.2.1,(R.o.at B1.o).2.2.2.1⟩ ?_;refine pick_o 5 (.slice (some ⟨b,off,none⟩) ns.length cap) ⟨(R.o.at B1.o).2.2.1,(R.o.at B1.o).2.2.2.1⟩ ?_;refine pick_o 6 (.slice (some ⟨b,off,none⟩) ns.length cap) ⟨(R.o.at B1.o).2.2.1,(R.o.at B1.o).2.2.2.1⟩ ?_
 refine pick_o 7 (.int .i64 (t.at_:Int)) ⟨(R.o.at B1.o).2.2.1,(R.o.at B1.o).2.2.2.1⟩ ?_;refine pick_o 12 (.pointer (some ⟨W.heap.size,2,none⟩)) ⟨(R.o.at B1.o).2.2.1,(R.o.at B1.o).2.2.2.1⟩ ?_;refine pick_o (hy:=fun w' h=>jw) 13 (.string t.n.a) ⟨(R.o.at B1.o).2.2.1,(R.o.at B1.o).2.2.2.1⟩ ?_;refine pick_o 16 (.pointer (some ⟨W.heap.size,3,none⟩)) ⟨(R.o.at B1.o).2.2.1,(R.o.at B1.o).2.2.2.1⟩ ?_;refine pick_o (hy:=fun w' h=>by simp[go_sem,h.2]) 17 (.string t.n.b) ⟨(R.o.at B1.o).2.2.1,(R.o.at B1.o).2.2.2.1⟩ ?_
 refine pick_o 20 (.slice (some ⟨b,off,none⟩) ns.length cap) ⟨(R.o.at B1.o).2.2.1,(R.o.at B1.o).2.2.2.1⟩ ?_;refine pick_o 21 (.slice (some ⟨b,off,none⟩) ns.length cap) ⟨(R.o.at B1.o).2.2.1,(R.o.at B1.o).2.2.2.1⟩ ?_;refine pick_o 22 (.int .i64 (t.at_:Int)) ⟨(R.o.at B1.o).2.2.1,(R.o.at B1.o).2.2.2.1⟩ ?_;refine z16 (i:=2) (f:=22) (args:= #[.slice (some ⟨b,off,none⟩) ns.length cap,.int .i64 ((t.kid 0).at_:Int),.int .i64 0]) rfl yb rfl rfl yc ?_;refine(K0.o X1 B1.o).mono ?_;rintro e X2 ⟨rfl,hb⟩;have B2:=J (B1.o.trans (hb.mono B1.o.size));clear hb
 refine⟨_,rfl,⟨(R.o.at B2.o).2.2.1,(R.o.at B2.o).2.2.2.1⟩,?_⟩;refine z15 yd ?_;refine z10 (i:=3) (v:=.string ((⟨#[99,97,115,101,32]⟩:ByteArray)++tx T0)) yb rfl yb yb rfl rfl (fun w' _=>jv) ⟨(R.o.at B2.o).2.2.1,(R.o.at B2.o).2.2.2.1⟩ yd ?_;refine z10 (i:=4) (v:=.string (((⟨#[99,97,115,101,32]⟩:ByteArray)++tx T0)++(⟨#[32,111,102,32,110,105,108,32,45,62,32]⟩:ByteArray))) yb rfl yb yb rfl rfl (fun w' _=>jv) ⟨(R.o.at B2.o).2.2.1,(R.o.at B2.o).2.2.2.1⟩ yd ?_;refine z16 (i:=8) (f:=83) (args:= #[.slice (some ⟨b,off,none⟩) ns.length cap,.int .i64 (t.at_:Int),.int .i64 1]) rfl yb rfl rfl yc ?_
 refine(D1.o X2 B2.o).mono ?_;rintro e Xk ⟨rfl,rfl⟩;refine⟨_,rfl,⟨(R.o.at B2.o).2.2.1,(R.o.at B2.o).2.2.2.1⟩,?_⟩;refine z15 yd ?_;refine z16 (i:=9) (f:=22) (args:= #[.slice (some ⟨b,off,none⟩) ns.length cap,.int .i64 ((t.kid 1).at_:Int),.int .i64 0]) rfl yb rfl rfl yc ?_;refine(K1.o X2 B2.o).mono ?_;rintro e X3 ⟨rfl,hb⟩;have B3:=J (B2.o.trans (hb.mono B2.o.size));clear hb;refine⟨_,rfl,⟨(R.o.at B3.o).2.2.1,(R.o.at B3.o).2.2.2.1⟩,?_⟩;refine z15 yd ?_
 refine z10 (i:=10) (v:=.string ((((⟨#[99,97,115,101,32]⟩:ByteArray)++tx T0)++(⟨#[32,111,102,32,110,105,108,32,45,62,32]⟩:ByteArray))++tx T1)) yb rfl yb yb rfl rfl (fun w' _=>jv) ⟨(R.o.at B3.o).2.2.1,(R.o.at B3.o).2.2.2.1⟩ yd ?_;refine z10 (i:=11) (v:=.string (((((⟨#[99,97,115,101,32]⟩:ByteArray)++tx T0)++(⟨#[32,111,102,32,110,105,108,32,45,62,32]⟩:ByteArray))++tx T1)++(⟨#[32,124,32]⟩:ByteArray))) yb rfl yb yb rfl rfl (fun w' _=>jv) ⟨(R.o.at B3.o).2.2.1,(R.o.at B3.o).2.2.2.1⟩ yd ?_
 refine z10 (i:=14) (v:=.string ((((((⟨#[99,97,115,101,32]⟩:ByteArray)++tx T0)++(⟨#[32,111,102,32,110,105,108,32,45,62,32]⟩:ByteArray))++tx T1)++(⟨#[32,124,32]⟩:ByteArray))++t.n.a)) yb rfl yb yb rfl rfl (fun w' _=>jv) ⟨(R.o.at B3.o).2.2.1,(R.o.at B3.o).2.2.2.1⟩ yd ?_;refine z10 (i:=15) (v:=.string (((((((⟨#[99,97,115,101,32]⟩:ByteArray)++tx T0)++(⟨#[32,111,102,32,110,105,108,32,45,62,32]⟩:ByteArray))++tx T1)++(⟨#[32,124,32]⟩:ByteArray))++t.n.a)++(⟨#[32,58,58,32]⟩:ByteArray))) yb rfl yb yb rfl rfl (fun w' _=>jv) ⟨(R.o.at B3.o).2.2.1,(R.o.at B3.o).2.2.2.1⟩ yd ?_
 refine z10 (i:=18) (v:=.string ((((((((⟨#[99,97,115,101,32]⟩:ByteArray)++tx T0)++(⟨#[32,111,102,32,110,105,108,32,45,62,32]⟩:ByteArray))++tx T1)++(⟨#[32,124,32]⟩:ByteArray))++t.n.a)++(⟨#[32,58,58,32]⟩:ByteArray))++t.n.b)) yb rfl yb yb rfl rfl (fun w' _=>jv) ⟨(R.o.at B3.o).2.2.1,(R.o.at B3.o).2.2.2.1⟩ yd ?_
 refine z10 (i:=19) (v:=.string (((((((((⟨#[99,97,115,101,32]⟩:ByteArray)++tx T0)++(⟨#[32,111,102,32,110,105,108,32,45,62,32]⟩:ByteArray))++tx T1)++(⟨#[32,124,32]⟩:ByteArray))++t.n.a)++(⟨#[32,58,58,32]⟩:ByteArray))++t.n.b)++(⟨#[32,45,62,32]⟩:ByteArray))) yb rfl yb yb rfl rfl (fun w' _=>jv) ⟨(R.o.at B3.o).2.2.1,(R.o.at B3.o).2.2.2.1⟩ yd ?_;refine z16 (i:=23) (f:=83) (args:= #[.slice (some ⟨b,off,none⟩) ns.length cap,.int .i64 (t.at_:Int),.int .i64 2]) rfl yb rfl rfl yc ?_;refine(D2.o X3 B3.o).mono ?_;rintro e Xk ⟨rfl,rfl⟩;refine⟨_,rfl,⟨(R.o.at B3.o).2.2.1,(R.o.at B3.o).2.2.2.1⟩,?_⟩
 refine z15 yd ?_;refine z16 (i:=24) (f:=22) (args:= #[.slice (some ⟨b,off,none⟩) ns.length cap,.int .i64 ((t.kid 2).at_:Int),.int .i64 0]) rfl yb rfl rfl yc ?_;refine(K2.o X3 B3.o).mono ?_;rintro e X4 ⟨rfl,hb⟩;have B4:=J (B3.o.trans (hb.mono B3.o.size));clear hb;refine⟨_,rfl,⟨(R.o.at B4.o).2.2.1,(R.o.at B4.o).2.2.2.1⟩,?_⟩;refine z15 yd ?_
 refine z10 (i:=25) (v:=.string ((((((((((⟨#[99,97,115,101,32]⟩:ByteArray)++tx T0)++(⟨#[32,111,102,32,110,105,108,32,45,62,32]⟩:ByteArray))++tx T1)++(⟨#[32,124,32]⟩:ByteArray))++t.n.a)++(⟨#[32,58,58,32]⟩:ByteArray))++t.n.b)++(⟨#[32,45,62,32]⟩:ByteArray))++tx T2)) yb rfl yb yb rfl rfl (fun w' _=>jv) ⟨(R.o.at B4.o).2.2.1,(R.o.at B4.o).2.2.2.1⟩ yd ?_
 refine pick_o 26 (.string ((((((((((⟨#[99,97,115,101,32]⟩:ByteArray)++tx T0)++(⟨#[32,111,102,32,110,105,108,32,45,62,32]⟩:ByteArray))++tx T1)++(⟨#[32,124,32]⟩:ByteArray))++t.n.a)++(⟨#[32,58,58,32]⟩:ByteArray))++t.n.b)++(⟨#[32,45,62,32]⟩:ByteArray))++tx T2)) ⟨(R.o.at B4.o).2.2.1,(R.o.at B4.o).2.2.2.1⟩ ?_;refine z34 yb ?_;obtain⟨e0,e1,e2,e3,e4,e5⟩:=R.o.at B4.o;go_wp2_with fail
 clear e0 e1 e2 e3 e4 e5;go_ret;refine⟨?_,R.o.lo.trans (B4.o.mono R.o.lo.size)⟩;simp only[text20,<-z24,tx_name];rw[HT0.o,HT1.o,HT2.o];rfl
theorem bare_sign (P:PreB b off ns F t W) {l r:Int}{sg:List UInt8}(ih:ShowC b off cap ns F) (ek:t.n.kind=k) (hk:(k=11/\l=3/\r=4/\sg= [43])\/(k=12/\l=3/\r=4/\sg= [45])\/(k=13/\l=4/\r=5/\sg= [42])\/(k=14/\l=3/\r=3/\sg= [61])\/(k=15/\l=3/\r=3/\sg= [60])\/(k=19/\l=2/\r=1/\sg= [58,58])) :
 Calls prog 45 #[.slice (some ⟨b,off,none⟩) ns.length cap,.int .i64 (t.at_:Int)] W (BareP W (showZ F (t.kid 0) l++ [32]++sg++ [32]++showZ F (t.kid 1) r)):=by
 have hc:t.k.count=2:=by rcases hk with h|h|h|h|h|h<;>exact z19 P.hs.toGood (ek.trans h.1) rfl
 have hsg:sg.length<=8:=by rcases hk with h|h|h|h|h|h<;>(rw[h.2.2.2];decide)
 have HTw:=J (fun Y (R:PreB b off ns F t Y)=>two_calls (cap:=cap) R.hl R.hnt ih l r sg hsg R.hF R.hs R.hx yf hc R.hb R.hn);have HP:=P.first yf;clear hc hsg;rcases hk with ⟨rfl,rfl,rfl,rfl⟩|⟨rfl,rfl,rfl,rfl⟩|⟨rfl,rfl,rfl,rfl⟩|⟨rfl,rfl,rfl,rfl⟩|⟨rfl,rfl,rfl,rfl⟩|⟨rfl,rfl,rfl,rfl⟩
 all_goals
  refine zb85 ?_;intro Y HY R c0 c1 c2 c3 c4 c5 hp0 hpl na nb;have B0:=J (Below.refl Y.heap.size Y);clear P ek ih;go_enter func45,ntmps45
  go_upto_region 3 with fail
  refine zb69 ?_;intro e0 e1 e2 e3 e4 e5;clear HY c0 c1 c2 c3 c4 c5;go_wp2_with fail
  clear e0 e1 e2 e3 e4 e5;refine(HTw.o Y R.o.P).mono ?_;rintro e X1 ⟨rfl,hb⟩;have B1:=J (B0.o.trans (hb.mono B0.o.size));clear hb;generalize hTT:showZ F (t.kid 0) _++_++_++_++showZ F (t.kid 1) _=TT;have HTT:=J hTT;clear hTT HTw;obtain⟨e0,e1,e2,e3,e4,e5⟩:=R.o.at B1.o;go_wp2_with fail
  clear e0 e1 e2 e3 e4 e5;go_ret;refine⟨?_,R.o.lo.trans (B1.o.mono R.o.lo.size)⟩;rw[HTT.o];rfl
theorem bare_key (P:PreB b off ns F t W) (ih:ShowC b off cap ns F) (ek:t.n.kind=k) (hk:(k=17/\key= [102,115,116,32])\/(k=18/\key= [115,110,100,32])\/(k=21/\key= [112,114,105,110,116,32])) :
 Calls prog 45 #[.slice (some ⟨b,off,none⟩) ns.length cap,.int .i64 (t.at_:Int)] W (BareP W (key++showZ F (t.kid 0) 6)):=by
 rcases hk with ⟨rfl,rfl⟩|⟨rfl,rfl⟩|⟨rfl,rfl⟩
 all_goals
  refine zb85 ?_;intro Y HY R c0 c1 c2 c3 c4 c5 hp0 hpl na nb;have hc:=z19 P.hs.toGood ek (c:=1) rfl;have HP:=P.first yf;obtain⟨T0,HT0,hl0,K0⟩:=R.o.kid (cap:=cap) ih 0 6 yf yf;have B0:=J (Below.refl Y.heap.size Y);clear P ek hc ih;go_enter func45,ntmps45
  go_upto_region 3 with fail
  refine zb69 ?_;intro e0 e1 e2 e3 e4 e5;clear HY c0 c1 c2 c3 c4 c5;go_wp2_with fail
  clear e0 e1 e2 e3 e4 e5;refine zb46 ?_;intro X1 B1 e0 e1 e2 e3 e4 e5;go_wp2_with fail
  clear e0 e1 e2 e3 e4 e5;go_ret;refine⟨?_,R.o.lo.trans (B1.o.mono R.o.lo.size)⟩;rw[HT0.o];rfl
end
end
end Go.Proofs.YtfbojelpdccjaaaGreatDoor
