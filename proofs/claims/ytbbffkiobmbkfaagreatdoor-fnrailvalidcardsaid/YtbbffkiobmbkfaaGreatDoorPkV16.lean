import Derived.Test.YtbbffkiobmbkfaaGreatDoorPkV15
open Go.Proofs.Tryz
open Go.Value Go.IntKind
set_option maxHeartbeats 8000000
set_option maxRecDepth 100000
namespace Go.Proofs.YtbbffkiobmbkfaaGreatDoor
open Go.RowKit Go.Deep
variable {s:Cs}{i:Nat}{W:World}
section
open Go.RowKit Go.Deep
def clZ (es:List Ef) (t:Tp) (ss:List ByteArray) (sA:Cs):Nat->Cs
 |0=>sA
 |1=>handB t ss sA
 |j+2=>opZ es ss (clZ es t ss sA (j+1)) (t.kid (j+2))
theorem clZ_fold (es:List Ef) (t:Tp) (ss:List ByteArray) (sA:Cs):∀j,j+2<=t.k.count->clZ es t ss sA (j+1)=((t.kids.drop 2).take j).foldl (opZ es ss) (handB t ss sA)
 |0,_=>by simp[clZ]
 | j+1,h=>by
   have hl:j<(t.kids.drop 2).length:=wm;rw[take_next hl,List.foldl_append,<-clZ_fold es t ss sA j ya];have e:(t.kids.drop 2).getD j default=t.kid (j+2):=by
    unfold Tp.kid;simp[List.getD,List.getElem?_drop,Nat.add_comm]
   rw[e];rfl
theorem clZ_cost (es:List Ef) (t:Tp) (ss:List ByteArray) (sA:Cs) (hc:∀i,1<=i->i<t.k.count->(t.kid i).k.count=1):∀j,j+1<=t.k.count->(clZ es t ss sA j).o.length+10*(clZ es t ss sA j).rest<=sA.o.length+10*sA.rest+10*(((t.kids.drop 1).take j).map Tp.size).sum
 |0,_=>by simp[clZ]
 | j+1,h=>by
   have hl:j<(t.kids.drop 1).length:=wm;have ih:=clZ_cost es t ss sA hc j ya;have e:(t.kids.drop 1).getD j default=t.kid (j+1):=by
    unfold Tp.kid;simp[List.getD]
   have hsz:=(kids1 (hc (j+1) ya ya)).2;rw[take_next hl,List.map_append,List.sum_append,e];simp only[List.map_cons,List.map_nil,List.sum_cons,List.sum_nil,Nat.add_zero];have g1:(clZ es t ss sA (j+1)).o.length=(clZ es t ss sA j).o.length+1/\(clZ es t ss sA (j+1)).rest=(clZ es t ss sA j).rest+((t.kid (j+1)).kid 0).size:=by
    cases j with
    |zero=>simp[clZ,handB,Cs.wait,Cs.put,Cs.rest]
    |succ j=>simp[clZ,opZ,Cs.wait,Cs.put,Cs.rest]
   omega
theorem clZ_out (es:List Ef) (t:Tp) (ss:List ByteArray) (sA:Cs):∀j,sA.o.length<=(clZ es t ss sA j).o.length
 |0=>La
 |1=>by simp[clZ,handB,Cs.wait,Cs.put]
 | j+2=>by
   have:=clZ_out es t ss sA (j+1);simp only[clZ,opZ,Cs.wait,Cs.put,Lk,Ll,Lm];omega
theorem sum_takes (l:List Tp) (j:Nat):((l.take j).map Tp.size).sum<=(l.map Tp.size).sum:=sum_take l j
theorem shapeH {B:Nat}{w:World}{n:Nd}{us:List Value}{v:Value}(h:Shape B w n us v) (e:n.kind=23\/n.kind=24):∃u us' sl,us=u::us'/\v=.iface 121 (.agg #[int i64 n.kind,u,sl])/\RowAt B w sl us'/\us'.length<=1500:=by
 cases h<;>first|exact⟨_,_,_,rfl,rfl,zy,zy⟩|(exfalso;simp at e;done)|(exfalso;dsimp only at e;omega)
theorem km_store {B:Nat}{W0:World}{Mb:Nat}{ve:Value}(h:KmE B W0 Mb ve s W) {fr:Nat}(hfr:fr<s.o.length) {wh:Nat}(hw:wh<=2):∃g cap,W.cell? ⟨Mb,1,none⟩=some (.slice (some ⟨g,0,none⟩) s.o.length cap)/\Mb≠g/\(∃x,W.cell? ⟨g,fr*4+(wh+1),none⟩=some x)/\W.frozen? ⟨g,fr*4+(wh+1),none⟩=false/\(∀v:Int,KmE B W0 Mb ve (s.setAt fr wh v) (W.setCell ⟨g,fr*4+(wh+1),none⟩ (int i64 v))/\Kf W (W.setCell ⟨g,fr*4+(wh+1),none⟩ (int i64 v))):=by
 obtain⟨ls,vo,vl,h⟩:=h;obtain⟨g,cap,rfl⟩:=km_code h ya;obtain⟨-,cur,hc⟩:=z40 h.orow (g:=g) rfl;refine⟨g,cap,z11 h.blk 1,(fun e=>uq),⟨(s.o.getD fr default).cell (wh+1),by rw[h.orow.cellAt (fr*4+(wh+1)) ya,z51 In.cell 4 yk s.o _ ya,show(fr*4+(wh+1))/4=fr by omega,show(fr*4+(wh+1)) % 4=wh+1 by omega]⟩,z15 hc _,fun v=>km_set h hfr hw v⟩
theorem put_set (s:Cs):(s.put ⟨21,0,0,0⟩).setAt s.o.length 1 1=s.put ⟨21,0,1,0⟩:=by
 simp[Cs.put,Cs.setAt,In.lead]
theorem row_in {B:Nat}{W0:World}{Mb:Nat}{ve:Value}(h:KmE B W0 Mb ve s W) {g o:Nat}(h1:g<W0.heap.size) (h2:g≠Mb):W.cell? ⟨g,o,none⟩=W0.cell? ⟨g,o,none⟩:=by
 obtain⟨ls,vo,vl,h⟩:=h;exact Lj (a:=⟨g,o,none⟩) (h.kept g h1 h2)
section
variable {B:Nat}{W0:World}{Mb:Nat}{ae:Option Addr}{ce:Nat}{es:List Ef}{ns:List Nd}{K F:Nat}
theorem putHandler_calls (ex:Ex W0 Mb ae es) (ih:PutC B W0 Mb (.slice ae es.length ce) es ns K F) (hk1:K<=1000) (hMB:Mb<B) {t:Tp}{Tu:TypeId}{pu sl:Value}{us:List Value}{kn:Option Addr}{ss:List ByteArray}(hkd:t.n.kind=23\/t.n.kind=24) (hF:t.size<=F+1) (hs:Stands ns t) (hb:BdT t ss) (hK:ss.length+2*t.size<=K) (hB:s.o.length+10*s.rest+10*t.size<=950000) (f0:FormK B W0 (t.kid 0) (.iface Tu pu)) (hrow:RowAt B W0 sl us) (hul:us.length+1=t.k.count) (h2:2<=t.k.count) (hif:∀u∈us,∃T p,u=.iface T p) (hfk:∀i,i<us.length->FormK B W0 (t.kid (i+1)) (us.getD i default)) (h:KmE B W0 Mb (.slice ae es.length ce) s W) (hk:KnAt W kn ss.reverse) :
 Calls prog 52 #[.pointer (some ⟨Mb,0,none⟩),.agg #[int i64 t.n.kind,.iface Tu pu,sl],.pointer kn] W (SetP B W0 Mb (.slice ae es.length ce) (handZ es (partZ es F) t ss s) W):=by
 obtain⟨g,ro,cap,rfl,hgB,hgl,hcells⟩:=hrow;obtain⟨L,hL⟩:∃L,us.length=L:=⟨_,rfl⟩
 obtain⟨kd,hkd'⟩:∃k,t.n.kind=k:=⟨_,rfl⟩
 obtain⟨hh,hhh⟩:∃x,s.o.length=x:=⟨_,rfl⟩
 have Hhh:=U hhh;have HKd:=U (Lc hkd hkd');rw[hL]at hul;have HRow:=U (Lc hgB (Lc hgl (Lc hcells hL)));have hall:=kidsM h2;have s0:=hs.kid (i:=0) ya;have b0:=hb.kid0 (i:=0) ya (by unfold knownZ;rcases hkd with e|e<;>simp[e])
 have HCl:O (∀i,1<=i->i<t.k.count->(t.kid i).k.count=1/\((t.kid i).n.kind=if i=1 then 25 else 26)/\BdT ((t.kid i).kid 0) (ss++knownZ (t.kid i).n 0)):=fun i h1 hi=>(fun(h7:(t.kid i).k.count=1)=>⟨h7,(hb.clause hi).1 hkd ya,by
  have h9:=hb.inner hi h7;rw[show knownZ t.n i= [] by unfold knownZ;rcases hkd with e|e<;>simp[e],List.append_nil]at h9
  exact h9⟩) (hs.head hkd (t.kid i) (by
  have e:(t.kids.drop 1)[i-1]?=some (t.kid i):=by
   rw[List.getElem?_drop,show 1+(i-1)=i by omega];unfold Tp.kid;simp[List.getD,show i<t.kids.length by rw[t.kids_len];exact hi]
  exact Lh e)).2
 have HSz:O ((t.kid 0).size+((t.kids.drop 1).map Tp.size).sum+1=t.size):=by
  show _=_;have e:=t.kids_sum;rw[hall.1]at e |-;simp only[List.map_cons,List.sum_cons,List.drop_succ_cons,List.drop_zero]at e |-;omega
 have G0:=U (Lc f0 (Lc s0 b0));have HB:=U (show s.o.length+10*s.rest+10*t.size<=950000/\(t.kid 0).size<=F/\ss.length+2*(t.kid 0).size<=K/\ss.length<=1000/\L+1=t.k.count/\1<=L/\Mb<B/\t.n.kids=(t.k.count:Int) by have:=HSz.o;have:=hs.kids;omega);have HOne:O (1<=((t.kids.drop 1).map Tp.size).sum):=by
  show _<=_;rw[hall.1];simp only[List.drop_succ_cons,List.drop_zero,List.map_cons,List.sum_cons];have:=(t.kid 1).size_pos;omega
 have HL5:=U (show L<=1000 by have:=(z69 hs.toGood).2.1 (by rcases hkd with e|e<;>rw[e]<;>rfl);omega)
 have HFk:=U hfk;have HIf:=U hif;have HI:=U ih;have HX:=U ex;rw[hkd',hL];have bl:=(Below.refl W.heap.size W).alloc La (.cells #[int i64 kd,.iface Tu pu,.slice (some ⟨g,ro,none⟩) L cap] 121);have hA:=(Ld W (.cells #[int i64 kd,.iface Tu pu,.slice (some ⟨g,ro,none⟩) L cap] 121)).1;obtain⟨Y,hY⟩:∃Y,W.alloc (.cells #[int i64 kd,.iface Tu pu,.slice (some ⟨g,ro,none⟩) L cap] 121)=Y:=⟨_,rfl⟩
 rw[hY]at bl hA;have HY:=U hY;have HA1:=U hA;have S1:=U (h.below bl);have F1:=U (Kf.of_below bl);have KA1:=U (KnAt.frame (Kf.of_below bl) _ _ hk);have hkk:kd=23\/kd=24:=by rw[<-hkd'];exact hkd
 clear hkd hF hs hb hK hB f0 hul h2 hif hfk h hk hcells hgB hgl hL hkd' hhh hall s0 b0 bl hA hY ih ex hk1 hMB;go_enter func52,ntmps52
 go_upto_region 1 with fail
 rw[HY.o];clear HY;obtain⟨b9,hb9⟩:∃b,W.heap.size=b:=⟨_,rfl⟩
 rw[hb9]at HA1 |-;clear hb9;go_wp2_with fail
 refine(z41 ⟨21,0,0,0⟩ S1.o uw).mono ?_;rintro e X2 ⟨rfl,hst,fr⟩;have HA2:=U (fr.keep HA1.o yk yk yk);have S2:=U hst;have F2:=U (F1.o.trans fr);have KA2:=U (KnAt.frame fr _ _ KA1.o);clear S1 F1 HA1 KA1;clear hst fr;rw[Hhh.o];obtain⟨xk,hxk⟩:∃x:Int,(if t.n.kind=23 then 1 else 0)=x:=⟨_,rfl⟩
 have Hxk:=U hxk;clear hxk;have c0:=z11 HA2.o 0;simp at c0;rcases hkk with rfl|rfl
 case' inl=>
  obtain⟨gc,cpc,hm1,hne,⟨xo,hxo⟩,hfz,hset⟩:=km_store (fr:=s.o.length) (wh:=1) S2.o (by rw[z36];omega) ya;have hset2:=hset 1;rw[put_set]at hset2;rw[z36,Hhh.o]at hm1;rw[Hhh.o]at hxo hfz hset2;have hi0:(0:Int)<=(hh:Int):=ya;have hi1:(hh:Int)<((hh+1:Nat):Int):=ya;obtain⟨Z,hZ⟩:∃Z,X2.setCell ⟨gc,hh*4+(1+1),none⟩ (int i64 1)=Z:=⟨_,rfl⟩
  rw[hZ]at hset2;have HZ:=U hZ;clear hset hZ;go_upto_region 4 with fail
  rw[HZ.o];clear HZ c0 hm1 hne hxo hfz hi0 hi1;have HA3:=U (hset2.2.keep HA2.o yk yk yk);have S3:O (KmE B W0 Mb (.slice ae es.length ce) (s.put ⟨21,0,xk,0⟩) Z):=by rw[<-Hxk.o,if_pos HKd.o.2];exact hset2.1
  have F3:=U (F2.o.trans hset2.2);have KA3:=U (KnAt.frame hset2.2 _ _ KA2.o);clear hset2 HA2 S2 F2 KA2 X2;rename World=>X3
 case' inr=>
  go_upto_region 4 with fail
  clear c0;have HA3:=U HA2.o;have S3:O (KmE B W0 Mb (.slice ae es.length ce) (s.put ⟨21,0,xk,0⟩) X2):=by rw[<-Hxk.o,if_neg (by rw[HKd.o.2];decide)];exact S2.o
  have F3:=U F2.o;have KA3:=U KA2.o;clear HA2 S2 F2 KA2;rename World=>X3
 all_goals
  have c:=z11 HA3.o 1;simp at c;go_wp2_with fail
  clear c;refine(HI.o (t.kid 0) _ kn ss _ _ HB.o.2.1 G0.o.2.1 G0.o.2.2 HB.o.2.2.1 (by have:=z36 s ⟨21,0,xk,0⟩;have:=z42 s ⟨21,0,xk,0⟩;have:=HSz.o;have:=HB.o;have:=(t.kid 0).size_pos;have hp:1<=((t.kids.drop 1).map Tp.size).sum:=HOne.o;omega) G0.o.1 S3.o KA3.o).mono ?_;rintro e X4 ⟨⟨xp,rfl⟩,hst,fr⟩;have HA4:=U (fr.keep HA3.o yk yk yk);have S4:=U hst;have F4:=U (F3.o.trans fr);have KA4:=U (KnAt.frame fr _ _ KA3.o);clear S3 F3 HA3 KA3;clear hst fr;have R0:=U (part_r (es:=es) (K:=K) F (t.kid 0) ss (s.put ⟨21,0,xk,0⟩) HB.o.2.1 G0.o.2.1 HB.o.2.2.1)
  obtain⟨r1,hr1⟩:∃x,partZ es F (t.kid 0) ss (s.put ⟨21,0,xk,0⟩)=x:=⟨_,rfl⟩
  rw[hr1]at S4 R0;have Er1:=U hr1;clear hr1;have HC1:=U (show r1.o.length+10*r1.rest+10*((t.kids.drop 1).map Tp.size).sum+8<=950000/\s.o.length<r1.o.length by have:=R0.o.cost;have:=R0.o.o;have:=z36 s ⟨21,0,xk,0⟩;have:=z42 s ⟨21,0,xk,0⟩;have:=HSz.o;have:=HB.o;have:=(t.kid 0).size_pos;omega);go_wp2_with fail
  refine(z41 ⟨23,0,0,0⟩ S4.o (by have:=HC1.o;omega)).mono ?_;rintro e X5 ⟨rfl,hst,fr⟩;have HA5:=U (fr.keep HA4.o yk yk yk);have S5:=U hst;have F5:=U (F4.o.trans fr);have KA5:=U (KnAt.frame fr _ _ KA4.o);clear S4 F4 HA4 KA4;clear hst fr;go_upto_region 6 with fail
  have hb:Below X5.heap.size X5 X5.drew:=Lb.drew;have HA6:=U ((hb.block _ (z13 HA5.o)).trans HA5.o);have S6:=U (S5.o.below hb);have F6:=U (F5.o.trans (Kf.of_below hb));have KA6:=U (KnAt.frame (Kf.of_below hb) _ _ KA5.o);clear S5 F5 HA5 KA5;clear hb;obtain⟨gc,cpc,hm1,hne,⟨xo,hxo⟩,hfz,hset⟩:=km_store (fr:=s.o.length) (wh:=0) S6.o (by rw[z36];have:=HC1.o;omega) ya;obtain⟨L2,hL2⟩:∃x:Nat,(r1.put ⟨23,0,0,0⟩).o.length=x:=⟨_,rfl⟩
  rw[hL2]at hm1;have hset2:=hset ((r1.put ⟨23,0,0,0⟩).o.length:Int);rw[setAt_lead,hL2]at hset2;have hi0:(0:Int)<=(hh:Int):=ya;have hi1:(hh:Int)<(L2:Int):=by have h0:s.o.length<(r1.put ⟨23,0,0,0⟩).o.length:=(by rw[z36];have:=HC1.o;omega);have:=Hhh.o;omega
  rw[Hhh.o]at hxo hfz hset2;refine z31 (S:=fun w=>w.cell? ⟨Mb,1,none⟩=some (.slice (some ⟨gc,0,none⟩) L2 cpc)) (n:=13) (ls:= #[false,false,false,false,false,false,false,false,false,false,false,false,false]) ye rfl ye ?_;generalize X5.drew=X6 at*;refine pick_o 0 (.pointer (some ⟨Mb,0,none⟩)) hm1 ?_;refine pick_o 1 (.pointer (some ⟨Mb,0,none⟩)) hm1 ?_;refine pick_o 2 (.pointer (some ⟨Mb,1,none⟩)) hm1 ?_;refine pick_o (hy:=fun w' hw=>ut) 3 (.slice (some ⟨gc,0,none⟩) L2 cpc) hm1 ?_;refine pick_o 4 (int i64 (hh:Int)) hm1 ?_;refine pick_o 5 (.pointer (some ⟨Mb,0,none⟩)) hm1 ?_
  refine pick_o 6 (.pointer (some ⟨Mb,0,none⟩)) hm1 ?_;refine pick_o 7 (.pointer (some ⟨Mb,1,none⟩)) hm1 ?_;refine pick_o (hy:=fun w' hw=>ut) 8 (.slice (some ⟨gc,0,none⟩) L2 cpc) hm1 ?_;refine pick_o 9 (int i64 (L2:Int)) hm1 ?_;refine pick_o (hy:=fun w' hw=>by simp[go_sem,hi0,hi1]) 10 (.pointer (some ⟨gc,hh*4,none⟩)) hm1 ?_;refine pick_o 11 (.pointer (some ⟨gc,hh*4+1,none⟩)) hm1 ?_;have hS2:(X6.setCell ⟨gc,hh*4+(0+1),none⟩ (int i64 (L2:Int))).cell? ⟨Mb,1,none⟩=some (.slice (some ⟨gc,0,none⟩) L2 cpc):=(Lj (Lg X6 ⟨gc,hh*4+(0+1),none⟩ _ Mb hne)).trans hm1
  refine z38 (i:=12) (w1:=X6.setCell ⟨gc,hh*4+(0+1),none⟩ (int i64 (L2:Int))) rfl rfl ye rfl rfl (by simp[go_sem,hxo,hfz]) hS2 ?_;refine z37 ye ?_;have hst:=hset2.1;have fr:=hset2.2;have HA7:=U (fr.keep HA6.o yk yk yk);have S7:=U hst;have F7:=U (F6.o.trans fr);have KA7:=U (KnAt.frame fr _ _ KA6.o);clear S6 F6 HA6 KA6;clear hst fr hset2 hset hS2 hm1 hne hxo hfz hi0 hi1 hL2;generalize X6.setCell ⟨gc,hh*4+(0+1),none⟩ (int i64 (L2:Int))=X7 at*;have HsA:O ((r1.put ⟨23,0,0,0⟩).lead s.o.length 0=handA (partZ es F) t ss s):=by
   show _=_;unfold handA;rw[Hxk.o,Er1.o]
  rw[<-Hhh.o]at S7;obtain⟨sA,hsA⟩:∃x,(r1.put ⟨23,0,0,0⟩).lead s.o.length 0=x:=⟨_,rfl⟩
  have HC2:=U (show sA.o.length+10*sA.rest+10*((t.kids.drop 1).map Tp.size).sum+7<=950000/\s.o.length<sA.o.length by rw[<-hsA,z67,z36,show((r1.put ⟨23,0,0,0⟩).lead s.o.length 0).rest=r1.rest from rfl];have:=HC1.o;omega);rw[hsA]at S7 HsA;clear hsA;have c:=z11 HA7.o 2;simp at c;go_wp2_with fail
  clear c;go_loopw [45] (fun i wr=> ∃j:Nat,i=int i64 (j:Int)/\j<=L/\O (KmE B W0 Mb (.slice ae es.length ce) (clZ es t ss sA j) wr/\Kf X7 wr)) (fun i _=>L-(intOf i).toNat)
  case atStart=>exact⟨0,rfl,Li _,S7.o,Kf.refl _⟩
  case round=>
   obtain⟨j,rfl,hj,HJ⟩:=hrel;by_cases hjl:(j:Int)<(L:Int)
   .have hjL:j<L:=by omega
    have hcell:=(row_in (o:=ro+j) HJ.o.1 HRow.o.2.1 (by have:=HRow.o.1;have:=HB.o;omega)).trans (HRow.o.2.2.1 j (by rw[HRow.o.2.2.2];exact hjL));have hju:j<us.length:=by rw[HRow.o.2.2.2];exact hjL
    rw[Lr hju]at hcell;obtain⟨Tj,pj,hj'⟩:=HIf.o us[j] (List.getElem_mem hju);have hfj:=HFk.o j hju;rw[show us.getD j default=us[j] by simp[List.getD,hju],hj']at hfj;rw[hj']at hcell;have hKj:=KnAt.frame HJ.o.2 _ _ KA7.o;have hcl:=HCl.o (j+1) ya uw;have hcost:=clZ_cost es t ss sA (fun i h1 hi=>(HCl.o i h1 hi).1) j uw;have hsum:=sum_takes (t.kids.drop 1) j;have HPC:O (∀m:Int,m=t.n.kids-2->Calls prog 103 #[.pointer (some ⟨Mb,0,none⟩),.iface Tj pj,.pointer kn,int i64 m] wr (SetP B W0 Mb (.slice ae es.length ce) (clZ es t ss sA (j+1)) wr)):=fun m hm=>by
     cases j with
     | zero=>
       have:=clause_ret (m:=m) HB.o.2.2.2.1 (by have:=HC2.o;omega) hcl.1 (by have h:=hcl.2.2;rwa[show knownZ (t.kid 1).n 0= [(t.kid 1).n.a] by unfold knownZ;rw[if_pos (Or.inr (by rw[hcl.2.1];rfl))]]at h) hfj HJ.o.1 hKj (by rw[hcl.2.1];rfl);rw[hm]at this |-;exact this
     |succ j=>exact clause_op (m:=m) HX.o HB.o.2.2.2.1 (by have:=HC2.o;omega) hcl.1 (by have h:=hcl.2.2;have e6:(t.kid (j+1+1)).n.kind=26:=(by rw[hcl.2.1,if_neg ya]);rwa[show knownZ (t.kid (j+1+1)).n 0= [(t.kid (j+1+1)).n.b,(t.kid (j+1+1)).n.c] by unfold knownZ;simp[e6]]at h) hfj HJ.o.1 hKj (by rw[hcl.2.1,if_neg ya])
    have HM:O (wrap64 ((L:Int)-1)=t.n.kids-2):=by
     show _=_;have:=HB.o;have h5:=HL5.o;unfold wrap64;omega
    have c2:=z11 (HJ.o.2.keep HA7.o yk yk yk) 2;simp at c2;have hi0:(0:Int)<=(j:Int):=ya;have HstP:=U (z55 hjl);have HW1:=U (z30 (x:=j) (by have:=HL5.o;omega));clear hjL hju hj' hfj hKj hcl hcost hsum;go_wp2_with fail
    refine(HPC.o _ HM.o).mono ?_;rintro e Xn ⟨⟨xn,rfl⟩,hn,fn⟩;have HJ2:=U (Lc hn (HJ.o.2.trans fn));clear hn fn HPC c2 hcell;go_wp2_with fail
    try rw[HW1.o]
    exact⟨⟨j+1,rfl,ya,HJ2⟩,HstP.o⟩
   .have hjL:j=L:=by omega
    subst hjL;have HA20:=U (HJ.o.2.keep HA7.o yk yk yk);have S20:=U HJ.o.1;have F20:=U (F7.o.trans HJ.o.2);have KA20:=U (KnAt.frame HJ.o.2 _ _ KA7.o);have HOut:=U (clZ_out es t ss sA j);clear HJ hj;go_upto_region 12 with fail
    have hb:Below wr.heap.size wr wr.drew:=Lb.drew;have HA21:=U ((hb.block _ (z13 HA20.o)).trans HA20.o);have S21:=U (S20.o.below hb);have F21:=U (F20.o.trans (Kf.of_below hb));have KA21:=U (KnAt.frame (Kf.of_below hb) _ _ KA20.o);clear S20 F20 HA20 KA20;clear hb;obtain⟨gc,cpc,hm1,hne,⟨xo,hxo⟩,hfz,hset⟩:=km_store (fr:=s.o.length) (wh:=2) S21.o wn ya;obtain⟨L2,hL2⟩:∃x:Nat,(clZ es t ss sA j).o.length=x:=⟨_,rfl⟩
    rw[hL2]at hm1;have hset2:=hset ((clZ es t ss sA j).o.length:Int);rw[setAt_lead,hL2]at hset2;have hi0:(0:Int)<=(hh:Int):=ya;have hi1:(hh:Int)<(L2:Int):=by have h0:s.o.length<(clZ es t ss sA j).o.length:=wn;have:=Hhh.o;omega
    rw[Hhh.o]at hxo hfz hset2;refine z31 (S:=fun w=>w.cell? ⟨Mb,1,none⟩=some (.slice (some ⟨gc,0,none⟩) L2 cpc)) (n:=13) (ls:= #[false,false,false,false,false,false,false,false,false,false,false,false,false]) ye rfl ye ?_;generalize wr.drew=X21 at*;refine pick_o 0 (.pointer (some ⟨Mb,0,none⟩)) hm1 ?_;refine pick_o 1 (.pointer (some ⟨Mb,0,none⟩)) hm1 ?_;refine pick_o 2 (.pointer (some ⟨Mb,1,none⟩)) hm1 ?_;refine pick_o (hy:=fun w' hw=>ut) 3 (.slice (some ⟨gc,0,none⟩) L2 cpc) hm1 ?_;refine pick_o 4 (int i64 (hh:Int)) hm1 ?_;refine pick_o 5 (.pointer (some ⟨Mb,0,none⟩)) hm1 ?_
    refine pick_o 6 (.pointer (some ⟨Mb,0,none⟩)) hm1 ?_;refine pick_o 7 (.pointer (some ⟨Mb,1,none⟩)) hm1 ?_;refine pick_o (hy:=fun w' hw=>ut) 8 (.slice (some ⟨gc,0,none⟩) L2 cpc) hm1 ?_;refine pick_o 9 (int i64 (L2:Int)) hm1 ?_;refine pick_o (hy:=fun w' hw=>by simp[go_sem,hi0,hi1]) 10 (.pointer (some ⟨gc,hh*4,none⟩)) hm1 ?_;refine pick_o 11 (.pointer (some ⟨gc,hh*4+3,none⟩)) hm1 ?_;have hS2:(X21.setCell ⟨gc,hh*4+(2+1),none⟩ (int i64 (L2:Int))).cell? ⟨Mb,1,none⟩=some (.slice (some ⟨gc,0,none⟩) L2 cpc):=(Lj (Lg X21 ⟨gc,hh*4+(2+1),none⟩ _ Mb hne)).trans hm1
    refine z38 (i:=12) (w1:=X21.setCell ⟨gc,hh*4+(2+1),none⟩ (int i64 (L2:Int))) rfl rfl ye rfl rfl (by simp[go_sem,hxo,hfz]) hS2 ?_;refine z37 ye ?_;have hst:=hset2.1;have fr:=hset2.2;have HA22:=U (fr.keep HA21.o yk yk yk);have S22:=U hst;have F22:=U (F21.o.trans fr);have KA22:=U (KnAt.frame fr _ _ KA21.o);clear S21 F21 HA21 KA21;clear hst fr hset2 hset hS2 hm1 hne hxo hfz hi0 hi1 hL2;generalize X21.setCell ⟨gc,hh*4+(2+1),none⟩ (int i64 (L2:Int))=X22 at*;go_wp2_with fail
    go_end0
    refine⟨⟨_,rfl⟩,?_,F22.o⟩;unfold handZ;rw[<-HsA.o];have hj1:1<=j/\j+1=t.k.count:=uw;have hfo:=clZ_fold es t ss sA (j-1) ya;rw[show j-1+1=j by omega,List.take_of_length_le wm]at hfo;rw[<-hfo];have hS:=S22.o;rw[<-Hhh.o]at hS;exact hS
end
def effOk (es:List Ef) (i:Nat):Bool:=
 nameOk (es.getD i default).name && (!effIn (es.take i) (es.getD i default).name && (decide (1<=(es.getD i default).arg/\(es.getD i default).arg<=4) && decide (1<=(es.getD i default).res/\(es.getD i default).res<=4)))
def nodeHas (es:List Ef) (n:Nd):Bool:=!((n.kind==22 || n.kind==26) && !effIn es n.a)
def progZ (es:List Ef) (ns:List Nd) (T:Bool):Bool:=decide (es.length<=8) && (T && ((List.range es.length).all (effOk es) && ns.all (nodeHas es)))
theorem range_step {es:List Ef}(h:(List.range i).all (effOk es)=true) (h':effOk es i=true):(List.range (i+1)).all (effOk es)=true:=by
 rw[List.range_succ,List.all_append,h];simpa using h'
theorem range_false {es:List Ef}(hi:i<es.length) (h:effOk es i=false):(List.range es.length).all (effOk es)=false:=by
 rw[List.all_eq_false];exact⟨i,List.mem_range.2 hi,zx⟩
theorem has_step {es:List Ef}{ns:List Nd}(hi:i<ns.length) (h:(ns.take i).all (nodeHas es)=true) (hn:nodeHas es (ns.getD i default)=true):(ns.take (i+1)).all (nodeHas es)=true:=by
 rw[List.take_succ_eq_append_getElem hi,List.all_append,h];simp only[List.getD,Lr hi]at hn;simpa using hn
theorem has_false {es:List Ef}{ns:List Nd}(hi:i<ns.length) (hn:nodeHas es (ns.getD i default)=false):ns.all (nodeHas es)=false:=by
 rw[List.all_eq_false];simp only[List.getD,Lr hi]at hn;exact⟨ns[i],List.getElem_mem _,by simpa using hn⟩
theorem effsTake {w:World}{b off:Nat}{es:List Ef}(h:EffsAt w b off es):EffsAt w b off (es.take i):=fun k hk c hc=>by
 have hk':k<es.length:=wq;have hki:k<i:=wq;rw[h k hk' c hc];simp[List.getD,hki]
theorem specProgC_calls (be bt ce cn:Nat) (es:List Ef) (ns:List Nd) (T:Bool) (w:World) (hce:es.length<=ce) (hbe:be<w.heap.size) (hbt:bt<w.heap.size) (hE:EffsAt w be 0 es) (hN:NodesAt w bt 0 ns) (me:es.length<=1048576) (mn:ns.length<=1048576) (hTT:∀w':World,bt<w'.heap.size->NodesAt w' bt 0 ns->Calls prog 23 #[.slice (some ⟨bt,0,none⟩) ns.length cn] w' fun e w''=> e=.returned (.bool T)/\Below w'.heap.size w' w'') :
 Calls prog 8 #[.agg #[.slice (some ⟨be,0,none⟩) es.length ce,.slice (some ⟨bt,0,none⟩) ns.length cn]] w fun e w'=> e=.returned (.bool (progZ es ns T))/\Below w.heap.size w w':= by
 have hb1:Below w.heap.size w (w.alloc (.cells #[.slice (some ⟨be,0,none⟩) es.length ce,.slice (some ⟨bt,0,none⟩) ns.length cn] 26)):=Lb.alloc La _;have HT:O (Calls _ _ _ _ _):=hTT (w.alloc (.cells #[.slice (some ⟨be,0,none⟩) es.length ce,.slice (some ⟨bt,0,none⟩) ns.length cn] 26)) (Le hbt hb1.size) (hN.below hb1 hbt);have HB1:O (Below w.heap.size w (w.alloc (.cells #[.slice (some ⟨be,0,none⟩) es.length ce,.slice (some ⟨bt,0,none⟩) ns.length cn] 26))):=hb1
 have HK1:O ((w.alloc (.cells #[.slice (some ⟨be,0,none⟩) es.length ce,.slice (some ⟨bt,0,none⟩) ns.length cn] 26)).heap[w.heap.size]?=some (.cells #[.slice (some ⟨be,0,none⟩) es.length ce,.slice (some ⟨bt,0,none⟩) ns.length cn] 26)):=(Ld w _).1;obtain⟨R,hR⟩:∃R,progZ es ns T=R:=⟨_,rfl⟩
 have HR:O (progZ es ns T=R):=hR;have HE:O (EffsAt w be 0 es):=hE;have HN:O (NodesAt w bt 0 ns):=hN;have HMN:O (ns.length<=1048576):=mn;rw[hR];obtain⟨len,hlen⟩:∃len,es.length=len:=⟨_,rfl⟩
 obtain⟨ln,hln⟩:∃ln,ns.length=ln:=⟨_,rfl⟩
 have Hlen:O (es.length=len/\ns.length=ln):=⟨hlen,hln⟩
 rw[hlen,hln]at HT HB1 HK1 |-;have HCe:O (len<=ce):=yp;clear hce;have HM:O (len<=1048576/\ln<=1048576):=vh;clear hb1 hR hE hN me mn hTT hlen hln;by_cases h8:(8:Int)<(len:Int)
 ·have HF:O (R=false):=by
   show R=false;rw[<-HR.o,progZ,Hlen.o.1,decide_eq_false ya,Bool.false_and]
  clear HT HE HN HK1;go_enter func8,ntmps8
  go_wp2_with fail
  go_ret;exact⟨jj,HB1.o⟩
 have h8':(len:Int)<=8:=ya;have HR8:O ((T && ((List.range len).all (effOk es) && ns.all (nodeHas es)))=R):=by
  show _=R;rw[<-HR.o,progZ,Hlen.o.1,decide_eq_true ya,Bool.true_and]
 clear h8;go_enter func8,ntmps8
 go_wp2_with fail
 refine HT.o.mono ?_;rintro e w2 ⟨rfl,hb2⟩;have hbw2:=HB1.o.trans (hb2.mono HB1.o.size);have kp2:=(hb2.block w.heap.size yq).trans HK1.o;clear HT HB1 HK1 hb2
 cases T with
 | false=>
   go_wp2_with fail
   go_ret;exact⟨ws,hbw2⟩
 | true=>
   have HRR:O (((List.range len).all (effOk es) && ns.all (nodeHas es))=R):=HR8.o;clear HR8 HR;go_wp2_with fail
   go_loopw [3] (fun i wr=> ∃i':Nat,i=int i64 i'/\i'<=len/\O ((List.range i').all (effOk es)=true)/\wr.heap[w.heap.size]?=some (.cells #[.slice (some ⟨be,0,none⟩) len ce,.slice (some ⟨bt,0,none⟩) ln cn] 26)/\Below w.heap.size w wr) (fun i _=>len-(intOf i).toNat)
   case atStart=>exact⟨0,rfl,Li _,rfl,kp2,hbw2⟩
   case round=>
    obtain⟨i',rfl,hle,HI,kp,hbx⟩:=hrel;have hAlt:=z13 kp;obtain⟨pA,pB⟩:=fcl2 kp;have hEx:=HE.o.below hbx hbe;by_cases hlt:(i':Int)<(len:Int)
    .have hic:(i':Int)<=(ce:Int):=by have:=HCe.o;omega
     have hil:i'<es.length:=by rw[Hlen.o.1];omega
     have c0:=hEx i' hil 0 ya;have c1:=hEx i' hil 1 ya;have c2:=hEx i' hil 2 ya;obtain⟨ef,hef⟩:∃ef,es.getD i' default=ef:=⟨_,rfl⟩
     have hF:effOk es i'= false->O (R=false):=fun h=>by
      show R=false;have:=range_false hil h;rw[Hlen.o.1]at this;rw[<-HRR.o,this,Bool.false_and]
     have hS:effOk es i'= true->O ((List.range (i'+ 1)).all (effOk es)=true):=fun h=>range_step HI.o h
     have hdef:effOk es i'= (nameOk ef.name && (!effIn (es.take i') ef.name && (decide (1<=ef.arg/\ef.arg<=4) && decide (1<=ef.res/\ef.res<=4)))):=by rw[effOk,hef]
     rw[hdef]at hF hS;rw[hef]at c0 c1 c2;simp only[Ef.cell,Nat.add_zero,Nat.zero_add]at c0 c1 c2;have hpl:=effPlace_lt (es.take i') ef.name 0;have htl:(es.take i').length=i':= jd;have HP:O (∀w,EffsAt w be 0 es->_):=fun w h=>l2Eff_calls (some ⟨be,0,none⟩) ce (es.take i') ef.name w (by rw[htl];have:=HM.o;omega) (fun _=>⟨be,0,rfl,effsTake h⟩)
     rw[htl]at HP;have hLn:∀w,_:=fun w=>specName_calls ef.name w
     have hbW:Below w.heap.size w (wr.alloc (.cells #[.string ef.name,int i64 ef.arg,int i64 ef.res] 64)):=hbx.alloc vr _;have HEW:O (EffsAt (wr.alloc (.cells #[.string ef.name,int i64 ef.arg,int i64 ef.res] 64)) be 0 es):=HE.o.below hbW hbe;obtain⟨nm,ar,rs⟩:=ef;dsimp only at*;clear hEx hil hdef hef HI HE htl;generalize effPlace (es.take i') nm 0=pl at*;generalize effIn (es.take i') nm=ein at*;go_wp2_with fail
     have u0:(wr.alloc (.cells #[.string nm,int i64 ar,int i64 rs] 64)).cell? ⟨wr.heap.size,0,none⟩=some (.string nm):=yf;have u1:(wr.alloc (.cells #[.string nm,int i64 ar,int i64 rs] 64)).cell? ⟨wr.heap.size,1,none⟩=some (int i64 ar):=yf;have u2:(wr.alloc (.cells #[.string nm,int i64 ar,int i64 rs] 64)).cell? ⟨wr.heap.size,2,none⟩=some (int i64 rs):=yf;have kpW:=(Below.heap_alloc wr (.cells #[.string nm,int i64 ar,int i64 rs] 64) _ hAlt).trans kp;have uA:=z11 kpW 0;simp at uA;have hEW:wr.heap.size<(wr.alloc (.cells #[.string nm,int i64 ar,int i64 rs] 64)).heap.size:=yq
     have hAW:w.heap.size<(wr.alloc (.cells #[.string nm,int i64 ar,int i64 rs] 64)).heap.size:=jd;have hbeW:be<(wr.alloc (.cells #[.string nm,int i64 ar,int i64 rs] 64)).heap.size:=jd;generalize (wr.alloc (.cells #[.string nm,int i64 ar,int i64 rs] 64))=W at*;have HED:O (EffsAt W be 0 es):=HEW.o;have v0:∀x:Later W.heap.size W,x.w.cell? ⟨wr.heap.size,0,none⟩=some (.string nm):=fun x=>x.cell hEW u0
     have v1:∀x:Later W.heap.size W,x.w.cell? ⟨wr.heap.size,1,none⟩=some (int i64 ar):=fun x=>x.cell hEW u1
     have v2:∀x:Later W.heap.size W,x.w.cell? ⟨wr.heap.size,2,none⟩=some (int i64 rs):=fun x=>x.cell hEW u2
     have vA:∀x:Later W.heap.size W,x.w.cell? ⟨w.heap.size,0,none⟩=some (.slice (some ⟨be,0,none⟩) len ce):=fun x=>x.cell hAW uA
     clear c0 c1 c2 pA pB kp HEW
     cases hno:nameOk nm with
     | false=>
       have HF:=hF (by rw[hno];rfl);rw[hno]at hLn;have HL:O (∀w,_):=hLn;clear hF hS hLn hpl;refine z28 W.heap.size ye ye ?_;repeat(go_big_quiet_step (first
        |(rename_i x;go_at_call 24;refine(HL.o _).mono ?_;rintro e w5 ⟨rfl,hb5⟩;exact⟨rfl,⟨w5,x.h.trans (hb5.mono x.h.size)⟩,rfl⟩)
        |(rename_i x;go_at_call 25;refine(HP.o _ (HED.o.below x.h hbeW)).mono ?_;rintro e w6 ⟨rfl,rfl⟩;exact⟨rfl,x,rfl⟩)))
       refine wpQuiet_nil ?_;rintro w5 ⟨x,rfl⟩;all_goals
        have hx:=hbW.trans (x.h.mono hbW.size);clear u0 u1 u2 uA v0 v1 v2 vA;go_wp2_with fail
        go_ret;exact⟨jj,hx⟩
     | true=>
       rw[hno]at hLn;have HL:O (∀w,_):=hLn;rw[hno]at hF hS;clear hLn;by_cases hp0:0<=pl
       ·have hei:ein=true:=by
         cases hx:ein with
         |true=>rfl
         |false=>have:=hpl.2 hx;omega
        have HF:=hF (by rw[hei];rfl);clear hF hS hpl hei;refine z28 W.heap.size ye ye ?_;repeat(go_big_quiet_step (first
         |(rename_i x;go_at_call 24;refine(HL.o _).mono ?_;rintro e w5 ⟨rfl,hb5⟩;exact⟨rfl,⟨w5,x.h.trans (hb5.mono x.h.size)⟩,rfl⟩)
         |(rename_i x;go_at_call 25;refine(HP.o _ (HED.o.below x.h hbeW)).mono ?_;rintro e w6 ⟨rfl,rfl⟩;exact⟨rfl,x,rfl⟩)))
        refine wpQuiet_nil ?_;rintro w5 ⟨x,rfl⟩;all_goals
         have hx:=hbW.trans (x.h.mono hbW.size);clear u0 u1 u2 uA v0 v1 v2 vA;go_wp2_with fail
         go_ret;exact⟨jj,hx⟩
       .have hei:ein=false:=hpl.1 ya;have hp0:pl<0:=ya;rw[hei]at hF hS;clear hpl hei;by_cases g1:ar<1
        ·have HF:=hF wt;clear hF hS;refine z28 W.heap.size ye ye ?_;repeat(go_big_quiet_step (first
          |(rename_i x;go_at_call 24;refine(HL.o _).mono ?_;rintro e w5 ⟨rfl,hb5⟩;exact⟨rfl,⟨w5,x.h.trans (hb5.mono x.h.size)⟩,rfl⟩)
          |(rename_i x;go_at_call 25;refine(HP.o _ (HED.o.below x.h hbeW)).mono ?_;rintro e w6 ⟨rfl,rfl⟩;exact⟨rfl,x,rfl⟩)))
         refine wpQuiet_nil ?_;rintro w5 ⟨x,rfl⟩;all_goals
          have hx:=hbW.trans (x.h.mono hbW.size);clear u0 u1 u2 uA v0 v1 v2 vA;go_wp2_with fail
          go_ret;exact⟨jj,hx⟩
        .have g1:1<=ar:=by omega
         by_cases g2:4<ar
         ·have HF:=hF wt;clear hF hS;refine z28 W.heap.size ye ye ?_;repeat(go_big_quiet_step (first
           |(rename_i x;go_at_call 24;refine(HL.o _).mono ?_;rintro e w5 ⟨rfl,hb5⟩;exact⟨rfl,⟨w5,x.h.trans (hb5.mono x.h.size)⟩,rfl⟩)
           |(rename_i x;go_at_call 25;refine(HP.o _ (HED.o.below x.h hbeW)).mono ?_;rintro e w6 ⟨rfl,rfl⟩;exact⟨rfl,x,rfl⟩)))
          refine wpQuiet_nil ?_;rintro w5 ⟨x,rfl⟩;all_goals
           have hx:=hbW.trans (x.h.mono hbW.size);clear u0 u1 u2 uA v0 v1 v2 vA;go_wp2_with fail
           go_ret;exact⟨jj,hx⟩
         .have g2:ar<=4:=by omega
          by_cases g3:rs<1
          ·have HF:=hF wu;clear hF hS;refine z28 W.heap.size ye ye ?_;repeat(go_big_quiet_step (first
            |(rename_i x;go_at_call 24;refine(HL.o _).mono ?_;rintro e w5 ⟨rfl,hb5⟩;exact⟨rfl,⟨w5,x.h.trans (hb5.mono x.h.size)⟩,rfl⟩)
            |(rename_i x;go_at_call 25;refine(HP.o _ (HED.o.below x.h hbeW)).mono ?_;rintro e w6 ⟨rfl,rfl⟩;exact⟨rfl,x,rfl⟩)))
           refine wpQuiet_nil ?_;rintro w5 ⟨x,rfl⟩;all_goals
            have hx:=hbW.trans (x.h.mono hbW.size);clear u0 u1 u2 uA v0 v1 v2 vA;go_wp2_with fail
            go_ret;exact⟨jj,hx⟩
          .have g3:1<=rs:=by omega
           by_cases g4:4<rs
           ·have HF:=hF wu;clear hF hS;refine z28 W.heap.size ye ye ?_;repeat(go_big_quiet_step (first
             |(rename_i x;go_at_call 24;refine(HL.o _).mono ?_;rintro e w5 ⟨rfl,hb5⟩;exact⟨rfl,⟨w5,x.h.trans (hb5.mono x.h.size)⟩,rfl⟩)
             |(rename_i x;go_at_call 25;refine(HP.o _ (HED.o.below x.h hbeW)).mono ?_;rintro e w6 ⟨rfl,rfl⟩;exact⟨rfl,x,rfl⟩)))
            refine wpQuiet_nil ?_;rintro w5 ⟨x,rfl⟩;all_goals
             have hx:=hbW.trans (x.h.mono hbW.size);clear u0 u1 u2 uA v0 v1 v2 vA;go_wp2_with fail
             go_ret;exact⟨jj,hx⟩
           .have g4:rs<=4:=by omega
            have HS:=hS (by rw[decide_eq_true (show 1<=ar/\ar<=4 from⟨g1,g2⟩),decide_eq_true (show 1<=rs/\rs<=4 from⟨g3,g4⟩)];rfl);clear hF hS;refine z28 W.heap.size ye ye ?_;repeat(go_big_quiet_step (first
             |(rename_i x;go_at_call 24;refine(HL.o _).mono ?_;rintro e w5 ⟨rfl,hb5⟩;exact⟨rfl,⟨w5,x.h.trans (hb5.mono x.h.size)⟩,rfl⟩)
             |(rename_i x;go_at_call 25;refine(HP.o _ (HED.o.below x.h hbeW)).mono ?_;rintro e w6 ⟨rfl,rfl⟩;exact⟨rfl,x,rfl⟩)))
            refine wpQuiet_nil ?_;rintro w5 ⟨x,rfl⟩;all_goals
             have hx:=hbW.trans (x.h.mono hbW.size);have kp5:=(x.h.block w.heap.size hAW).trans kpW;clear u0 u1 u2 uA v0 v1 v2 vA;go_wp2_with fail
             have hs:len-(intOf (int i64 ((i'+ 1:Nat):Int))).toNat<len-(intOf (int i64 (i':Int))).toNat:=yu;try rw[show wrap64 ((i':Int)+1)=((i'+ 1:Nat):Int) by have:=HM.o;unfold wrap64;omega]
             exact⟨⟨i'+ 1,rfl,ya,HS,kp5,hx⟩,hs⟩
    .have e:i'= len:=by omega
     subst e;have HR2:O (ns.all (nodeHas es)=R):=by
      show _=R;rw[<-HRR.o,HI.o,Bool.true_and]
     clear HRR HI hEx;go_wp2_with fail
     clear pA pB;go_loopw [5] (fun j wr=> ∃k:Nat,j=int i64 k/\k<=ln/\O ((ns.take k).all (nodeHas es)=true)/\wr.heap[w.heap.size]?=some (.cells #[.slice (some ⟨be,0,none⟩) i' ce,.slice (some ⟨bt,0,none⟩) ln cn] 26)/\Below w.heap.size w wr) (fun j _=>ln-(intOf j).toNat)
     case atStart=>exact⟨0,rfl,Li _,rfl,kp,hbx⟩
     case round=>
      clear kp hbx hAlt;obtain⟨k,rfl,hk,HI,kp,hbx⟩:=hrel;have hAlt:=z13 kp;obtain⟨pA,pB⟩:=fcl2 kp;by_cases hlt:(k:Int)<(ln:Int)
      .have hil:k<ns.length:=by rw[Hlen.o.2];omega
       have hNx:=HN.o.below hbx hbt;obtain⟨c0,c1,c2,c3,c4,c5⟩:=fsx (hNx k hil);obtain⟨nd,hnd⟩:∃nd,ns.getD k default=nd:=⟨_,rfl⟩
       have hF:nodeHas es nd=false->O (R=false):=fun h=>by
        show R=false;rw[<-HR2.o];exact has_false hil zq
       have hS:nodeHas es nd=true->O ((ns.take (k+1)).all (nodeHas es)=true):=fun h=>has_step hil HI.o zq
       rw[hnd]at c0 c1 c2 c3 c4 c5;simp only[Nd.cell,Nat.add_zero,Nat.zero_add]at c0 c1 c2 c3 c4 c5;obtain⟨kd,num,a,bb,cc,kids⟩:=nd;dsimp only at*;have hpl:=effPlace_lt es a 0;have hszx:=hbx.size;have HP:O (∀w',EffsAt w' be 0 es->_):=fun w' h=>l2Eff_calls (some ⟨be,0,none⟩) ce es a w' (by rw[Hlen.o.1];have:=HM.o;omega) (fun _=>⟨be,0,rfl,h⟩)
       rw[Hlen.o.1]at HP;have HEx:O (EffsAt wr be 0 es):=HE.o.below hbx hbe;have hbeR:be<wr.heap.size:=ya;simp only[nodeHas]at hF hS;clear hNx hil hnd HI;generalize effPlace es a 0=pl at*;generalize effIn es a=ein at*;have hq:(kd==22)=true\/((kd==22)=false/\(kd==26)=true)\/((kd==22)=false/\(kd==26)=false):=by
        cases (kd==22)<;>cases (kd==26)<;>simp
       rcases hq with k22|⟨k22,k26⟩|⟨k22,k26⟩
       .by_cases hp:pl<0
        .have hei:ein=false:=hpl.1 hp;have HF:=hF (by rw[hei,k22];rfl);clear hF hS hpl;go_wp2_with fail
         refine(HP.o _ (HEx.o.below (Lb.alloc La _) hbeR)).mono ?_;rintro e w6 ⟨rfl,rfl⟩;go_wp2_with fail
         go_ret;exact⟨jj,hbx.alloc hszx _⟩
        ·have hei:ein=true:=by
          cases hx:ein with
          |true=>rfl
          |false=>exact absurd (hpl.2 hx) hp
         have HS:=hS wv;clear hF hS hpl;go_wp2_with fail
         refine(HP.o _ (HEx.o.below (Lb.alloc La _) hbeR)).mono ?_;rintro e w6 ⟨rfl,rfl⟩;go_wp2_with fail
         refine zb91 ?_;intro hs;exact⟨⟨k+1,rfl,ya,HS,(Below.heap_alloc _ _ _ hAlt).trans kp,hbx.alloc hszx _⟩,hs⟩
       .by_cases hp:pl<0
        .have hei:ein=false:=hpl.1 hp;have HF:=hF (by rw[hei,k26];simp);clear hF hS hpl;go_wp2_with fail
         refine(HP.o _ (HEx.o.below (Lb.alloc La _) hbeR)).mono ?_;rintro e w6 ⟨rfl,rfl⟩;go_wp2_with fail
         go_ret;exact⟨jj,hbx.alloc hszx _⟩
        ·have hei:ein=true:=by
          cases hx:ein with
          |true=>rfl
          |false=>exact absurd (hpl.2 hx) hp
         have HS:=hS wv;clear hF hS hpl;go_wp2_with fail
         refine(HP.o _ (HEx.o.below (Lb.alloc La _) hbeR)).mono ?_;rintro e w6 ⟨rfl,rfl⟩;go_wp2_with fail
         refine zb91 ?_;intro hs;exact⟨⟨k+1,rfl,ya,HS,(Below.heap_alloc _ _ _ hAlt).trans kp,hbx.alloc hszx _⟩,hs⟩
       .have HS:=hS ww;clear hF hS hpl HP;go_wp2_with fail
        refine zb91 ?_;intro hs;exact⟨⟨k+1,rfl,ya,HS,(Below.heap_alloc _ _ _ hAlt).trans kp,hbx.alloc hszx _⟩,hs⟩
      .have e:k=ln:=by omega
       have HT:O (R=true):=by
        show R=true;rw[<-HR2.o];have:=HI.o;rwa[List.take_of_length_le (by rw[Hlen.o.2];omega)]at this
       clear HI;go_wp2_with fail
       go_ret;exact⟨by rw[HT.o];rfl,hbx⟩
end
end Go.Proofs.YtbbffkiobmbkfaaGreatDoor
