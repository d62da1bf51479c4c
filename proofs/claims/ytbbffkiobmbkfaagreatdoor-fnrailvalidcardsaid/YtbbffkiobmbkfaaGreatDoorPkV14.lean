import Derived.Test.YtbbffkiobmbkfaaGreatDoorPkV13
open Go.Proofs.Tryz
open Go.Value Go.IntKind
set_option maxHeartbeats 8000000
set_option maxRecDepth 100000
namespace Go.Proofs.YtbbffkiobmbkfaaGreatDoor
open Go.RowKit Go.Deep
variable {s:Cs}{ss:List ByteArray}{t:Tp}{v:Value}{W:World}
section
open Go.RowKit Go.Deep
theorem one_calls (x:Bool) (W:World):Calls prog 106 #[.bool x] W fun e W'=> e=.returned (int i64 (if x=true then 1 else 0))/\W=W':= by
 cases x with
 | true=>
   go_enter func106,ntmps106
   go_wp2_with fail
   go_ret;exact⟨rfl,rfl⟩
 | false=>
   go_enter func106,ntmps106
   go_wp2_with fail
   go_ret;exact⟨rfl,rfl⟩
theorem take_next {l:List Tp}{j:Nat}(h:j<l.length):l.take (j+1)=l.take j++ [l.getD j default]:=by
 rw[List.take_add_one];simp[List.getD,h]
theorem sum_take (l:List Tp) (j:Nat):((l.take j).map Tp.size).sum<=(l.map Tp.size).sum:=by
 have:=congrArg (fun l=>(List.map Tp.size l).sum) (List.take_append_drop j l);simp only[List.map_append,List.sum_append]at this;omega
theorem sum_next {l:List Tp}{j:Nat}(h:j<l.length):((l.take j).map Tp.size).sum+(l.getD j default).size<=(l.map Tp.size).sum:=by
 have h1:=sum_take l (j+1);rw[take_next h]at h1;simp only[List.map_append,List.sum_append,List.map_cons,List.map_nil,List.sum_cons,List.sum_nil]at h1;omega
section
variable {W0:World}{Mb:Nat}{ae:Option Addr}{ce b off cap:Nat}{es:List Ef}{ns:List Nd}{K F:Nat}
theorem part_k (cx:Cx W0 Mb ae b off es ns) (hk1:K<=1000) (ih:PartC W0 Mb ae ce b off cap es ns K F) (hF:t.size<=F+1) (hs:Stands ns t) (hK:ss.length+2*t.size<=K) (hB:s.o.length+10*s.rest+10*t.size<=950000) (h:CmE W0 Mb (.slice ae es.length ce) (.slice (some ⟨b,off,none⟩) ns.length cap) s W) (hv:NmT W v ss) (ek:t.n.kind≠1/\t.n.kind≠2/\t.n.kind≠3/\t.n.kind≠4/\t.n.kind≠5/\t.n.kind≠6/\t.n.kind≠8/\t.n.kind≠9/\t.n.kind≠10/\t.n.kind≠20/\t.n.kind≠23/\t.n.kind≠24) :
 Calls prog 20 #[.pointer (some ⟨Mb,0,none⟩),int i64 (t.at_:Int),v] W (LeadPost W0 Mb (.slice ae es.length ce) (.slice (some ⟨b,off,none⟩) ns.length cap) ((t.kids.foldl (fun s c=>partZ es F c ss s) s).put (lastZ es t.n)) W):=by
 obtain⟨adn,cpn,rfl⟩:=hv.is;refine zb95 ?_;unhygienic intros
 have HC:O ((t.n.kids=(t.k.count:Int))/\t.k.count<=1000):=⟨hs.kids,by obtain⟨-,-,hsz⟩:=hs.lt;have h1:=Fo.count_le t.k;have h2:=cx.tl;unfold Tp.size at hsz;omega⟩
 have HZ:O ((t.kids.map Tp.size).sum+1=t.size):=t.kids_sum;have HX:=U cx;have HIH:=U ih;have HS:=U hs;have HK:=U (Lc hK (Lc hF hk1));have HB:=U hB;clear h hv hgood cx ih hs hK hF hB hk1;go_enter func20,ntmps20
 go_upto_region 1 with fail
 rw[HY.o];clear HY c0 c1 c2 c3 c4 c5 d1;obtain⟨kd,hkd⟩:∃kd,t.n.kind=kd:=⟨_,rfl⟩
 obtain⟨kc,hkc⟩:∃kc:Nat,t.k.count=kc:=⟨_,rfl⟩
 have hkk:t.n.kids=(kc:Int):=by rw[<-hkc];exact HC.o.1
 have HKc:=U hkc;have HKd:=U hkd;rw[hkd]at ek HA;rw[hkk]at HA;obtain⟨k1,k2,k3,k4,k5,k6,k8,k9,k10,k20,k23,k24⟩:=ek;have z1:(kd==1)=false:=by simp[k1]
 have z2:(kd==2)=false:=by simp[k2]
 have z3:(kd==3)=false:=by simp[k3]
 have z4:(kd==4)=false:=by simp[k4]
 have z5:(kd==5)=false:=by simp[k5]
 have z6:(kd==6)=false:=by simp[k6]
 have z8:(kd==8)=false:=by simp[k8]
 have z9:(kd==9)=false:=by simp[k9]
 have z10:(kd==10)=false:=by simp[k10]
 have z20:(kd==20)=false:=by simp[k20]
 have z23:(kd==23)=false:=by simp[k23]
 have z24:(kd==24)=false:=by simp[k24]
 clear hkd hkc k1 k2 k3 k4 k5 k6 k8 k9 k10 k20 k23 k24;obtain⟨e0,e1,e2,e3,e4,e5,d0,d1⟩:=z32 S0.o G0.o HA.o;try rw[HKd.o]
 try rw[hkk]
 go_wp2_with fail
 clear e0 e1 e2 e3 e4 e5 d0 d1;go_loopw [11] (fun i wr=> ∃j:Nat,i=int i64 (j:Int)/\j<=kc/\O (CmE W0 Mb (.slice ae es.length ce) (.slice (some ⟨b,off,none⟩) ns.length cap) ((t.kids.take j).foldl (fun s c=>partZ es F c ss s) s) wr/\Cf Y wr/\Rs ns K (10*((t.kids.take j).map Tp.size).sum) (((t.kids.take j).map Tp.size).sum) s ((t.kids.take j).foldl (fun s c=>partZ es F c ss s) s))) (fun i _=>kc-(intOf i).toNat)
 case atStart=>exact⟨0,rfl,Li _,S0.o,G0.o,Rs.refl ns K s⟩
 case round=>
  obtain⟨j,rfl,hj,HI⟩:=hrel;obtain⟨e0,e1,e2,e3,e4,e5,-,d1⟩:=z32 HI.o.1 HI.o.2.1 HA.o;by_cases hjc:(j:Int)<(kc:Int)
  .have hjl:j<t.kids.length:=by rw[t.kids_len,HKc.o];omega
   have HN:=U (Lc (sum_next hjl) (Lc (take_next hjl) hjl));have hstep:kc-(intOf (int i64 ((j+1:Nat):Int))).toNat<kc-(intOf (int i64 (j:Int))).toNat:=yu;clear hjl;go_wp2_with fail
   refine(kid_calls (cap:=cap) j wr (z64 HX.o HI.o.1) HX.o.tl HS.o wd).mono ?_;rintro e Xk ⟨rfl,rfl⟩;clear e0 e1 e2 e3 e4 e5;go_wp2_with fail
   have HG:O (t.kids.getD j default=t.kid j):=rfl;refine(HIH.o (t.kid j) ss _ _ _ we (HS.o.kid wd) we (by have h1:=HN.o.1;have:=HZ.o;have:=HB.o;have:=HI.o.2.2.cost;rw[HG.o]at h1;omega) HI.o.1 (N0.o.frame HI.o.2.1)).mono ?_;rintro e X2 ⟨⟨x2,rfl⟩,h2,g2⟩;have HI2:O (CmE W0 Mb (.slice ae es.length ce) (.slice (some ⟨b,off,none⟩) ns.length cap) ((t.kids.take (j+1)).foldl (fun s c=>partZ es F c ss s) s) X2/\Cf Y X2/\Rs ns K (10*((t.kids.take (j+1)).map Tp.size).sum) (((t.kids.take (j+1)).map Tp.size).sum) s ((t.kids.take (j+1)).foldl (fun s c=>partZ es F c ss s) s)):=by
    have hr:=part_r (ns:=ns) (K:=K) (es:=es) F (t.kid j) ss ((t.kids.take j).foldl (fun s c=>partZ es F c ss s) s) we (HS.o.kid wd) we;rw[HN.o.2.1,List.foldl_append];refine⟨h2,HI.o.2.1.trans g2,(HI.o.2.2.trans hr).mono ?_ ?_⟩
    .simp only[List.map_append,List.sum_append,List.map_cons,List.map_nil,List.sum_cons,List.sum_nil,HG.o];omega
    .simp only[List.map_append,List.sum_append,List.map_cons,List.map_nil,List.sum_cons,List.sum_nil,HG.o];omega
   clear h2 g2;have hj9:O (j<=1000):=by show _<=_;have:=HC.o.2;have:=HKc.o;omega
   go_wp2_with fail
   try rw[z30 (by have:=hj9.o;omega)]
   exact⟨⟨j+1,rfl,ya,HI2⟩,hstep⟩
  .have ej:j=kc:=by omega
   subst ej;have HT:O (t.kids.take j=t.kids):=List.take_of_length_le (by rw[t.kids_len,HKc.o];exact La);rw[HT.o]at HI;go_wp2_with fail
   have HL:=U (last_calls (ce:=ce) (cap:=cap) HX.o t.n (by have:=HI.o.2.2.cost;have:=HB.o;have:=HZ.o;omega) HI.o.1);rw[hkk,HKd.o]at HL;refine HL.o.mono ?_;rintro e X3 ⟨⟨x3,rfl⟩,h3,g3⟩;have S3:=U h3;have G3:=U (HI.o.2.1.trans g3);clear h3 g3 e0 e1 e2 e3 e4 e5 d1 HL;go_wp2_with fail
   go_end0
   exact⟨⟨_,rfl⟩,S3.o,F0.o.trans G3.o⟩
theorem hand_calls (cx:Cx W0 Mb ae b off es ns) (hk1:K<=1000) (ih:PartC W0 Mb ae ce b off cap es ns K F) (hF:t.size<=F+1) (hs:Stands ns t) (hK:ss.length+2*t.size<=K) (hB:s.o.length+10*s.rest+10*t.size<=950000) (h:CmE W0 Mb (.slice ae es.length ce) (.slice (some ⟨b,off,none⟩) ns.length cap) s W) (hv:NmT W v ss) (ek:t.n.kind=23\/t.n.kind=24) :
 Calls prog 60 #[.pointer (some ⟨Mb,0,none⟩),int i64 (t.at_:Int),v] W (LeadPost W0 Mb (.slice ae es.length ce) (.slice (some ⟨b,off,none⟩) ns.length cap) (handZ es (partZ es F) t ss s) W):=by
 obtain⟨adn,cpn,rfl⟩:=hv.is;refine zb95 ?_;unhygienic intros
 have HC:O (2<=t.k.count/\t.k.count<=6/\t.n.kids=(t.k.count:Int)/\ ∀c∈t.kids.drop 1,c.n.kids=1/\c.k.count=1):=⟨((z69 hgood).2.1 wg).1,((z69 hgood).2.1 wg).2,hs.kids,hs.head ek⟩
 have HZ:O ((t.kid 0).size+(t.kid 1).size+((t.kids.drop 2).map Tp.size).sum+1=t.size/\1<=(t.kid 0).size/\1<=(t.kid 1).size/\(t.kid 1).k.count=1/\((t.kid 1).kid 0).size+1=(t.kid 1).size):=by have e0:=kidsM HC.o.1;have e1:=(HC.o.2.2.2 (t.kid 1) (by rw[e0.1];simp)).2;exact⟨e0.2,(t.kid 0).size_pos,(t.kid 1).size_pos,e1,(kids1 e1).2⟩
 have HX:=U cx;have HIH:=U ih;have HS:=U hs;have HK:=U (Lc hK (Lc hF hk1));have HB:=U hB;clear h hv hgood cx ih hs hK hF hB hk1;go_enter func60,ntmps60
 go_upto_region 1 with fail
 rw[HY.o];clear HY c0 c1 c2 c3 c4 c5 d1;obtain⟨kd,hkd⟩:∃kd,t.n.kind=kd:=⟨_,rfl⟩
 obtain⟨kc,hkc⟩:∃kc:Nat,t.k.count=kc:=⟨_,rfl⟩
 have hkk:t.n.kids=(kc:Int):=by rw[<-hkc];exact HC.o.2.2.1
 have HKc:=U hkc;have HKd:=U hkd;obtain⟨z,hz⟩:∃z:Int,(if t.n.kind=23 then 1 else 0)=z:=⟨_,rfl⟩
 have HZz:O ((if (kd==23)=true then (1:Int) else 0)=z):=by show _=_;rw[<-hz,hkd];simp
 have HZq:=U hz;have HW2:O (wrap64 ((kc:Int)-2)=t.n.kids-2):=by show _=_;have:=HC.o;rw[hkk];unfold wrap64;omega
 have HP2:O (wrap64 (((t.kid 1).at_:Int)+1)=(((t.kid 1).kid 0).at_:Int)):=by show _=_;have h1:=HS.o.kid (i:=1) zi;rw[h1.first (by have:=HZ.o;omega)];have:=h1.lt;have:=HX.o.tl;unfold wrap64;omega
 have hr0:(0:Int)<=((t.kid 1).at_:Int):=ya;have hrl:((t.kid 1).at_:Int)<(ns.length:Int):=by have:=(HS.o.kid (i:=1) zi).lt;omega
 have HCr:O (∀X,NodesAt X b off ns->X.cell? ⟨b,off+(t.kid 1).at_*6+2,none⟩=some (.string (t.kid 1).n.a)):=fun X hX=>by have h1:=(HS.o.kid (i:=1) zi).lt;rw[hX _ h1.1 2 ya,h1.2.1];rfl
 rw[hkd]at HA;rw[hkk]at HA;clear hkd hkc hz ek;obtain⟨e0,e1,e2,e3,e4,e5,d0,d1⟩:=z32 S0.o G0.o HA.o;try rw[HKd.o]
 try rw[hkk]
 go_wp2_with fail
 clear e0 e1 e2 e3 e4 e5 d0 d1;refine(one_calls (kd==23) Y).mono ?_;rintro e Xo ⟨rfl,rfl⟩;rw[HZz.o];obtain⟨e0,e1,e2,e3,e4,e5,d0,d1⟩:=z32 S0.o G0.o HA.o;go_wp2_with fail
 clear e0 e1 e2 e3 e4 e5 d0 d1;refine put_ev ⟨21,0,z,0⟩ S0.o G0.o R0.o zm fun X1 n1 H1 S1 G1 R1 C1 O1 Tn1=>?_
 obtain⟨e0,e1,e2,e3,e4,e5,d0,d1⟩:=z32 S1.o G1.o HA.o;go_wp2_with fail
 clear e0 e1 e2 e3 e4 e5 d0 d1;rw[HP1.o zi];refine part_ev HIH.o (t.kid 0) (ss) zj (HS.o.kid zi) zl S1.o G1.o R1.o xb (N0.o.frame G1.o) fun X2 x2 S2 G2 R2 C2 O2=>?_
 obtain⟨e0,e1,e2,e3,e4,e5,d0,d1⟩:=z32 S2.o G2.o HA.o;go_wp2_with fail
 clear e0 e1 e2 e3 e4 e5 d0 d1;refine put_ev ⟨23,0,0,0⟩ S2.o G2.o R2.o xd fun X3 n3 H3 S3 G3 R3 C3 O3 Tn3=>?_
 obtain⟨e0,e1,e2,e3,e4,e5,d0,d1⟩:=z32 S3.o G3.o HA.o;go_wp2_with fail
 clear e0 e1 e2 e3 e4 e5 d0 d1;refine lead_ev n1 0 S3.o G3.o R3.o xc (Le Tn1.o (Lf O2.o O3.o)) yk fun X4 x4 S4 G4 R4 C4 O4=>?_
 obtain⟨e0,e1,e2,e3,e4,e5,d0,d1⟩:=z32 S4.o G4.o HA.o;go_wp2_with fail
 clear e0 e1 e2 e3 e4 e5 d0 d1;rw[HW2.o];refine put_ev ⟨24,0,t.n.kids-2,0⟩ S4.o G4.o R4.o xe fun X5 n5 H5 S5 G5 R5 C5 O5 Tn5=>?_
 obtain⟨e0,e1,e2,e3,e4,e5,d0,d1⟩:=z32 S5.o G5.o HA.o;go_wp2_with fail
 clear e0 e1 e2 e3 e4 e5 d0 d1;refine kid_ev 1 (z64 HX.o S5.o) HX.o.tl HS.o zi ?_;obtain⟨e0,e1,e2,e3,e4,e5,d0,d1⟩:=z32 S5.o G5.o HA.o;have cr:=HCr.o X5 (z64 HX.o S5.o);go_wp2_with fail
 clear e0 e1 e2 e3 e4 e5 d0 d1;clear cr;refine with_ev [(t.kid 1).n.a] ((N0.o.frame G5.o).names) ux S5.o G5.o fun X6 u6 U6 S6 G6 C6=>?_
 obtain⟨e0,e1,e2,e3,e4,e5,d0,d1⟩:=z32 S6.o G6.o HA.o;go_wp2_with fail
 clear e0 e1 e2 e3 e4 e5 d0 d1;rw[HP2.o];refine wait_ev ⟨(t.kid 1).kid 0,ss++ [(t.kid 1).n.a],n5,0⟩ ((HS.o.kid (i:=1) zi).kid (by have:=HZ.o;omega)) uy Tn5.o S6.o G6.o R5.o (by have hl:=later_le ((Cs.put ((Cs.lead ((Cs.put ((partZ es F (t.kid 0) (ss) ((Cs.put (s) ⟨21,0,z,0⟩)))) ⟨23,0,0,0⟩)) n1 0)) ⟨24,0,t.n.kids-2,0⟩));have r:=R5.o.cost;have hb:=HB.o;have hz:=HZ.o;omega) U6.o fun X7 x7 S7 G7 R7 C7 O7=>?_
 have TH:=U (Le Tn1.o (Lf O2.o (Lf O3.o (Lf O4.o (Lf O5.o O7.o)))));obtain⟨sB,hsB⟩:∃x,(Cs.wait ((Cs.put ((Cs.lead ((Cs.put ((partZ es F (t.kid 0) (ss) ((Cs.put (s) ⟨21,0,z,0⟩)))) ⟨23,0,0,0⟩)) n1 0)) ⟨24,0,t.n.kids-2,0⟩)) ⟨(t.kid 1).kid 0,ss++ [(t.kid 1).n.a],n5,0⟩)=x:=⟨_,rfl⟩
 rw[hsB]at S7 R7 TH;have HsB:=U hsB;clear hsB;obtain⟨e0,e1,e2,e3,e4,e5,d0,d1⟩:=z32 S7.o G7.o HA.o;go_wp2_with fail
 clear e0 e1 e2 e3 e4 e5 d0 d1;go_loopw [10] (fun i wr=> ∃(j:Nat) (z:Int),i=int i64 z/\z=2+(j:Int)/\2+j<=kc/\O (CmE W0 Mb (.slice ae es.length ce) (.slice (some ⟨b,off,none⟩) ns.length cap) (((t.kids.drop 2).take j).foldl (opZ es ss) sB) wr/\Cf Y wr/\Rs ns K (10*(((t.kids.drop 2).take j).map Tp.size).sum) ((((t.kids.drop 2).take j).map Tp.size).sum) sB (((t.kids.drop 2).take j).foldl (opZ es ss) sB))) (fun i _=>(kc-(intOf i).toNat))
 case atStart=>exact⟨0,_,rfl,rfl,by have:=HC.o;have:=HKc.o;omega,S7.o,G7.o,Rs.refl ns K sB⟩
 case round=>
  obtain⟨j,z,rfl,hzj,hj,HI⟩:=hrel;obtain⟨e0,e1,e2,e3,e4,e5,d0,d1⟩:=z32 HI.o.1 HI.o.2.1 HA.o;by_cases hjc:z<(kc:Int)
  .have hjl:j<(t.kids.drop 2).length:=by rw[List.length_drop,t.kids_len,HKc.o];omega
   have HN:=U (Lc (sum_next hjl) (Lc (take_next hjl) hjl));have hgd:(t.kids.drop 2).getD j default=t.kid (2+j):=by unfold Tp.kid;simp[List.getD,List.getElem?_drop]
   obtain⟨c,hc⟩:∃c,t.kid (2+j)=c:=⟨_,rfl⟩
   have HCs:O (Stands ns c/\c.k.count=1):=by
    rw[<-hc];refine⟨HS.o.kid wd,(HC.o.2.2.2 _ ?_).2⟩;have h1:t.kid (2+j)∈t.kids.drop 2:=by rw[<-hgd];exact getD_mem hjl
    rw[show(2:Nat)=1+1 from rfl,<-List.drop_drop]at h1;exact List.mem_of_mem_drop h1
   have HKd2:=U (kid_calls (cap:=cap) (2+j) wr (z64 HX.o HI.o.1) HX.o.tl HS.o wd);rw[hc,show((2+j:Nat):Int)=z by omega]at HKd2;rw[hgd,hc]at HN;have hzs:wrap64 (z+1)=z+1:=by have:=HC.o;have:=HKc.o;unfold wrap64;omega
   have HZs:=U hzs;have HJ:=U (Lc hzj (Lc hj hc));have hstep:kc-(intOf (int i64 (z+1))).toNat<kc-(intOf (int i64 z)).toNat:=by simp only[intOf];omega
   obtain⟨hl0,hl1,-⟩:=HCs.o.1.lt;have hnc:=z64 HX.o HI.o.1;obtain⟨b0,b1,b2,b3,b4,b5⟩:=fsx (hnc c.at_ hl0);rw[hl1]at b0 b1 b2 b3 b4 b5;simp only[Nd.cell,Nat.add_zero]at b0 b1 b2 b3 b4 b5;have hc0:(0:Int)<=(c.at_:Int):=ya;have hcl:(c.at_:Int)<(ns.length:Int):=ya;have HP3:O (wrap64 ((c.at_:Int)+1)=((c.kid 0).at_:Int)):=by show _=_;rw[HCs.o.1.first (by have:=HCs.o.2;omega)];have:=HX.o.tl;unfold wrap64;omega
   have hA2:=(Ld wr (.cells #[int i64 c.n.kind,int i64 c.n.num,.string c.n.a,.string c.n.b,.string c.n.c,int i64 c.n.kids] 68)).1;have hB2:=(Below.refl wr.heap.size wr).alloc La (.cells #[int i64 c.n.kind,int i64 c.n.num,.string c.n.a,.string c.n.b,.string c.n.c,int i64 c.n.kids] 68);obtain⟨V,hV⟩:∃V,wr.alloc (.cells #[int i64 c.n.kind,int i64 c.n.num,.string c.n.a,.string c.n.b,.string c.n.c,int i64 c.n.kids] 68)=V:=⟨_,rfl⟩
   rw[hV]at hA2 hB2;have HV:=U hV;have HA2:=U hA2;have HB2:=U hB2;have V0:=U (HI.o.1.below hB2);have Vf:=U (HI.o.2.1.trans (Cf.of_below hB2));clear hA2 hB2 hV hzs hc hjl hgd hl0 hl1 hnc hzj hj;go_wp2_with fail
   refine HKd2.o.mono ?_;rintro e Xk ⟨rfl,rfl⟩;clear e0 e1 e2 e3 e4 e5;go_upto_region 13 with fail
   rw[HV.o];clear HV b0 b1 b2 b3 b4 b5 d0 d1;have g2:=z11 HA2.o 2;have g3:=z11 HA2.o 3;have g4:=z11 HA2.o 4;simp at g2 g3 g4;have hD:Below V.heap.size V V.drew:=Lb.drew;obtain⟨D,hDe⟩:∃D,V.drew=D:=⟨_,rfl⟩
   rw[hDe]at hD;have D0:=U (V0.o.below hD);have Df:=U (Vf.o.trans (Cf.of_below hD));have DA:=U ((hD.block wr.heap.size (z13 HA2.o)).trans HA2.o);have hS:(fun w':World=>w'.cell? ⟨Mb,0,none⟩=some (.slice ae es.length ce)/\w'.cell? ⟨wr.heap.size,2,none⟩=some (.string c.n.a)/\w'.cell? ⟨wr.heap.size,3,none⟩=some (.string c.n.b)/\w'.cell? ⟨wr.heap.size,4,none⟩=some (.string c.n.c)) D:=⟨D0.o.effs,z11 DA.o 2,z11 DA.o 3,z11 DA.o 4⟩
   refine z31 (S:=fun w'=> w'.cell? ⟨Mb,0,none⟩=some (.slice ae es.length ce)/\w'.cell? ⟨wr.heap.size,2,none⟩=some (.string c.n.a)/\w'.cell? ⟨wr.heap.size,3,none⟩=some (.string c.n.b)/\w'.cell? ⟨wr.heap.size,4,none⟩=some (.string c.n.c)) ye rfl rfl ?_;rw[hDe];clear hDe hD g2 g3 g4;refine pick_o 0 (.pointer (some ⟨Mb,0,none⟩)) hS ?_;refine pick_o 1 (int i64 (c.at_:Int)) hS ?_;refine z12 (i:=2) (v:=int i64 (wrap64 ((c.at_:Int)+1))) ye rfl ye ye rfl rfl (fun w' _=>by simp[go_sem];exact IntWalk.i64_left _) hS yg ?_;refine pick_o 3 (.slice adn ss.length cpn) hS ?_
   refine pick_o 4 (.pointer (some ⟨wr.heap.size,3,none⟩)) hS ?_;refine pick_o (hy:=fun w' h=>by simp[go_sem,h.2.2.1]) 5 (.string c.n.b) hS ?_;refine pick_o 6 (.pointer (some ⟨wr.heap.size,4,none⟩)) hS ?_;refine pick_o (hy:=fun w' h=>by simp[go_sem,h.2.2.2]) 7 (.string c.n.c) hS ?_;refine pick_o 10 (.pointer (some ⟨Mb,0,none⟩)) hS ?_;refine pick_o 11 (.pointer (some ⟨Mb,0,none⟩)) hS ?_;refine pick_o 12 (.pointer (some ⟨Mb,0,none⟩)) hS ?_;refine pick_o 13 (.pointer (some ⟨Mb,0,none⟩)) hS ?_;refine pick_o 14 (.pointer (some ⟨Mb,0,none⟩)) hS ?_
   refine pick_o (hy:=fun w' h=>yh) 15 (.slice ae es.length ce) hS ?_;refine pick_o 16 (.pointer (some ⟨wr.heap.size,2,none⟩)) hS ?_;refine pick_o (hy:=fun w' h=>xh) 17 (.string c.n.a) hS ?_;rw[HP3.o];have hA1:Below D.heap.size D (D.alloc (.cells #[.string c.n.b,.string c.n.c] 9)):=Lb.alloc La _;have hq:=z13 DA.o
   have hS1:(fun w':World=>w'.cell? ⟨Mb,0,none⟩=some (.slice ae es.length ce)/\w'.cell? ⟨wr.heap.size,2,none⟩=some (.string c.n.a)/\w'.cell? ⟨wr.heap.size,3,none⟩=some (.string c.n.b)/\w'.cell? ⟨wr.heap.size,4,none⟩=some (.string c.n.c)) (D.alloc (.cells #[.string c.n.b,.string c.n.c] 9)):=⟨(hA1.cell (heap_at D0.o)).trans hS.1,(hA1.cell hq).trans hS.2.1,(hA1.cell hq).trans hS.2.2.1,(hA1.cell hq).trans hS.2.2.2⟩
   refine z27 (i:=8) (v:=.slice (some ⟨D.heap.size,0,none⟩) 2 2) (w1:=D.alloc (.cells #[.string c.n.b,.string c.n.c] 9)) rfl ye rfl rfl yf hS1 yg ?_;refine z26 (i:=9) (f:=57) (args:= #[.slice adn ss.length cpn,.slice (some ⟨D.heap.size,0,none⟩) 2 2]) rfl ye rfl rfl yf ?_;refine(withN_calls (ss:=ss) (ms:= [c.n.b,c.n.c]) _ ((N0.o.frame Df.o).names.below hA1) (lit_names D [c.n.b,c.n.c]) (by have:=HK.o;simp only[Ll,Lm];omega)).mono ?_;rintro e E1 ⟨u1,rfl,hu1,hb1⟩;have B1:Below D.heap.size D E1:=hA1.trans (hb1.mono yq)
   have hS2:(fun w':World=>w'.cell? ⟨Mb,0,none⟩=some (.slice ae es.length ce)/\w'.cell? ⟨wr.heap.size,2,none⟩=some (.string c.n.a)/\w'.cell? ⟨wr.heap.size,3,none⟩=some (.string c.n.b)/\w'.cell? ⟨wr.heap.size,4,none⟩=some (.string c.n.c)) E1:=⟨(B1.cell (heap_at D0.o)).trans hS.1,(B1.cell hq).trans hS.2.1,(B1.cell hq).trans hS.2.2.1,(B1.cell hq).trans hS.2.2.2⟩
   have U1:=U hu1;have E0:=U (D0.o.below B1);have Ef:=U (Df.o.trans (Cf.of_below B1));have EA:=U ((B1.block wr.heap.size hq).trans DA.o);clear hu1 hb1 B1 hS hS1 hA1 hq;refine⟨u1,rfl,hS2,?_⟩;refine z25 yg ?_;refine z26 (i:=18) (f:=25) (args:= #[.slice ae es.length ce,.string c.n.a]) rfl ye rfl rfl yf ?_;refine(l2Eff_calls ae ce es c.n.a E1 (by have:=HX.o.el;omega) (cx_effs HX.o E0.o)).mono ?_;rintro e Xk ⟨rfl,rfl⟩;refine⟨_,rfl,hS2,?_⟩;refine z25 yg ?_;refine pick_o 19 (.agg #[int i64 25,int i64 (effPlace es c.n.a 0),int i64 0,int i64 0]) hS2 ?_
   refine z26 (i:=20) (f:=21) (args:= #[.pointer (some ⟨Mb,0,none⟩),.agg #[int i64 25,int i64 (effPlace es c.n.a 0),int i64 0,int i64 0]]) rfl ye rfl rfl yf ?_;obtain⟨s1,hs1⟩:∃x,((t.kids.drop 2).take j).foldl (opZ es ss) sB=x:=⟨_,rfl⟩
   have HS1:=U hs1;have R1:=U HI.o.2.2;rw[hs1]at E0 R1;have Rc:=R7;have HL:O (s1.o.length+10*s1.rest+10*c.size<=950000):=by show _<=_;have h1:=R1.o.cost;have h2:=Rc.o.cost;have h3:=HN.o.1;have h4:=HZ.o;have h5:=HB.o;omega
   refine(z53 ⟨25,effPlace es c.n.a 0,0,0⟩ E0.o jc).mono ?_;rintro e E2 ⟨rfl,h2,g2⟩;obtain⟨m1,hm1⟩:∃m,s1.o.length=m:=⟨_,rfl⟩
   rw[hm1];have HM1:=U hm1;have P0:=U h2;have Pf:=U (Ef.o.trans g2);have PU:=U (U1.o.frame g2);have PA:=U ((g2.block wr.heap.size _ _ EA.o yk yk yk).trans EA.o);clear h2 g2 hS2 hm1 hs1;refine⟨_,rfl,⟨P0.o.effs,z11 PA.o 2,z11 PA.o 3,z11 PA.o 4⟩,?_⟩;refine z25 yg ?_;refine z26 (i:=21) (f:=56) (args:= #[.pointer (some ⟨Mb,0,none⟩),int i64 ((c.kid 0).at_:Int),u1,int i64 (m1:Int),int i64 (1:Int)]) rfl ye rfl rfl yf ?_
   refine(wait_calls ⟨c.kid 0,ss++ [c.n.b,c.n.c],m1,1⟩ P0.o (by have h1:=later_le (s1.put ⟨25,effPlace es c.n.a 0,0,0⟩);have h2:=HL.o;have h3:(s1.put ⟨25,effPlace es c.n.a 0,0,0⟩).rest=s1.rest:=rfl;omega) PU.o).mono ?_;rintro e E3 ⟨⟨x3,rfl⟩,h3,g3⟩;have Q0:=U h3;have Qf:=U (Pf.o.trans g3);have QA:=U ((g3.block wr.heap.size _ _ PA.o yk yk yk).trans PA.o);clear h3 g3;refine⟨x3,rfl,⟨Q0.o.effs,z11 QA.o 2,z11 QA.o 3,z11 QA.o 4⟩,?_⟩;refine z25 yg ?_;refine z37 ye ?_
   have HI2:O (CmE W0 Mb (.slice ae es.length ce) (.slice (some ⟨b,off,none⟩) ns.length cap) (((t.kids.drop 2).take (j+1)).foldl (opZ es ss) sB) E3/\Cf Y E3/\Rs ns K (10*(((t.kids.drop 2).take (j+1)).map Tp.size).sum) ((((t.kids.drop 2).take (j+1)).map Tp.size).sum) sB (((t.kids.drop 2).take (j+1)).foldl (opZ es ss) sB)):=by
    have hr:=op_r (ns:=ns) (K:=K) (es:=es) (ss:=ss) s1 c HCs.o.2 HCs.o.1 (by have h1:=HN.o.1;have:=HZ.o;have:=HK.o;omega);have hm:=HM1.o;have hq:=HS1.o;subst hm;subst hq;rw[HN.o.2.1,List.foldl_append];refine⟨Q0.o,Qf.o,(R1.o.trans hr).mono ?_ ?_⟩
    .simp only[List.map_append,List.sum_append,List.map_cons,List.map_nil,List.sum_cons,List.sum_nil];omega
    .simp only[List.map_append,List.sum_append,List.map_cons,List.map_nil,List.sum_cons,List.sum_nil];omega
   clear Q0 Qf QA P0 Pf PU PA E0 Ef EA U1 D0 Df DA V0 Vf HA2 HB2;go_wp2_with fail
   try rw[HZs.o]
   exact⟨⟨j+1,_,rfl,by have:=HJ.o.1;omega,by have:=HJ.o.1;omega,HI2⟩,hstep⟩
  .have HT:O ((t.kids.drop 2).take j=t.kids.drop 2):=List.take_of_length_le (by rw[List.length_drop,t.kids_len,HKc.o];omega);rw[HT.o]at HI;clear hzj hj HT;go_wp2_with fail
   refine(lead_calls n1 2 HI.o.1 (by have h1:=HI.o.2.2.cost;have h2:=R7.o.cost;have h4:=HZ.o;have h5:=HB.o;omega) (Le TH.o HI.o.2.2.o) yk).mono ?_;rintro e X9 ⟨⟨x9,rfl⟩,h9,g9⟩;have S9:=U h9;have G9:=U (HI.o.2.1.trans g9);clear h9 g9 e0 e1 e2 e3 e4 e5 d0 d1;go_wp2_with fail
   go_end0
   have qz:=HZq.o;have q1:=H1.o;have q2:=H5.o;have q3:=HsB.o;subst q3;subst q2;subst q1;subst qz;exact⟨⟨_,rfl⟩,S9.o,F0.o.trans G9.o⟩
theorem part_h (cx:Cx W0 Mb ae b off es ns) (hk1:K<=1000) (ih:PartC W0 Mb ae ce b off cap es ns K F) (hF:t.size<=F+1) (hs:Stands ns t) (hK:ss.length+2*t.size<=K) (hB:s.o.length+10*s.rest+10*t.size<=950000) (h:CmE W0 Mb (.slice ae es.length ce) (.slice (some ⟨b,off,none⟩) ns.length cap) s W) (hv:NmT W v ss) (ek:t.n.kind=23\/t.n.kind=24) :
 Calls prog 20 #[.pointer (some ⟨Mb,0,none⟩),int i64 (t.at_:Int),v] W (LeadPost W0 Mb (.slice ae es.length ce) (.slice (some ⟨b,off,none⟩) ns.length cap) (handZ es (partZ es F) t ss s) W):=by
 obtain⟨adn,cpn,rfl⟩:=hv.is;refine zb95 ?_;unhygienic intros
 have HC:O (True):=trivial;have HZ:O (1<=t.size):=t.size_pos;have HH:=U (hand_calls cx hk1 ih hF hs hK hB S0.o N0.o ek);have HX:=U cx;have HIH:=U ih;have HS:=U hs;have HK:=U (Lc hK (Lc hF hk1));have HB:=U hB;clear h hv hgood cx ih hs hK hF hB hk1;go_enter func20,ntmps20
 go_upto_region 1 with fail
 rw[HY.o];clear HY c0 c1 c2 c3 c4 c5 d1;obtain⟨kd,hkd⟩:∃kd,t.n.kind=kd:=⟨_,rfl⟩
 rw[hkd]at ek HA;clear hkd;rcases ek with rfl|rfl
 .have e0:=z11 HA.o 0;simp at e0;go_wp2_with fail
  refine HH.o.mono ?_;rintro e X1 ⟨⟨x1,rfl⟩,h1,g1⟩;have S1:=U h1;have G1:=U g1;clear h1 g1 e0;go_wp2_with fail
  go_end0
  exact⟨⟨_,rfl⟩,S1.o,F0.o.trans G1.o⟩
 .have e0:=z11 HA.o 0;simp at e0;go_wp2_with fail
  refine HH.o.mono ?_;rintro e X1 ⟨⟨x1,rfl⟩,h1,g1⟩;have S1:=U h1;have G1:=U g1;clear h1 g1 e0;go_wp2_with fail
  go_end0
  exact⟨⟨_,rfl⟩,S1.o,F0.o.trans G1.o⟩
end
theorem TRow.frame {W':World}{sv:Value}{us:List Value}(h:TRow W sv us) (hf:Kf W W'):TRow W' sv us:=by
 rcases h with h|⟨g,e,hg⟩
 .exact Or.inl h
 .exact Or.inr ⟨g,e,hf.keep hg yk yk yk⟩
theorem TRow.at {W:World}{sv:Value}{us:List Value}(h:TRow W sv us):∃ad cp,sv=.slice ad us.length cp/\ ∀j,j<us.length-> ∃g,ad=some ⟨g,0,none⟩/\W.cell? ⟨g,j,none⟩=some (us.getD j default):=by
 rcases h with ⟨rfl,a,c,rfl⟩|⟨g,rfl,hg⟩
 .exact⟨a,c,rfl,fun j hj=>by simp at hj⟩
 .refine⟨_,_,rfl,fun j hj=>⟨g,rfl,?_⟩⟩;rw[z11 hg j];simp[List.getD,hj]
theorem plain_bare (es:List Ef) (n:Nd):pinZ es (plainZ n)=pinZ es n:=by
 unfold pinZ lastZ plainZ;dsimp only;by_cases h1:n.kind=1
 .simp[h1]
 by_cases h2:n.kind=2
 .simp[h2]
 by_cases h22:n.kind=22
 .have hn:(1:Int)<=namesZ 22:=by decide
  simp[h22,hn]
 .simp[h1,h2,h22]
section
variable {B:Nat}{W0:World}{Mb:Nat}{ae:Option Addr}{ce:Nat}{es:List Ef}{ns:List Nd}{K F:Nat}
theorem putPlain_calls (ex:Ex W0 Mb ae es) (ih:PutC B W0 Mb (.slice ae es.length ce) es ns K F) {fv:Value}{us:List Value}{kn:Option Addr}(hF:t.size<=F+1) (hs:Stands ns t) (hb:BdT t ss) (hK:ss.length+2*t.size<=K) (hB:s.o.length+10*s.rest+10*t.size<=950000) (hP:PlainV t.n us fv) (hul:us.length=t.k.count) (hif:∀u∈us,∃T p,u=.iface T p) (hfk:∀i,i<t.k.count->FormK B W0 (t.kid i) (us.getD i default)) (hpl:¬ (t.n.kind=23\/t.n.kind=24)) (hkz:∀i,knownZ t.n i= []) (h:KmE B W0 Mb (.slice ae es.length ce) s W) (hk:KnAt W kn ss.reverse) :
 Calls prog 53 #[.pointer (some ⟨Mb,0,none⟩),fv,.pointer kn] W (SetP B W0 Mb (.slice ae es.length ce) ((t.kids.foldl (fun s c=>partZ es F c ss s) s).put (pinZ es t.n)) W):=by
 obtain⟨T,pv,rfl,-,⟨g,rv,hm,hc,hKd⟩,hNd⟩:=hP;have HZ:=U t.kids_sum;have H0:=U (Lc hF (Lc hs (Lc hb hK)));have HB:=U hB;have HK:=U hk;have HSt:=U h;have HIH:=U ih;have HFk:=U hfk;have HIf:=U hif;have HKz:=U (Lc hkz hpl);have HX:=U ex;have HN:=U hNd;have HKd:=U (hKd W);obtain⟨kc,hkc⟩:∃kc:Nat,us.length=kc:=⟨_,rfl⟩
 have HKc:=U (show kc=t.k.count by omega);have HUl:=U hkc;have HSm:O (kc<=1000000):=by
  show kc<=_;have h1:=Fo.count_le t.k;have h2:t.size=t.k.flat.length+1:=rfl;have:=HKc.o;omega
 clear hF hs hb hK hB h hk hfk hif hkz hpl hKd hNd ih ex hul hkc;go_enter func53,ntmps53
 go_wp2_with fail
 refine HKd.o.mono ?_;rintro e X1 ⟨sv,rfl,htr,hb1⟩;have S1:=U (HSt.o.below hb1);have F1:=U (Kf.of_below hb1);have K1:=U (KnAt.frame (Kf.of_below hb1) _ _ HK.o);obtain⟨ad,cp,rfl,-⟩:=htr.at;have HTr:=U htr;rw[HUl.o]at HTr |-;clear htr hb1 HSt HK HKd hm hc;go_wp2_with fail
 go_loopw [11] (fun i wr=> ∃j:Nat,i=int i64 (j:Int)/\j<=kc/\O (KmE B W0 Mb (.slice ae es.length ce) ((t.kids.take j).foldl (fun s c=>partZ es F c ss s) s) wr/\Kf X1 wr/\Rs ns K (10*((t.kids.take j).map Tp.size).sum) (((t.kids.take j).map Tp.size).sum) s ((t.kids.take j).foldl (fun s c=>partZ es F c ss s) s))) (fun i _=>kc-(intOf i).toNat)
 case atStart=>exact⟨0,rfl,Li _,S1.o,Kf.refl _,Rs.refl ns K s⟩
 case round=>
  obtain⟨j,rfl,hj,HI⟩:=hrel;by_cases hjl:(j:Int)<(kc:Int)
  .have hjk:j<kc:=by omega
   have htr:=HTr.o.frame HI.o.2.1;obtain⟨ad',cp',e',hcell⟩:=htr.at;rw[HUl.o]at e' hcell
   cases e';obtain⟨gr,rfl,hcj⟩:=hcell j hjk;obtain⟨Tj,pj,hj'⟩:=HIf.o (us.getD j default) (by rw[show us.getD j default=us[j]'(by rw[HUl.o];exact hjk) by simp[List.getD,show j<us.length by rw[HUl.o];exact hjk]];exact List.getElem_mem _);rw[hj']at hcj;have hlk:j<t.kids.length:=by rw[t.kids_len,<-HKc.o];exact hjk
   have hfj:=HFk.o j wl;rw[hj']at hfj;have hsj:=H0.o.2.1.kid (i:=j) wl;have hbj:=H0.o.2.2.1.kid0 (i:=j) wl (HKz.o.1 j) (by have:=HKz.o.2;omega);have hse:=sum_next hlk;have hske:t.kids.getD j default=t.kid j:=rfl;rw[hske]at hse;have HC:=U (show(t.kid j).size<=F/\ss.length+2*(t.kid j).size<=K by have:=HZ.o;have:=H0.o;omega);have HIP:=U (HIH.o (t.kid j) _ kn ss _ wr HC.o.1 hsj hbj HC.o.2 (by have:=HI.o.2.2.cost;have:=HZ.o;have:=HB.o;omega) hfj HI.o.1 (KnAt.frame HI.o.2.1 _ _ K1.o))
   have HR:=U (HI.o.2.2.trans (part_r (es:=es) (K:=K) F (t.kid j) ss ((t.kids.take j).foldl (fun s c=>partZ es F c ss s) s) HC.o.1 hsj HC.o.2));have HNx:O ((t.kids.take (j+1)).foldl (fun s c=>partZ es F c ss s) s=partZ es F (t.kid j) ss ((t.kids.take j).foldl (fun s c=>partZ es F c ss s) s)):=by
    show _=_;rw[take_next hlk,List.foldl_append];rfl
   have HSum:O (((t.kids.take (j+1)).map Tp.size).sum=((t.kids.take j).map Tp.size).sum+(t.kid j).size):=by
    show _=_;rw[take_next hlk,List.map_append,List.sum_append];rw[hske];simp
   have hi0:(0:Int)<=(j:Int):=ya;have HstP:=U (z55 hjl);have HW1:=U (z30 (x:=j) (by have:=HSm.o;omega));clear htr hcell hj' hlk hfj hsj hbj hse hske hjk;go_wp2_with fail
   refine HIP.o.mono ?_;rintro e X2 ⟨⟨x2,rfl⟩,h2,f2⟩;have HS2:=U (Lc h2 (HI.o.2.1.trans f2));clear h2 f2 HIP hcj;go_wp2_with fail
   try rw[HW1.o]
   refine⟨⟨j+1,rfl,ya,?_⟩,HstP.o⟩;show _/\_/\_;rw[HNx.o,HSum.o];exact⟨HS2.o.1,HS2.o.2,HR.o.mono (by have:=(t.kid j).size_pos;omega) ya⟩
  .have hjk:j=kc:=by omega
   have hall:t.kids.take j=t.kids:=List.take_of_length_le (by rw[t.kids_len,<-HKc.o];omega);have HI2:=U HI.o;rw[hall]at HI2;clear HI hall;obtain⟨s2,hs2⟩:∃x,t.kids.foldl (fun s c=>partZ es F c ss s) s=x:=⟨_,rfl⟩
   rw[hs2]at HI2;have HS2:=U hs2;obtain⟨T',pv',gn,rn,e',hm,hc,hNo⟩:=HN.o wr
   cases e';have HNo:=U hNo;clear hs2 hNo hjk;go_wp2_with fail
   refine HNo.o.mono ?_;rintro e X3 ⟨rfl,hb3⟩;have S3:=U (HI2.o.1.below hb3);have F3:=U ((F1.o.trans HI2.o.2.1).trans (Kf.of_below hb3));have HPl:=U (plainIns_calls HX.o S3.o (plainZ t.n));rw[plain_bare]at HPl;clear hb3 HNo hm hc;unfold ndV;go_wp2_with fail
   refine HPl.o.mono ?_;rintro e X4 ⟨rfl,hb4⟩;have S4:=U (S3.o.below hb4);have F4:=U (F3.o.trans (Kf.of_below hb4));clear hb4 HPl S3 F3;unfold insV;go_wp2_with fail
   refine(z41 (pinZ es t.n) S4.o (by have:=HI2.o.2.2.cost;have:=HB.o;have:=HZ.o;omega)).mono ?_;rintro e X5 ⟨rfl,h5,f5⟩;have S5:=U (Lc h5 (F4.o.trans f5));obtain⟨m5,hm5⟩:∃m:Int,(s2.o.length:Int)=m:=⟨_,rfl⟩
   rw[hm5];clear h5 f5 hm5;go_wp2_with fail
   go_end0
   exact⟨⟨_,rfl⟩,by rw[HS2.o];exact S5.o.1,S5.o.2⟩
end
end
end Go.Proofs.YtbbffkiobmbkfaaGreatDoor
