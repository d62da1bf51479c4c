import Derived.Test.YtbbffkiobmbkfaaGreatDoorPkV19
open Go.Proofs.Tryz
open Go.Value Go.IntKind
set_option maxHeartbeats 8000000
set_option maxRecDepth 100000
namespace Go.Proofs.YtbbffkiobmbkfaaGreatDoor
open Go.RowKit
variable {cs:List In}{w:List Nat}{ns:List Nd}{B k:Nat}{v:Value}{W:World}
section
open Go.RowKit
theorem wrap_inc {n:Nat}(hk:k<n) (hm:n<=1048576):wrap64 ((k:Int)+1)=((k+1:Nat):Int):=by
 unfold wrap64;omega
end
section
open Go.RowKit Go.Deep
theorem free_nil (s:Wst):freeOf s= []↔s.free= []:=by
 unfold freeOf;constructor
 .intro h
  cases hf:s.free with
  |nil=>rfl
  | cons x r=>
    exfalso;have:=(fold_sorted (textsOf s.free) [] List.Pairwise.nil).2 x.data.toList;rw[h]at this;have h2:=this.2 (Or.inl (by rw[hf];unfold textsOf;simp))
    cases h2
 .intro h;rw[h];rfl
theorem km_start {ve:Value}{Mb:Nat}(h:W.heap[Mb]?=some (.cells #[ve,.slice none 0 0,.slice none 0 0] 46)):Km B W Mb ve ⟨[],[]⟩ [] (.slice none 0 0) (.slice none 0 0) W:=
 ⟨h,World.ownsRow_nil _ _ _ _,World.ownsRow_nil _ _ _ _,fun x hx=>by simp at hx,rfl,rfl,rfl,rfl,La,fun _ _ _=>rfl,z13 h⟩
theorem km_belowW {W0:World}{Mb:Nat}{ve:Value}{s:Cs}{ls:List (Lt×Value)}{vo vl:Value}{X:World}(h:Km B W0 Mb ve s ls vo vl X) (hb:Below W.heap.size W W0) (hM:W.heap.size<=Mb):Below W.heap.size W X:=
 ⟨h.os.trans hb.os,h.tape.trans hb.tape,h.output.trans hb.output,Lf hb.size h.size,fun q hq=>(h.kept q (Le hq hb.size) ya).trans (hb.block q hq)⟩
theorem ans_parts (h:SpecAns ns true):∃(n:Nd) (k:Fo),ns=n::k.flat/\n.kids=k.count/\k.wf/\ns.length<=300/\(n.kind≠25/\n.kind≠26)/\specKids k n.kind 0 []=true:=by
 rcases h with ⟨-,h⟩|⟨-,-,-,h⟩|⟨h1,h2,n,k,e1,e2,e3,h⟩
 .cases h
 .cases h
 .have h':= h.symm;simp only[Lq]at h';have hs:=h'.2.2;unfold specTree at hs;rw[Lq]at hs;exact⟨n,k,e1,e2,e3,h2,clz_none (p:=0) (i:=0) (by simpa[role]using hs.1) ya,hs.2⟩
theorem prog_trueC {es:List Ef}{T:Bool}(h:progZ es ns T=true):T=true:=by
 unfold progZ at h;simp only[Lq]at h;exact h.2.1
theorem impl_all (h:ImplAns ns true):ns.all nodeOkZ=true:=by
 rcases h with ⟨-,h⟩|⟨-,-,-,h⟩|⟨-,-,n,k,e1,e2,e3,h⟩
 .cases h
 .cases h
 .have h':= h.symm;simp only[Lq]at h';exact h'.1
theorem impl_fits (hall:ns.all nodeOkZ=true) (m:Nd) (hm:m∈ns):Fits m m.kids.toNat:=by
 have:=List.all_eq_true.1 hall m hm;simp only[nodeOkZ,Lq]at this;exact fits_of_own this.1
theorem implCompile_calls {ae:Option Addr}{be bt ce cn:Nat}{es:List Ef}(hce:es.length<=ce) (hae:es≠ []->ae=some ⟨be,0,none⟩) (hbe:be<W.heap.size) (hE:EffsAt W be 0 es) (hel:es.length<=1000) (hsh:∀e∈es,e.name.size<=maxLen) (hbt:bt<W.heap.size) (hN:NodesAt W bt 0 ns) (hl:ns.length<=300) (hns:Short ns) (hL:Laid W) :
 Calls prog 5 #[.agg #[.slice ae es.length ce,.slice (some ⟨bt,0,none⟩) ns.length cn]] W (CompR es ns W):=by
 obtain⟨T,hSA,hIA⟩:=answers ns;refine zb72 ?_;unhygienic intros
 have HP:=U (implProgC_calls ae be bt ce cn es ns T Y hce hae (Le hbe hB1.size) (Le hbt hB1.size) (hE.below hB1 hbe) (hN.below hB1 hbt) ya ya hsh (fun w' h1 h2=>implTree_calls bt 0 cn ns w' T ya h1 h2 hns hIA));have HY:=U hY;have HA:=U hA;have HB1:=U hB1;have HE:=U (Lc hbe hE);have HCe:=U (Lc hce hae);have HN:=U (Lc hbt hN);have HL:=U (Lc hel hl);have HSA:=U hSA;have HIA:=U hIA;have HNs:=U hns;have HLd:=U hL;obtain⟨e0,e1⟩:=fcl2 HA.o;clear hE hel hbt hN hl hSA hA hB1 hY hbe hsh hns hL hIA hce hae;go_enter func5,ntmps5
 go_upto_region 1 with fail
 rw[HY.o];clear HY;go_wp2_with fail
 refine HP.o.mono ?_;rintro e X1 ⟨rfl,hb2⟩;have HB2:=U (HB1.o.trans (hb2.mono HB1.o.size));have HA2:=U ((hb2.block W.heap.size (z13 HA.o)).trans HA.o);clear hb2 HP e0 e1;obtain⟨e0,e1⟩:=fcl2 HA2.o;have hUni:∀T',SpecAns ns T'->T'= T:=fun T' h'=> spec_ans_one h' HSA.o
 have HUni:=U hUni;clear hUni
 cases hR:progZ es ns T with
 | false=>
   go_wp2_with fail
   go_ret2
   exact⟨_,[],false,rfl,World.ownsRow_nil _ _ _ _,Li _,HB2.o,Or.inl ⟨rfl,rfl,fun T' h1 h2=>by rw[HUni.o T' h1,hR]at h2;cases h2⟩⟩
 | true=>
   have hT:=prog_trueC hR;subst hT;have HR:=U hR;clear hR;obtain⟨n,k,g1,g2,g3,-,gk,gs⟩:=ans_parts HSA.o;have hall:ns.all nodeOkZ=true:=impl_all HIA.o;have hfit:∀m∈ns,Fits m m.kids.toNat:=fun m hm=>impl_fits hall m hm
   have HG:=U (Lc g1 (Lc g2 g3));have HGk:=U (Lc gk gs);have HFm:=U (fun(X:World) (hx:Below W.heap.size W X)=>formOfTree_calls bt 0 cn ns n k X HL.o.2 hfit (Le HN.o.1 hx.size) (HN.o.2.below hx HN.o.1) g1 g2 g3);have HF:=U (implFree_calls (cap:=cn) X1 HL.o.2 (Le HN.o.1 HB2.o.size) (HN.o.2.below HB2.o HN.o.1) HNs.o HIA.o hall g1 g2 g3 (HLd.o.stays HB2.o));clear g1 g2 g3 hall hfit gk gs;go_wp2_with fail
   refine HF.o.mono ?_;rintro e X2 ⟨u,rfl,hb3,hu⟩;obtain⟨au,cu,rfl⟩:=z46 hu;have HB3:=U (HB2.o.trans (hb3.mono HB2.o.size));have HA3:=U ((hb3.block W.heap.size (z13 HA2.o)).trans HA2.o);obtain⟨L,hLn⟩:∃L,(freeOf (wholeW n k)).length=L:=⟨_,rfl⟩
   rw[hLn];have HLn:=U hLn;clear hu hb3 HF e0 e1 hLn;by_cases hL0:(0:Int)<(L:Int)
   .go_wp2_with fail
    go_ret2
    exact⟨_,[],false,rfl,World.ownsRow_nil _ _ _ _,Li _,HB3.o,Or.inl ⟨rfl,rfl,fun _ _ _=>⟨n,k,HG.o.1,HG.o.2.1,HG.o.2.2,fun e=>by have:=HLn.o;rw[e]at this;simp at this;omega⟩⟩⟩
   .have hfr:freeOf (wholeW n k)= []:=Lu kf;have HFr:=U hfr;have HBd:=U (bd_whole HGk.o.1 HGk.o.2 ((free_nil _).1 hfr) 0);obtain⟨e0,e1⟩:=fcl2 HA3.o;have hC:=(Ld X2 (.cells #[.slice ae es.length ce,.slice none 0 0,.slice none 0 0] 46)).1;have hB4:=(Below.refl X2.heap.size X2).alloc La (.cells #[.slice ae es.length ce,.slice none 0 0,.slice none 0 0] 46);obtain⟨W1,hW1⟩:∃W1,X2.alloc (.cells #[.slice ae es.length ce,.slice none 0 0,.slice none 0 0] 46)=W1:=⟨_,rfl⟩
    rw[hW1]at hC hB4;have HW1:=U hW1;have HC:=U hC;have HA4:=U ((hB4.block W.heap.size (z13 HA3.o)).trans HA3.o);have HB4:=U (HB3.o.trans (hB4.mono HB3.o.size));obtain⟨Mb,hMb⟩:∃Mb,X2.heap.size=Mb:=⟨_,rfl⟩
    have HMb:=U (show W.heap.size<=Mb/\Mb<W1.heap.size/\be<Mb by have:=HB3.o.size;have:=z13 hC;have:=HE.o.1;omega);rw[hMb]at HC;have HF4:=U (HFm.o W1 HB4.o);clear hfr hC hB4 hW1 HFm;go_upto_region 4 with fail
    rw[HW1.o];try rw[hMb]
    clear HW1 e0 e1 hMb;have e1:=z11 HA4.o 1;simp at e1;go_wp2_with fail
    clear e1;refine HF4.o.mono ?_;rintro e W0 ⟨v,us,rfl,hF,hS,hb5⟩;have HB5:=U (HB4.o.trans (hb5.mono HB4.o.size));have HFK:O (FormK W1.heap.size W0 ⟨n,k,0⟩ v):=⟨us,hF,hS⟩
    have hC0:=(hb5.block Mb (z13 HC.o)).trans HC.o;have S0:O (KmE W1.heap.size W0 Mb (.slice ae es.length ce) ⟨[],[]⟩ W0):=⟨_,_,_,km_start hC0⟩
    have HX:O (Ex W0 Mb ae es):=⟨HL.o.1,fun h0=>⟨be,0,HCe.o.2 h0,Le HE.o.1 HB5.o.size,by have:=HMb.o;omega,HE.o.2.below HB5.o HE.o.1⟩⟩
    have HPA:=U (put_all (ce:=ce) (ns:=ns) (K:=1000) HX.o La HMb.o.2.1 400);have HS:=U (stands_of HSA.o HG.o.1 HG.o.2.1 HG.o.2.2);have HSz:O ((⟨n,k,0⟩:Tp).size<=300):=by
     show _<=_;have:=HL.o.2;rw[HG.o.1,Ll]at this;exact this
    have HC0:=U (HPA.o ⟨n,k,0⟩ v none [] ⟨[],[]⟩ W0 kj HS.o HBd.o km ko HFK.o S0.o rfl);have R0:=U (part_r (ns:=ns) (K:=1000) (es:=es) 400 ⟨n,k,0⟩ [] ⟨[],[]⟩ kj HS.o km);obtain⟨tv,pv,rfl⟩:=hS.iface;clear hF hS hb5 hC0 HF4;go_wp2_with fail
    refine HC0.o.mono ?_;rintro e X4 ⟨⟨x4,rfl⟩,h4,-⟩;obtain⟨s4,hs4⟩:∃x,partZ es 400 ⟨n,k,0⟩ [] ⟨[],[]⟩=x:=⟨_,rfl⟩
    rw[hs4]at h4 R0;refine zb74 ?_;intro S4 HS4 HR0;clear h4 hs4 HC0;go_wp2_with fail
    refine(z41 ⟨0,0,0,0⟩ S4.o (by have:=HR0.o.1;omega)).mono ?_;refine zb26 ?_;intro X5 n5 S5 FIN HFIN HFQ;go_wp2_with fail
    go_loopw [5] (fun i wr=> ∃(i':Nat) (s:Cs),i=int i64 (i':Int)/\O (KmE W1.heap.size W0 Mb (.slice ae es.length ce) s wr/\LOk ns 1000 s/\s.o.length+10*s.rest+3000*pend s i'<=900001/\i'+ pend s i'<=300/\i'<=s.later.length/\(restZ es (400-i') i' s).o=FIN)) (fun i _=>400-(intOf i).toNat)
    case atStart=>
     refine⟨0,_,rfl,S5.o,?_,?_,?_,Li _,HFIN.o⟩
     .exact(Rs.put ns 1000 s4 ⟨0,0,0,0⟩).ok HR0.o.2.2
     .have h1:=HR0.o;have h2:(s4.put ⟨0,0,0,0⟩).rest=s4.rest:=rfl;have h3:pend (s4.put ⟨0,0,0,0⟩) 0=s4.rest:=rfl;have h4:(s4.put ⟨0,0,0,0⟩).o.length=s4.o.length+1:=jw;omega
     .have h1:=HR0.o;have h3:pend (s4.put ⟨0,0,0,0⟩) 0=s4.rest:=rfl;omega
    case round=>
     obtain⟨i',s,rfl,HI⟩:=hrel;obtain⟨ls,vo,vl,hcm⟩:=HI.o.1;obtain⟨adl,cpl,hvl⟩:=z46 hcm.lrow;subst hvl;have hll:ls.length=s.later.length:=by rw[<-hcm.lfst,List.length_map]
     have d2:=z11 hcm.blk 2;simp at d2;by_cases hi:(i':Int)<(ls.length:Int)
     .have hil:i'<s.later.length:=by omega
      obtain⟨gl,hgl⟩:∃g,adl=some ⟨g,0,none⟩:=by
       obtain⟨-,⟨-,h0⟩|⟨g,cap,cur,e,-⟩⟩:=hcm.lrow
       .omega
       .cases e;exact⟨g,rfl⟩
      subst hgl;have hls:s.later.getD i' default=(ls.getD i' default).1:=by
       rw[<-hcm.lfst];simp[List.getD,show i'<ls.length by omega]
      have hmem:ls.getD i' default∈ls:=getD_mem ya;have hcs:wr.cell? ⟨gl,i',none⟩=some (ls.getD i' default).2:=by
       rw[hcm.lrow.cellAt i' ya];simp[List.getD,show i'<ls.length by omega]
      obtain⟨⟨l,v⟩,hlv⟩:∃x,ls.getD i' default=x:=⟨_,rfl⟩
      rw[hlv]at hcs hmem hls;have hlate:=hcm.late _ hmem;dsimp only at hls hlate hcs;have hl2:=hlate;obtain⟨p4,p5,p6,p7,fv,kn,tv,rfl,-⟩:=hl2;have hlm:l∈s.later:=by rw[<-hls];exact getD_mem hil
      obtain⟨q1,q2,q3⟩:=HI.o.2.1 l hlm;have hnx:=next_r (es:=es) hil HL.o.2 HI.o.2.1 HI.o.2.2.1 HI.o.2.2.2.1;rw[hls]at hnx;have HNx:=U hnx;have hpn:=pend_next hil;rw[hls]at hpn;have HFn:O ((restZ es (400-(i'+ 1)) (i'+ 1) (nextZ es l s)).o=FIN):=by
       have h1:=HI.o.2.2.2.2.2;rw[show 400-i'= (400-(i'+ 1))+1 by have:=HI.o.2.2.2.1;omega,restZ,if_pos hil]at h1;dsimp only at h1;have hd:s.later.getD i' ⟨default,[],0,0⟩=l:=hls;rw[hd]at h1;exact h1
      have HLC:=U (late_calls HPA.o hlate (by have:=q1.lt.2.2;have:=HL.o.2;omega) q1 q2.1 (by have h1:=HI.o.2.2.1;have h2:=q1.lt.2.2;have h3:=HL.o.2;omega) q3 HI.o.1);have hi0:(0:Int)<=(i':Int):=ya;have hstep:400-(intOf (int i64 ((i'+ 1:Nat):Int))).toNat<400-(intOf (int i64 (i':Int))).toNat:=by
       have:=HI.o.2.2.2.1;simp only[intOf,Lp];omega
      have HstP:=U hstep;have hi9:O (i'<=1000):=kt;clear hcm hll hil hmem hls hlv hlate hlm q1 q2 q3 hnx hpn hstep;go_wp2_with fail
      refine HLC.o.mono ?_;rintro e E3 ⟨⟨x3,rfl⟩,h3,-⟩;have E3S:=U h3;clear h3 hcs d2 HLC;go_wp2_with fail
      try rw[z30 (by have:=hi9.o;omega)]
      exact⟨⟨i'+ 1,nextZ es l s,rfl,E3S.o,HNx.o.1,HNx.o.2.1,HNx.o.2.2.1,HNx.o.2.2.2,HFn.o⟩,HstP.o⟩
     .have hie:¬ i'<s.later.length:=by omega
      have HFn:O (s.o=FIN):=by
       have h1:=HI.o.2.2.2.2.2;rw[show 400-i'= (399-i')+1 by have:=HI.o.2.2.2.1;omega,restZ,if_neg hie]at h1;exact h1
      obtain⟨ado,cpo,hvo⟩:=z46 hcm.orow;subst hvo;have d1:=z11 hcm.blk 1;simp at d1;have HCm:=U hcm;clear hcm hll;go_wp2_with fail
      go_ret2
      exact⟨_,s.o,true,rfl,own_base HCm.o.orow HB5.o.size,kr,km_belowW HCm.o HB5.o HMb.o.1,Or.inr ⟨rfl,n,k,⟨true,HSA.o,HR.o⟩,HG.o.1,HG.o.2.1,HG.o.2.2,HFr.o,by rw[HFn.o,HFQ.o]⟩⟩
end
section
open Go.RowKit
def manyZ (op:Int):Int:=
 if op=0\/op=3\/op=4\/op=8\/op=9\/op=12\/op=13\/op=15\/op=16\/op=17\/op=18\/op=20\/op=23 then 0
 else if op=1\/op=2\/op=5\/op=6\/op=7\/op=10\/op=11\/op=14\/op=19\/op=22 then 1
 else if op=24\/op=25 then 2
 else if op=21 then 3
 else -1
theorem ops_cases (op:Int):(op<0\/25<op)\/op=0\/op=1\/op=2\/op=3\/op=4\/op=5\/op=6\/op=7\/op=8\/op=9\/op=10\/op=11\/op=12\/op=13\/op=14\/op=15\/op=16\/op=17\/op=18\/op=19\/op=20\/op=21\/op=22\/op=23\/op=24\/op=25:=ya
def insOkZ (op a b c:Int):Bool:=
 if manyZ op<0\/(manyZ op<1/\a≠0)\/(manyZ op<2/\b≠0)\/(manyZ op<3/\c≠0) then false
 else if op=1 then decide (-2147483648<=a/\a<=2147483647)
 else if op=2 then decide (a=0\/a=1)
 else if op=14 then decide (11<=a/\a<=15)
 else if op=21/\b≠0/\b≠1 then false
 else decide (0<=a/\a<=65535/\0<=b/\b<=65535/\0<=c/\c<=65535)
def insCells (ns:List In) (i:Nat):Value:=(ns.getD (i/4) default).cell (i % 4)
theorem insCells_at (ns:List In) (k c:Nat) (hc:c<4):insCells ns (k*4+c)=(ns.getD k default).cell c:=by
 unfold insCells;rw[show(k*4+c)/4=k by omega,show(k*4+c) % 4=c by omega]
theorem CellRow.insAt {w:World}{g:Nat}{ns:List In}(h:CellRow 53 w g (ns.length*4) (insCells ns)):InsAt w g 0 ns:=by
 intro k hk c hc;have:=h.cell (i:=k*4+c) ya;rw[insCells_at ns k c hc]at this;simpa using this
theorem info_ins:(prog.info? 53).map (fun i=>(i.zero,i.size,i.bytes))=some (some (.agg #[int i64 0,int i64 0,int i64 0,int i64 0]),4,32):=ye
theorem SliceR.insSlice {w:World}{ns:List In}(h:SliceR 53 4 B w v ns.length (insCells ns)):InsSlice w v ns:=by
 obtain⟨ad,cap,rfl,h⟩:=h;refine⟨ad,cap,rfl,?_⟩;by_cases h0:ns= []
 .exact Or.inl h0
 .obtain⟨g,rfl,_,hr⟩:=h.resolve_left (fun e=>h0 (List.length_eq_zero_iff.1 e));exact Or.inr ⟨g,0,rfl,hr.lt,hr.insAt⟩
def four (n:Int):List Int:= [n/16777216 % 256,n/65536 % 256,n/256 % 256,n % 256]
def In.nums (i:In):List Int:= [i.a,i.b,i.c].take (manyZ i.op).toNat
def In.bytes (i:In):List Int:=(i.op % 256)::i.nums.flatMap four
def In.ok (i:In):Bool:=insOkZ i.op i.a i.b i.c
def headBytes:List Int:= [104,114,49]
def codeOkZ (cs:List In):Bool:=decide (cs.length<=1500) && cs.all In.ok
def codeBytesZ (cs:List In):List Int:=headBytes++cs.flatMap In.bytes
theorem four_length (n:Int):(four n).length=4:=rfl
theorem nums_length (i:In):i.nums.length<=3:=by
 unfold In.nums;simp;omega
theorem flat_length:∀ns:List Int,(ns.flatMap four).length=ns.length*4
 |[]=>rfl
 |n::r=>by rw[List.flatMap_cons,Lk,flat_length r,Ll,four_length];omega
theorem bytes_length (i:In):i.bytes.length<=13:=by
 have:=nums_length i;rw[In.bytes,Ll,flat_length];omega
theorem code_length:∀cs:List In,(cs.flatMap In.bytes).length<=cs.length*13
 |[]=>yq
 | i::r=>by
   have:=bytes_length i;have:=code_length r;rw[List.flatMap_cons,Lk,Ll];omega
def OwnsB (B:Nat) (w:World) (v:Value) (bs:List Int):Prop:=w.ownsRow B 5 1 v bs.length (bs.map (fun b=> .int .u8 b))
theorem OwnsB.more {w:World}{bs ns:List Int}{news:List Value}(h:w.ownsRow B 5 1 v (bs.length+k) (bs.map (fun b=> .int .u8 b)++news)) (e:news=ns.map (fun b=> .int .u8 b)) (hk:k=ns.length):OwnsB B w v (bs++ns):=by
 subst e hk;unfold OwnsB;rw[Lk,List.map_append];exact h
theorem OwnsB.mono {B':Nat}{w:World}{bs:List Int}(h:OwnsB B w v bs) (hB:B'<=B):OwnsB B' w v bs:=by
 refine⟨h.1,h.2.imp id ?_⟩;rintro⟨g,cap,cur,e,hg,r⟩;exact⟨g,cap,cur,e,Lf hB hg,r⟩
theorem owns_ne {w:World}{base b:Nat}{e t:TypeId}{size:Nat}{n:Nat}{xs:List Value}{c:Array Value}(h:w.ownsRow base e size v n xs) (hb:w.heap[b]?=some (.cells c t)) (hne:e≠t):some b≠v.ownBlock:=by
 intro hv;rcases h.2 with ⟨rfl,hn⟩|⟨g,cap,cur,rfl,hB,hg,_⟩
 .cases hv
 .simp[Value.ownBlock]at hv;subst hv;rw[hb]at hg;simp at hg;exact hne hg.2.symm
theorem info_byte:(prog.info? 5).map (fun i=>(i.zero,i.size,i.bytes))=some (some (.int .u8 0),1,1):=ye
theorem cell_oneC (w:World) (n:Nat) (hn:n=w.heap.size) (a:Value) (t:TypeId):∀j u,[a][j]?=some u->(w.alloc (.cells #[a] t)).cell? ((⟨n,0,none⟩:Addr).add j)=some u:=by
 subst hn;intro j u hj;match j,hj with
 |0,hj=>simp at hj;subst hj;simp[Addr.add]
 |j+1,hj=>simp at hj
theorem cell_four_new (w:World) (n:Nat) (hn:n=w.heap.size) (a b c d:Value) (t:TypeId):∀j u,[a,b,c,d][j]?=some u->(w.alloc (.cells #[a,b,c,d] t)).cell? ((⟨n,0,none⟩:Addr).add j)=some u:=by
 subst hn;intro j u hj;match j,hj with
 |0,hj=>simp at hj;subst hj;simp[Addr.add]
 |1,hj=>simp at hj;subst hj;simp[Addr.add]
 |2,hj=>simp at hj;subst hj;simp[Addr.add]
 |3,hj=>simp at hj;subst hj;simp[Addr.add]
 |j+4,hj=>simp at hj
theorem ins_drop (hk:k<cs.length):cs.take (k+1)=cs.take k++ [cs.getD k default]:=by
 rw[List.take_succ_eq_append_getElem hk];simp[List.getD,Lr hk]
structure Sq where
 n:Int
 v:Int
 p:Int
instance:Inhabited Sq:=⟨⟨0,0,0⟩⟩
instance:DecidableEq Sq:=fun a b=>
 if h:a.n=b.n/\a.v=b.v/\a.p=b.p then isTrue (by cases a;cases b;obtain⟨h1,h2,h3⟩:=h;dsimp only at h1 h2 h3;subst h1 h2 h3;rfl)
 else isFalse (fun e=>h (by subst e;exact⟨rfl,rfl,rfl⟩))
def tg (T:List Sq) (k:Nat):Sq:=T.getD k default
theorem tg_set {T:List Sq}(hk:k<T.length) (s:Sq) (j:Nat):tg (T.set k s) j=if j=k then s else tg T j:=by
 unfold tg;simp only[List.getD_eq_getElem?_getD,List.getElem?_set];by_cases h:k=j
 .subst h;simp[hk]
 .have h':¬ j=k:=fun e=>h e.symm
  simp[h,h']
theorem tg_out {T:List Sq}(hk:¬ k<T.length):tg T k=⟨0,0,0⟩:=by
 unfold tg;rw[List.getD_eq_getElem?_getD,List.getElem?_eq_none ya];rfl
def free (T:List Sq):Nat:=T.countP (fun s=>decide (s.p=0))
theorem free_le (T:List Sq):free T<=T.length:=List.countP_le_length
theorem free_set:∀(T:List Sq) (k:Nat),k<T.length->(tg T k).p=0-> ∀s:Sq,s.p≠0->free (T.set k s)+1=free T
 |[],_,h,_,_,_=>absurd h yq
 | x::r,0,_,h0,s,hs=>by
   have h0':x.p=0:=h0;simp[free,hs,h0']
 | x::r,k+1,h,h0,s,hs=>by
   have ih:=free_set r k zx (by simpa[tg]using h0) s hs;simp only[free,List.set_cons_succ,List.countP_cons]at ih |-;omega
def clausesZ (cs:List In) (a:Int):List In:=(cs.drop (a.toNat+1)).take (cs.getD a.toNat default).b.toNat
def tableZ (cs:List In) (a:Int):Bool:=
 decide (a<(cs.length:Int)) && (decide ((cs.getD a.toNat default).op=24) && (decide ((cs.getD a.toNat default).b<=4) && (decide ((cs.getD a.toNat default).b<(cs.length:Int)-a) && (clausesZ cs a).all (fun i=>decide (i.op=25)))))
def needsZ (cs:List In) (i:In) (s:Sq):Bool:=
 if i.op=5 then decide (i.a<s.n)
 else if i.op=8\/i.op=14\/i.op=15\/i.op=18 then decide (2<=s.v)
 else if i.op=10\/i.op=12\/i.op=16\/i.op=17\/i.op=19\/i.op=20\/i.op=22 then decide (1<=s.v)
 else if i.op=13 then decide (1<=s.n)
 else if i.op=21 then tableZ cs i.a
 else if i.op=0 then decide (s.v=1/\s.p=1)
 else if i.op=9 then decide (s.v=1/\s.p=2)
 else if i.op=23 then decide (s.v=1/\s.p=3)
 else if i.op=24\/i.op=25 then false
 else true
def Sq.more (s:Sq) (n v:Int):Sq:=⟨s.n+n,s.v+v,s.p⟩
def handleZ (cs:List In) (k:Nat) (i:In) (s:Sq):List (Int×Sq):=
 ((cs.getD i.a.toNat default).a,⟨s.n+1,0,2⟩)::(clausesZ cs i.a).map (fun c=>(c.b,(⟨s.n+2,0,2⟩:Sq)))++ [((k:Int)+1,⟨s.n,0,3⟩),(i.c,s.more 0 1)]
def exitsZ (cs:List In) (k:Nat) (i:In) (s:Sq):List (Int×Sq):=
 if i.op=1\/i.op=2\/i.op=3\/i.op=4\/i.op=5 then [((k:Int)+1,s.more 0 1)]
 else if i.op=6 then [(i.a,⟨s.n+1,0,2⟩),((k:Int)+1,s.more 0 1)]
 else if i.op=7 then [(i.a,⟨s.n+2,0,2⟩),((k:Int)+1,s.more 0 1)]
 else if i.op=8\/i.op=14\/i.op=15\/i.op=18 then [((k:Int)+1,s.more 0 (-1))]
 else if i.op=10 then [(i.a,s.more 0 (-1)),((k:Int)+1,s.more 0 (-1))]
 else if i.op=11 then [(i.a,s)]
 else if i.op=12 then [((k:Int)+1,s.more 1 (-1))]
 else if i.op=13 then [((k:Int)+1,s.more (-1) 0)]
 else if i.op=16\/i.op=17\/i.op=20\/i.op=22 then [((k:Int)+1,s)]
 else if i.op=19 then [(i.a,s.more 0 (-1)),((k:Int)+1,s.more 2 (-1))]
 else if i.op=21 then handleZ cs k i s
 else []
inductive Reach (cs:List In):Nat->Sq->Prop
 |start:Reach cs 0 ⟨0,0,1⟩
 |step {k:Nat} {s:Sq} {e:Int×Sq}:Reach cs k s->k<cs.length->needsZ cs (cs.getD k default) s=true->e∈exitsZ cs k (cs.getD k default) s->Reach cs e.1.toNat e.2
def GoodV (cs:List In):Prop:= ∀k s,Reach cs k s->k<cs.length/\s.n<=100/\s.v<=100/\needsZ cs (cs.getD k default) s=true/\ ∀s',Reach cs k s'->s'= s
def comeZ (N:Nat) (T:List Sq) (w:List Nat) (e:Int×Sq):Option (List Sq×List Nat):=
 if e.1<0\/(N:Int)<=e.1\/e.2.n<0\/e.2.v<0\/100<e.2.n\/100<e.2.v then none
 else if tg T e.1.toNat=e.2 then some (T,w)
 else if (tg T e.1.toNat).p≠0 then none
 else some (T.set e.1.toNat e.2,w++ [e.1.toNat])
def comesZ (N:Nat):List Sq->List Nat->List (Int×Sq)->Option (List Sq×List Nat)
 |T,w,[]=>some (T,w)
 | T,w,e::r=>match comeZ N T w e with
   |none=>none
   |some (T',w')=>comesZ N T' w' r
def SaneS (s:Sq):Prop:=(s.p=0/\s.n=0/\s.v=0)\/(1<=s.p/\s.p<=3/\0<=s.n/\s.n<=100/\0<=s.v/\s.v<=100)
theorem sane_zero {s:Sq}(h:SaneS s) (h0:s.p=0):s=⟨0,0,0⟩:=by
 cases s with
 | mk n v p=>
   rcases h with ⟨a,b,c⟩|hs
   .dsimp only at a b c;rw[a,b,c]
   .dsimp only at h0 hs;omega
structure Tab (cs:List In) (T:List Sq) (w:List Nat):Prop where
 len:T.length=cs.length
 rch:∀k,(tg T k).p≠0->Reach cs k (tg T k)
 sane:∀s∈T,SaneS s
 work:∀k∈w,k<cs.length/\(tg T k).p≠0
 room:w.length+free T<=cs.length
def Grows (T T':List Sq):Prop:= ∀k,(tg T k).p≠0->tg T' k=tg T k
theorem Grows.refl (T:List Sq):Grows T T:=fun _ _=>rfl
theorem Grows.trans {T T' T'':List Sq}(h:Grows T T') (h':Grows T' T''):Grows T T'':= fun k hk=>by
 have e:=h k hk;rw[h' k (by rw[e];exact hk),e]
theorem come_bad {T:List Sq}{e:Int×Sq}(hT:Tab cs T w) (hr:Reach cs e.1.toNat e.2) (h0:0<=e.1) (hn:0<=e.2.n) (hv:0<=e.2.v) (h:comeZ cs.length T w e=none):¬ GoodV cs:=fun hg=>by
 obtain⟨g1,g2,g3,-,g5⟩:=hg _ _ hr;unfold comeZ at h;rw[if_neg ya]at h;by_cases h1:tg T e.1.toNat=e.2
 .rw[if_pos h1]at h
  cases h
 .rw[if_neg h1]at h;by_cases h2:(tg T e.1.toNat).p≠0
  .exact h1 (g5 _ (hT.rch _ h2))
  .rw[if_neg h2]at h
   cases h
structure Noted (cs:List In) (T:List Sq) (w:List Nat) (es:List (Int×Sq)) (T':List Sq) (w':List Nat):Prop where
 tab:Tab cs T' w'
 grows:Grows T T'
 told:∀e∈es,tg T' e.1.toNat=e.2/\0<=e.1/\e.1.toNat<cs.length
 news:∀k,(tg T' k).p≠0->(tg T k).p≠0\/k∈w'
 olds:∀k∈w,k∈w'
 less:2*free T'+ w'.length<=2*free T+w.length
theorem come_some {T:List Sq}{e:Int×Sq}{T':List Sq}{w':List Nat}(hT:Tab cs T w) (hr:Reach cs e.1.toNat e.2) (hp:1<=e.2.p/\e.2.p<=3) (h:comeZ cs.length T w e=some (T',w')):Noted cs T w [e] T' w':= by
 unfold comeZ at h;by_cases h0:e.1<0\/(cs.length:Int)<=e.1\/e.2.n<0\/e.2.v<0\/100<e.2.n\/100<e.2.v
 .rw[if_pos h0]at h
  cases h
 rw[if_neg h0]at h;by_cases h1:tg T e.1.toNat=e.2
 .rw[if_pos h1]at h
  cases h;exact⟨hT,Grows.refl _,fun e' he'=> by rw[Ls]at he';subst he';exact⟨h1,ya,ya⟩,fun k hk=>Or.inl hk,fun k hk=>hk,La⟩
 rw[if_neg h1]at h;by_cases h2:(tg T e.1.toNat).p≠0
 .rw[if_pos h2]at h
  cases h
 rw[if_neg h2]at h
 cases h;have h3:(tg T e.1.toNat).p=0:=Classical.byContradiction h2;have hk:e.1.toNat<T.length:=by rw[hT.len];omega
 have hf:=free_set T e.1.toNat hk h3 e.2 ya;have hts:=tg_set hk e.2;refine⟨⟨by rw[List.length_set];exact hT.len,fun k hk'=> ?_,fun s hs=>?_,fun k hk'=> ?_,?_⟩,fun k hk'=> ?_,fun e' he'=> ?_,fun k hk'=> ?_,fun k hk'=> List.mem_append_left _ hk',?_⟩
 .rw[hts]at hk' |-;split
  .rename_i e1;subst e1;exact hr
  .rename_i e1;rw[if_neg e1]at hk';exact hT.rch k hk'
 .rcases List.mem_or_eq_of_mem_set hs with h4|rfl
  .exact hT.sane s h4
  .exact Or.inr ⟨ya,ya,ya,ya,ya,ya⟩
 .rw[List.mem_append,Ls]at hk';rw[hts];rcases hk' with h4|rfl
  .obtain⟨h5,h6⟩:=hT.work k h4;refine⟨h5,?_⟩;split
   .omega
   .exact h6
  .rw[if_pos rfl];exact⟨ya,ya⟩
 .have:=hT.room;rw[Lk,List.length_singleton];omega
 .rw[hts,if_neg (fun e1=>by subst e1;exact hk' h3)]
 .rw[Ls]at he';subst he';rw[hts,if_pos rfl];exact⟨rfl,ya,ya⟩
 .rw[hts]at hk';by_cases e1:k=e.1.toNat
  .exact Or.inr (List.mem_append_right _ (List.mem_singleton.2 e1))
  .rw[if_neg e1]at hk';exact Or.inl hk'
 .rw[Lk,List.length_singleton];omega
theorem comes_some {cs:List In}:∀ {es:List (Int×Sq)}{T:List Sq}{w:List Nat}{T':List Sq}{w':List Nat},Tab cs T w->(∀e∈es,Reach cs e.1.toNat e.2/\1<=e.2.p/\e.2.p<=3)->comesZ cs.length T w es=some (T',w')->Noted cs T w es T' w'
 | [],T,w,T',w',hT,_,h=>by
   simp only[comesZ]at h
   cases h;exact⟨hT,Grows.refl _,fun e he=>absurd he yq,fun k hk=>Or.inl hk,fun k hk=>hk,La⟩
 | e::r,T,w,T',w',hT,he,h=>by
   simp only[comesZ]at h
   cases hc:comeZ cs.length T w e with
   | none=>
     rw[hc]at h
     cases h
   | some x=>
     obtain⟨T1,w1⟩:=x;rw[hc]at h;have h1:=come_some hT (he e (List.mem_cons_self ..)).1 (he e (List.mem_cons_self ..)).2 hc;have h2:=comes_some h1.tab (fun e' he'=> he e' (List.mem_cons_of_mem _ he')) h;refine⟨h2.tab,h1.grows.trans h2.grows,fun e' he'=> ?_,fun k hk=>?_,fun k hk=>h2.olds k (h1.olds k hk),Lf h2.less h1.less⟩
     .rcases List.mem_cons.1 he' with rfl|h3
      .have h4:=h1.told e' (List.mem_singleton.2 rfl);have h5:=(he e' (List.mem_cons_self ..)).2;refine⟨?_,h4.2⟩;rw[h2.grows _ (by rw[h4.1];omega),h4.1]
      .exact h2.told e' h3
     .rcases h2.news k hk with h3|h3
      .rcases h1.news k h3 with h4|h4
       .exact Or.inl h4
       .exact Or.inr (h2.olds k h4)
      .exact Or.inr h3
theorem comes_bad {cs:List In}:∀ {es:List (Int×Sq)}{T:List Sq}{w:List Nat},Tab cs T w->(∀e∈es,Reach cs e.1.toNat e.2/\1<=e.2.p/\e.2.p<=3/\0<=e.1/\0<=e.2.n/\0<=e.2.v)->comesZ cs.length T w es=none-> ¬ GoodV cs
 | [],T,w,_,_,h=>by
   simp only[comesZ]at h
   cases h
 | e::r,T,w,hT,he,h=>by
   simp only[comesZ]at h;obtain⟨h1,h2,h3,h4,h5,h6⟩:=he e (List.mem_cons_self ..)
   cases hc:comeZ cs.length T w e with
   |none=>exact come_bad hT h1 h4 h5 h6 hc
   | some x=>
     obtain⟨T1,w1⟩:=x;rw[hc]at h;exact comes_bad (come_some hT h1 ⟨h2,h3⟩ hc).tab (fun e' he'=> he e' (List.mem_cons_of_mem _ he')) h
def Done (cs:List In) (T:List Sq) (k:Nat):Prop:=needsZ cs (cs.getD k default) (tg T k)=true/\ ∀e∈exitsZ cs k (cs.getD k default) (tg T k),tg T e.1.toNat=e.2/\e.1.toNat<cs.length
theorem ok_nums {i:In}(h:i.ok=true) (h1:i.op≠1) (h14:i.op≠14) (h2:i.op≠2):0<=i.a/\i.a<=65535/\0<=i.b/\i.b<=65535/\0<=i.c/\i.c<=65535:=by
 unfold In.ok insOkZ at h;split at h
 .cases h
 .split at h
  .cases h
  .exact of_decide_eq_true h
theorem all_ok (h:∀i∈cs,i.ok=true) (hk:k<cs.length):(cs.getD k default).ok=true:=by
 rw[List.getD_eq_getElem?_getD,Lr hk];exact h _ (List.getElem_mem hk)
theorem clauses_mem {a:Int}{i:In}(h:i∈clausesZ cs a):i∈cs:=List.mem_of_mem_drop (List.mem_of_mem_take h)
theorem table_parts {a:Int}(h:tableZ cs a=true):a<(cs.length:Int)/\(cs.getD a.toNat default).op=24/\(cs.getD a.toNat default).b<=4/\(cs.getD a.toNat default).b<(cs.length:Int)-a/\ ∀i∈clausesZ cs a,i.op=25:=by
 unfold tableZ at h;simp only[Lq,decide_eq_true_eq,List.all_eq_true]at h;exact⟨h.1,h.2.1,h.2.2.1,h.2.2.2.1,h.2.2.2.2⟩
theorem exits_right (hok:∀i∈cs,i.ok=true) {s:Sq}(hk:k<cs.length) (hn0:0<=s.n) (hv0:0<=s.v) (hp:1<=s.p/\s.p<=3) (hneed:needsZ cs (cs.getD k default) s=true):∀e∈exitsZ cs k (cs.getD k default) s,1<=e.2.p/\e.2.p<=3/\0<=e.1/\0<=e.2.n/\0<=e.2.v:=by
 have hi:=all_ok hok hk;generalize hie:cs.getD k default=i at hi hneed;intro e he;unfold exitsZ at he;unfold needsZ at hneed;split at he
 .rw[Ls]at he;subst he;simp only[Sq.more];omega
 rename_i n1;have hnum:0<=i.a/\0<=i.c\/i.op=14:=by
  by_cases h14:i.op=14
  .exact Or.inr h14
  .have:=ok_nums hi ya h14 ya;exact Or.inl ⟨ya,ya⟩
 split at he
 .rcases List.mem_cons.1 he with rfl|he
  .dsimp only;omega
  .rw[Ls]at he;subst he;simp only[Sq.more];omega
 split at he
 .rcases List.mem_cons.1 he with rfl|he
  .dsimp only;omega
  .rw[Ls]at he;subst he;simp only[Sq.more];omega
 split at he
 .rename_i hop;rw[if_neg ya,if_pos hop]at hneed;have:=of_decide_eq_true hneed;rw[Ls]at he;subst he;simp only[Sq.more];omega
 rename_i n4;split at he
 .rename_i hop;rw[if_neg ya,if_neg n4,if_pos ya]at hneed;have:=of_decide_eq_true hneed;rcases List.mem_cons.1 he with rfl|he
  .simp only[Sq.more];omega
  .rw[Ls]at he;subst he;simp only[Sq.more];omega
 split at he
 .rw[Ls]at he;subst he;dsimp only;omega
 split at he
 .rename_i hop;rw[if_neg ya,if_neg n4,if_pos ya]at hneed;have:=of_decide_eq_true hneed;rw[Ls]at he;subst he;simp only[Sq.more];omega
 split at he
 .rename_i hop;rw[if_neg ya,if_neg n4,if_neg ya,if_pos hop]at hneed;have:=of_decide_eq_true hneed;rw[Ls]at he;subst he;simp only[Sq.more];omega
 split at he
 .rw[Ls]at he;subst he;dsimp only;omega
 split at he
 .rename_i hop;rw[if_neg ya,if_neg n4,if_pos ya]at hneed;have:=of_decide_eq_true hneed;rcases List.mem_cons.1 he with rfl|he
  .simp only[Sq.more];omega
  .rw[Ls]at he;subst he;simp only[Sq.more];omega
 split at he
 .rename_i hop;rw[if_neg ya,if_neg n4,if_neg ya,if_neg ya,if_pos hop]at hneed;obtain⟨t1,t2,t3,t4,t5⟩:=table_parts hneed;have h0:i.a.toNat<cs.length:=ya;have ht:=ok_nums (all_ok hok h0) ya ya ya;unfold handleZ at he;rw[List.mem_append,List.mem_cons,List.mem_map]at he;rcases he with (rfl|⟨c,hc,rfl⟩)|he
  .dsimp only;omega
  .have h25:=t5 c hc;have hcn:=ok_nums (hok c (clauses_mem hc)) ya ya ya;dsimp only;omega
  .rcases List.mem_cons.1 he with rfl|he
   .dsimp only;omega
   .rw[Ls]at he;subst he;simp only[Sq.more];omega
 .cases he
theorem reach_right (hok:∀i∈cs,i.ok=true) {s:Sq}(h:Reach cs k s):0<=s.n/\0<=s.v/\1<=s.p/\s.p<=3:=by
 induction h with
 |start=>exact⟨yk,yk,yk,yk⟩
 | step hr hk hneed he ih=>
   obtain⟨h1,h2,h3,h4,h5⟩:=exits_right hok hk ih.1 ih.2.1 ih.2.2 hneed _ he;exact⟨h4,h5,h1,h2⟩
theorem all_done (hok:∀i∈cs,i.ok=true) {T:List Sq}(h0:0<cs.length) (h1:tg T 0=⟨0,0,1⟩) (hd:∀k,(tg T k).p≠0->Done cs T k):∀k s,Reach cs k s->tg T k=s/\k<cs.length:=by
 intro k s h;induction h with
 |start=>exact⟨h1,h0⟩
 | step hr hk hneed he ih=>
   have hp:=reach_right hok hr;have hd':= hd _ (by rw[ih.1];omega);unfold Done at hd';rw[ih.1]at hd';exact hd'.2 _ he
theorem good_of_done (hok:∀i∈cs,i.ok=true) {T:List Sq}(hT:Tab cs T w) (h0:0<cs.length) (h1:tg T 0=⟨0,0,1⟩) (hd:∀k,(tg T k).p≠0->Done cs T k):GoodV cs:=fun k s h=>by
 obtain⟨e,hk⟩:=all_done hok h0 h1 hd k s h;have hp:=reach_right hok h;have hs:SaneS (tg T k):=hT.sane _ (by
  unfold tg;rw[List.getD_eq_getElem?_getD,Lr (by rw[hT.len];exact hk)];exact List.getElem_mem _)
 have hd':= hd k (by rw[e];omega);unfold Done at hd';rw[e]at hd' hs;refine⟨hk,?_,?_,hd'.1,fun s' h'=> ?_⟩
 .rcases hs with hs|hs<;>omega
 .rcases hs with hs|hs<;>omega
 .rw[<-(all_done hok h0 h1 hd k s' h').1,e]
structure Going (cs:List In) (T:List Sq) (w:List Nat):Prop where
 tab:Tab cs T w
 pos:0<cs.length
 one:tg T 0=⟨0,0,1⟩
 done:∀k,(tg T k).p≠0->k∈w\/Done cs T k
theorem Done.grows (hok:∀i∈cs,i.ok=true) {T T':List Sq}(hT:Tab cs T w) (h:Done cs T k) (hk:(tg T k).p≠0) (hg:Grows T T'):Done cs T' k:=by
 have e:=hg k hk;have hr:=hT.rch k hk;have hp:=reach_right hok hr;have hl:k<cs.length:=by
  apply Classical.byContradiction;intro hc;rw[tg_out (by rw[hT.len];exact hc)]at hk;exact hk rfl
 unfold Done at h |-;rw[e];refine⟨h.1,fun e' he'=> ?_⟩;obtain⟨h1,h2⟩:=h.2 e' he';have hq:=exits_right hok hl hp.1 hp.2.1 hp.2.2 h.1 e' he';exact⟨by rw[hg _ (by rw[h1];omega),h1],h2⟩
theorem tab_start:Tab cs (List.replicate cs.length (⟨0,0,0⟩:Sq)) []:=by
 have z:∀k,tg (List.replicate cs.length (⟨0,0,0⟩:Sq)) k=⟨0,0,0⟩:=fun k=>by
  by_cases hk:k<cs.length
  .unfold tg;rw[List.getD_eq_getElem?_getD,List.getElem?_replicate,if_pos hk];rfl
  .exact tg_out kz
 refine⟨List.length_replicate,fun k hk=>absurd (by rw[z]) hk,fun s hs=>?_,fun k hk=>absurd hk yq,?_⟩
 .rw[List.eq_of_mem_replicate hs];exact Or.inl ⟨rfl,rfl,rfl⟩
 .have:=free_le (List.replicate cs.length (⟨0,0,0⟩:Sq));rw[List.length_replicate]at this;simpa using this
theorem first_some (h0:0<cs.length):comeZ cs.length (List.replicate cs.length (⟨0,0,0⟩:Sq)) [] (0,⟨0,0,1⟩)=some ((List.replicate cs.length (⟨0,0,0⟩:Sq)).set 0 ⟨0,0,1⟩,[0]):=by
 have z:tg (List.replicate cs.length (⟨0,0,0⟩:Sq)) 0=⟨0,0,0⟩:=by
  unfold tg;rw[List.getD_eq_getElem?_getD,List.getElem?_replicate,if_pos h0];rfl
 unfold comeZ;dsimp only;rw[if_neg ya,show(0:Int).toNat=0 from rfl,z,if_neg yk,if_neg yk];rfl
theorem going_start (h0:0<cs.length):Going cs ((List.replicate cs.length (⟨0,0,0⟩:Sq)).set 0 ⟨0,0,1⟩) [0]:=by
 have h:=come_some (e:=(0,⟨0,0,1⟩)) tab_start Reach.start ⟨yk,yk⟩ (first_some h0);refine⟨h.tab,h0,(h.told _ (List.mem_singleton.2 rfl)).1,fun k hk=>?_⟩;rcases h.news k hk with h1|h1
 .refine absurd ?_ h1;by_cases hk':k<cs.length
  .unfold tg;rw[List.getD_eq_getElem?_getD,List.getElem?_replicate,if_pos hk'];rfl
  .rw[tg_out (by rw[List.length_replicate];exact hk')]
 .exact Or.inl h1
theorem none_bad (h:¬ 0<cs.length):¬ GoodV cs:=fun hg=>h (hg 0 _ Reach.start).1
theorem going_at (hok:∀i∈cs,i.ok=true) {T:List Sq}(h:Going cs T w) (hk:k∈w):k<cs.length/\Reach cs k (tg T k)/\0<=(tg T k).n/\(tg T k).n<=100/\0<=(tg T k).v/\(tg T k).v<=100/\1<=(tg T k).p/\(tg T k).p<=3:=by
 obtain⟨h1,h2⟩:=h.tab.work k hk;have hr:=h.tab.rch k h2;have hp:=reach_right hok hr;have hs:SaneS (tg T k):=h.tab.sane _ (by
  unfold tg;rw[List.getD_eq_getElem?_getD,Lr (by rw[h.tab.len];exact h1)];exact List.getElem_mem _)
 rcases hs with hs|hs
 .omega
 .exact⟨h1,hr,ya,ya,ya,ya,ya,ya⟩
theorem going_step (hok:∀i∈cs,i.ok=true) {T:List Sq}{w0:List Nat}(h:Going cs T w0) (hk:k∈w0) (hw:∀j∈w0,j=k\/j∈w) (hw':∀j∈w,j∈w0) (hwl:w.length+1=w0.length) :
 (needsZ cs (cs.getD k default) (tg T k)=false-> ¬ GoodV cs)/\
 (needsZ cs (cs.getD k default) (tg T k)=true->comesZ cs.length T w (exitsZ cs k (cs.getD k default) (tg T k))=none-> ¬ GoodV cs)/\
 (∀T' w',needsZ cs (cs.getD k default) (tg T k)=true->comesZ cs.length T w (exitsZ cs k (cs.getD k default) (tg T k))=some (T',w')->Going cs T' w'/\2*free T'+ w'.length<2*free T+w0.length):=by
 obtain⟨hkl,hr,a1,a2,a3,a4,a5,a6⟩:=going_at hok h hk;have hT:Tab cs T w:=⟨h.tab.len,h.tab.rch,h.tab.sane,fun j hj=>h.tab.work j (hw' j hj),by have:=h.tab.room;omega⟩
 have hex:=fun hneed=>exits_right hok hkl a1 a3 ⟨a5,a6⟩ hneed
 refine⟨fun hn hg=>?_,fun hn hc=>?_,fun T' w' hn hc=>?_⟩
 .have:=(hg k _ hr).2.2.2.1;rw[hn]at this
  cases this
 .exact comes_bad hT (fun e he=>⟨Reach.step hr hkl hn he,hex hn e he⟩) hc
 .have hN:=comes_some hT (fun e he=>⟨Reach.step hr hkl hn he,(hex hn e he).1,(hex hn e he).2.1⟩) hc;refine⟨⟨hN.tab,h.pos,?_,fun j hj=>?_⟩,by have:=hN.less;omega⟩
  .rw[hN.grows 0 (by rw[h.one];decide),h.one]
  .have hkp:(tg T k).p≠0:=by omega
   rcases hN.news j hj with h1|h1
   .rcases h.done j h1 with h2|h2
    .rcases hw j h2 with rfl|h3
     .refine Or.inr ?_;unfold Done;rw[hN.grows j hkp];exact⟨hn,fun e he=>⟨(hN.told e he).1,(hN.told e he).2.2⟩⟩
     .exact Or.inl (hN.olds j h3)
    .exact Or.inr (h2.grows hok h.tab h1 hN.grows)
   .exact Or.inl h1
structure WholeV (cs:List In) (T:List Sq):Prop where
 len:T.length=cs.length
 sane:∀s∈T,SaneS s
 good:GoodV cs
 rch:∀k s,s.p≠0->(tg T k=s↔Reach cs k s)
theorem going_end (hok:∀i∈cs,i.ok=true) {T:List Sq}(h:Going cs T []):WholeV cs T:=by
 have hd:∀k,(tg T k).p≠0->Done cs T k:=fun k hk=>(h.done k hk).resolve_left yq
 exact⟨h.tab.len,h.tab.sane,good_of_done hok h.tab h.pos h.one hd,fun k s hs=>⟨fun e=>by rw[<-e];exact h.tab.rch k (by rw[e];exact hs),fun hr=>(all_done hok h.pos h.one hd k s hr).1⟩⟩
open Classical in
noncomputable def validZ (cs:List In):Bool:=codeOkZ cs && decide (GoodV cs)
open Classical in
theorem valid_bad (h:codeOkZ cs=false\/ ¬ GoodV cs):validZ cs=false:=by
 unfold validZ;rcases h with h|h
 .rw[h];rfl
 .rw[decide_eq_false h,Bool.and_false]
open Classical in
theorem valid_good (h:codeOkZ cs=true) (h':GoodV cs):validZ cs=true:=by
 unfold validZ;rw[h,decide_eq_true h'];rfl
end
end Go.Proofs.YtbbffkiobmbkfaaGreatDoor
