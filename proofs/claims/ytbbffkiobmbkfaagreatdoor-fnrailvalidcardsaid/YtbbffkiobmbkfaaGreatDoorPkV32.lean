import Derived.Test.YtbbffkiobmbkfaaGreatDoorPkV31
import Derived.Conc.LoneCalls
open Go.Proofs.Tryz
open Go.Value Go.IntKind
set_option maxHeartbeats 4000000
set_option maxRecDepth 100000
namespace Go.Proofs.YtbbffkiobmbkfaaGreatDoor
open Go.RowKit
variable {ops:Array Oper}{tm:Bool}{c:Code}{bs:List Int}{rest:List Nat}{B cap i id r s:Nat}{o:Oper}{v z:Value}{W w':World}
section
open Go.RowKit
theorem numsZ_range (op:Int):∃m:Nat,numsZ op=(m:Int)/\m<=3:=by
 have h0:0<=numsZ op/\numsZ op<=3:=by
  unfold numsZ;repeat' split
  all_goals omega
 exact⟨(numsZ op).toNat,ya,ya⟩
theorem numbers_calls (op a b c:Int) (m:Nat) (w:World) (hm:numsZ op=(m:Int)) (h3:m<=3) :
 Calls prog 29 #[.agg #[int i64 op,int i64 a,int i64 b,int i64 c]] w fun e w'=> e=.returned (.slice (some ⟨w.heap.size+1,0,none⟩) m 3)/\w'.heap[w.heap.size+1]?=some (.cells #[int i64 a,int i64 b,int i64 c] 3)/\Below w.heap.size w w':= by
 have HI:O (∀w,_):=fun w=>insNumbers_calls op w
 rw[hm]at HI;clear hm;have h3':(m:Int)<=3:=ya;have h0':(0:Int)<=(m:Int):=ya;go_enter func29,ntmps29
 go_wp2_with fail
 go_region_held3 (fun w'=> w'.cell? ⟨w.heap.size,0,none⟩=some (int i64 op)/\w'.cell? ⟨w.heap.size,1,none⟩=some (int i64 a)/\w'.cell? ⟨w.heap.size,2,none⟩=some (int i64 b)/\w'.cell? ⟨w.heap.size,3,none⟩=some (int i64 c)) (go_keep) (first|(go_at_call 75;refine(HI.o _).mono ?_;rintro e w1 ⟨rfl,rfl⟩))
 all_goals
  go_wp2_with fail
  go_ret;refine⟨rfl,?_,?_⟩
  .have:=(Ld (w.alloc (.cells #[int i64 op,int i64 a,int i64 b,int i64 c] 53)) (.cells #[int i64 a,int i64 b,int i64 c] 3)).1;show((w.alloc (.cells #[int i64 op,int i64 a,int i64 b,int i64 c] 53)).alloc (.cells #[int i64 a,int i64 b,int i64 c] 3)).heap[w.heap.size+1]?=_;simpa using this
  .exact((Lb.alloc La _).alloc yq _).drew
def OutB (B:Nat) (w:World) (v:Value) (bs:List Int):Prop:=
 OwnsB B w v bs\/(bs=headBytes/\ ∃g,v=.slice (some ⟨g,0,none⟩) 3 3/\B<=g/\w.heap[g]?=some (.cells #[.int .u8 104,.int .u8 114,.int .u8 49] 5 (3,4)))
theorem OutB.below {w:World}(h:OutB B w v bs) (hb:Below w.heap.size w w'):OutB B w' v bs:=by
 rcases h with h|⟨rfl,g,rfl,hB,hg⟩
 .exact Or.inl (kept_owns h hb)
 .exact Or.inr ⟨rfl,g,rfl,hB,(hb.block g (z13 hg)).trans hg⟩
theorem OutB.alloc {w:World}(h:OutB B w v bs) (o:Obj):OutB B (w.alloc o) v bs:=h.below (Lb.alloc La _)
theorem OutB.mono {B':Nat}{w:World}(h:OutB B w v bs) (hB:B'<=B):OutB B' w v bs:=by
 rcases h with h|⟨rfl,g,rfl,hg,r⟩
 .exact Or.inl (h.mono hB)
 .exact Or.inr ⟨rfl,g,rfl,Lf hB hg,r⟩
theorem OutB.lt {w:World}(h:OutB B w v bs):∀k,v.ownBlock=some k->B<=k:=by
 rcases h with h|⟨rfl,g,rfl,hB,hg⟩
 .exact fun k hk=>(World.ownsRow.lt h k hk).1
 .intro k hk;simp[Value.ownBlock]at hk;omega
theorem OutB.ne {b:Nat}{w:World}{c:Array Value}{t:TypeId}(h:OutB B w v bs) (hb:w.heap[b]?=some (.cells c t)) (hne:5≠t):some b≠v.ownBlock:=by
 rcases h with h|⟨rfl,g,rfl,hB,hg⟩
 .exact owns_ne h hb hne
 .intro hv;simp[Value.ownBlock]at hv;subst hv;rw[hb]at hg;simp at hg
theorem wpList_append_out {w:World}{rest:List Oper}{a:Act}{Q:Exit->Act->World->Prop}(hgd:o.guard=none) (s x:Operand)
 (ho:o.op=.call { callee:=.builtin .append,args:= #[s,x],argTypes:= #[22,22] })
 (B:Nat) (v:Value) (bs:List Int) (hs:a.eval s=v) (hown:OutB B w v bs)
 (ad:Addr) (m c:Nat) (ns:List Int) (news:List Value) (hm:0<m) (hx:a.eval x=.slice (some ad) m c) (hl:m=ns.length) (he:news=ns.map (fun b=> .int .u8 b)) (hnews:∀j u,news[j]?=some u->w.cell? (ad.add j)=some u)
 (hlen:bs.length+m<=100000) (hbase:B<=w.heap.size)
 (h:∀v' w',OwnsB B w' v' (bs++ns)->w.grownBy w' v.ownBlock->wpList prog ops Q rest (a.put o.dst v') w'):wpList prog ops Q (o::rest) a w:=by
 subst he hl;obtain⟨i0,hi,hz0,hz1,hz2⟩:=info_parts info_byte;have h1:∀u∈ns.map (fun b=>Value.int .u8 b),u.oneCell'= true:=fun u hu=>by
  obtain⟨b,_,rfl⟩:=List.mem_map.1 hu;rfl
 rcases hown with hown|⟨rfl,g,rfl,hB,hg⟩
 ·exact wpList_append_own w hgd s x 22 ho B 5 i0 (.int .u8 0) 1 1 underlying22 hi hz0 hz1 hz2 rfl yk v bs.length _ hs hown ad ns.length c _ hx yq hnews h1 zz ya hbase
   (fun v' w' h2 h3 _=>h v' w' (OwnsB.more h2 rfl rfl) h3)
 ·refine wpList_append_grows w hgd s x 22 ho 5 i0 (.int .u8 0) 1 1 underlying22 hi hz0 hz1 hz2 rfl yk (some ⟨g,0,none⟩) 3 3 (headBytes.map (fun b=> .int .u8 b)) hs (fun e=>yci) rfl
   (fun b hb j u hj=>?_) ad ns.length c _ hx yq hnews h1 ya zz ya (fun v' w' h2 h3=>h v' w' ?_ ?_)
  .cases hb;rw[Addr.add_lit,Nat.zero_add];simp only[World.cell?,hg];match j,hj with
   |0,hj=>exact hj
   |1,hj=>exact hj
   |2,hj=>exact hj
   |j+3,hj=>simp[headBytes]at hj
  .have:OwnsB w.heap.size w' v' (headBytes++ns):=OwnsB.more (bs:=headBytes) h2 rfl rfl;exact this.mono hbase
  .exact⟨h3.os,h3.tape,h3.output,h3.size,fun k hk _=>h3.block k hk yq⟩
theorem appendIns_calls (B g m:Nat) (v:Value) (op x y z:Int) (bs:List Int) (w:World) (hown:OutB B w v bs) (hB:B<=w.heap.size) (hg:w.heap[g]?=some (.cells #[int i64 x,int i64 y,int i64 z] 3)) (h3:m<=3) (hl:bs.length<=20000) :
 Calls prog 28 #[v,int i64 op,.slice (some ⟨g,0,none⟩) m 3] w fun e w'=> (∃v',e=.returned v'/\OwnsB B w' v' (bs++([op % 256]++([x,y,z].take m).flatMap four)))/\Below B w w':= by
 have Hlb:O (bs.length<=20000):=hl;clear hl;obtain⟨i0,hi,hz0,hz1,hz2⟩:=info_parts info_byte;have hltg:=z13 hg;have Hg:O (w.heap[g]?=some (.cells #[int i64 x,int i64 y,int i64 z] 3)):=hg;clear hg;go_enter func28,ntmps28
 go_wp2_with (first
  | (at_builtin;refine wpList_append_out rfl _ _ rfl B _ bs rfl (hown.alloc _) ⟨w.heap.size,0,none⟩ 1 1 [op % 256] [.int .u8 (op % 256)] yk rfl rfl rfl (cell_oneC _ _ rfl _ _) (by have:=Hlb.o;omega) jd ?_
     intro v' w3 hown3 hgrow3;have hg3:w3.heap[g]?=some (.cells #[int i64 x,int i64 y,int i64 z] 3):=by
      have e1:(w.alloc (.cells #[.int .u8 (op % 256)] 5)).heap[g]?=some (.cells #[int i64 x,int i64 y,int i64 z] 3):=by
       rw[Below.heap_alloc _ _ _ hltg];exact Hg.o
      rw[hgrow3.block g jd ((hown.alloc _).ne e1 yk)];exact e1
     have hbw3:Below B w w3:=Below.grown ((Below.refl B w).alloc hB _) hgrow3 jd (fun j hj=>hown.lt _ hj);clear hgrow3 hown Hg))
 go_loopw [0,17] (fun o j wi=> ∃q:Nat,j=int i64 q/\q<=m/\OwnsB B wi o ((bs++ [op % 256])++([x,y,z].take q).flatMap four)/\wi.heap[g]?=some (.cells #[int i64 x,int i64 y,int i64 z] 3)/\Below B w wi) (fun _ j _=>m-(intOf j).toNat)
 case atStart=>exact⟨0,rfl,Li _,by simpa using hown3,hg3,hbw3⟩
 case round=>
  obtain⟨q,rfl,hqm,hownq,h7q,hnxq⟩:=hrel;clear hown3 hg3 hbw3;have hlt7:=z13 h7q;have hszq:=hnxq.size;by_cases hq:(q:Int)<(m:Int)
  .have hq3:q<3:=by omega
   have r7:=z11 h7q q;have HT:O (([x,y,z].take (q+1)).flatMap four=([x,y,z].take q).flatMap four++four ([x,y,z].getD q 0)):=by
    show _=_;rw[List.take_succ_eq_append_getElem (by simpa using hq3),List.flatMap_append];simp[List.getD,hq3]
   rw[show(#[int i64 x,int i64 y,int i64 z]:Array Value)[q]?=some (int i64 ([x,y,z].getD q 0)) by
    match q,hq3 with
    |0,_=>rfl
    |1,_=>rfl
    |2,_=>rfl]at r7
   have HLQ:O (((bs++ [op % 256])++([x,y,z].take q).flatMap four).length<=20020):=by
    show _<=_;have:=Hlb.o;simp only[Lk,flat_length,List.length_take,Ll,Lm];omega
   generalize [x,y,z].getD q 0=nq at*;obtain⟨cur,hcur⟩:∃cur,(bs++ [op % 256])++([x,y,z].take q).flatMap four=cur:=⟨_,rfl⟩
   have Hcur:O ((bs++ [op % 256])++([x,y,z].take q).flatMap four=cur):=hcur;rw[hcur]at hownq HLQ;clear hcur;have hN:[Value.int .u8 (nq % 4294967296/16777216),.int .u8 (nq % 4294967296/65536 % 256),.int .u8 (nq % 4294967296/256 % 256),.int .u8 (nq % 256)]=(four nq).map (fun b=> .int .u8 b):=by
    rw[show nq % 4294967296/16777216=nq/16777216 % 256 by omega,show nq % 4294967296/65536 % 256=nq/65536 % 256 by omega,show nq % 4294967296/256 % 256=nq/256 % 256 by omega];rfl
   have HNE:O _:=hN;clear hN;go_wp2_with (first
    | (at_builtin;refine wpList_append_own _ rfl _ _ 22 rfl B 5 i0 (.int .u8 0) 1 1 underlying22 hi hz0 hz1 hz2 rfl yk _ _ _ rfl (hownq.alloc _) ⟨wr.heap.size,0,none⟩ 4 4 [.int .u8 (nq % 4294967296/16777216),.int .u8 (nq % 4294967296/65536 % 256),.int .u8 (nq % 4294967296/256 % 256),.int .u8 (nq % 256)] rfl rfl (cell_four_new _ _ rfl _ _ _ _ _) (fun u hu=>ycg) (by have:=HLQ.o;unfold maxLen;omega) (by have:=HLQ.o;omega) jd ?_
       intro v7 w7 hown7' hgrow7 hnil7;have k7:w7.heap[g]?=some (.cells #[int i64 x,int i64 y,int i64 z] 3):=by
        have e1:(wr.alloc (.cells #[.int .u8 (nq % 4294967296/16777216),.int .u8 (nq % 4294967296/65536 % 256),.int .u8 (nq % 4294967296/256 % 256),.int .u8 (nq % 256)] 5)).heap[g]?=some (.cells #[int i64 x,int i64 y,int i64 z] 3):=by
         rw[Below.heap_alloc _ _ _ hlt7];exact h7q
        rw[hgrow7.block g jd (owns_ne (hownq.alloc _) e1 yk)];exact e1
       have hbw7:Below B w w7:=Below.grown (hnxq.alloc ya _) hgrow7 jd (fun j hj=>by have:=(hownq.lt _ hj).1;omega);have hown7:OwnsB B w7 v7 (cur++four nq):=OwnsB.more hown7' HNE.o rfl;have K7:O _:=k7;clear hgrow7 hnil7 hown7' hownq hnxq k7 h7q))
   have hs:m-(intOf (int i64 ((q+1:Nat):Int))).toNat<m-(intOf (int i64 (q:Int))).toNat:=yu;try rw[wrap_one (k:=q) (len:=m) ya ya]
   refine⟨⟨q+1,rfl,ya,?_,K7.o,hbw7⟩,hs⟩;rw[HT.o,<-Lo,Hcur.o];exact hown7
  .have hqm':q=m:=by omega
   subst hqm';have HX:O (OwnsB B wr u0 (bs++([op % 256]++([x,y,z].take q).flatMap four))):=by
    show OwnsB _ _ _ _;rw[<-Lo];exact hownq
   clear hownq h7q;go_wp2_with fail
   go_ret;exact⟨⟨_,rfl,HX.o⟩,hnxq⟩
theorem implBytes_calls (b off cap:Nat) (cs:List In) (w:World) (hb:b<w.heap.size) (hn:InsAt w b off cs) :
 Calls prog 10 #[.slice (some ⟨b,off,none⟩) cs.length cap] w fun e w'=> (∃v,e=.returned (.tuple #[v,.bool (codeOkZ cs)])/\OutB w.heap.size w' v (if codeOkZ cs then codeBytesZ cs else []))/\Below w.heap.size w w':= by
 have HL:O (Calls _ _ _ _ _):=listOk_calls b off cap cs w hb hn;obtain⟨len,hlen⟩:∃len,cs.length=len:=⟨_,rfl⟩
 have Hlen:O (cs.length=len):=hlen;have HN:O (InsAt w b off cs):=hn;clear hn
 cases hok:codeOkZ cs with
 | false=>
   rw[hlen,hok]at HL;rw[hlen,if_neg yq];go_enter func10,ntmps10
   go_wp2_with fail
   refine HL.o.mono ?_;rintro e w1 ⟨rfl,hb1⟩;go_wp2_with fail
   go_ret2
   exact⟨⟨.slice none 0 0,rfl,Or.inl (World.ownsRow_nil _ _ _ _)⟩,hb1⟩
 | true=>
   rw[hlen,hok]at HL;rw[hlen,if_pos rfl];have HM:O (len<=1500/\cs.all In.ok=true):=by
    unfold codeOkZ at hok;rw[Lq]at hok;exact⟨by have:=of_decide_eq_true hok.1;omega,hok.2⟩
   obtain⟨ansR,hansR⟩:∃ansR,codeBytesZ cs=ansR:=⟨_,rfl⟩
   have HAN:O (codeBytesZ cs=ansR):=hansR;rw[hansR];clear hlen hok hansR;go_enter func10,ntmps10
   go_wp2_with fail
   refine HL.o.mono ?_;rintro e w1 ⟨rfl,hb1⟩;have hsz1:=hb1.size;clear HL;have hcv:=Joins.run_convert_bytes_const_at (P:=prog) w1 22 5 #[.int .u8 104,.int .u8 114,.int .u8 49] 3 3 w1.heap.size rfl underlying22 underlying5;go_wp2_with fail
   clear hcv;go_loopw [4,14] (fun o i wr=> ∃k:Nat,i=int i64 k/\k<=len/\OutB w1.heap.size wr o (codeBytesZ (cs.take k))/\Below w1.heap.size w1 wr) (fun _ i _=>len-(intOf i).toNat)
   case atStart=>exact⟨0,rfl,Li _,Or.inr ⟨by simp[codeBytesZ],_,rfl,La,(Ld w1 _).1⟩,Lb.alloc La _⟩
   case round=>
    obtain⟨k,rfl,hk,hown,hnx⟩:=hrel;have hszr:=hnx.size;by_cases hkl:(k:Int)<(len:Int)
    .have hkn:k<cs.length:=by rw[Hlen.o];omega
     have hcell:=fun c (hc:c<4)=>((hnx.cell (p:=⟨b,off+k*4+c,none⟩) (Le hb hsz1)).trans (hb1.cell (p:=⟨b,off+k*4+c,none⟩) hb)).trans (HN.o k hkn c hc)
     have HD:O (cs.take (k+1)=cs.take k++ [cs.getD k default]):=ins_drop hkn;have hok:In.ok (cs.getD k default)=true:=by
      have h1:=List.all_eq_true.1 HM.o.2 (cs.getD k default) (by simp[List.getD,Lr hkn]);exact h1
     generalize cs.getD k default=n at hcell HD hok;obtain⟨op,x,y,z⟩:=n;have c0:=hcell 0 ya;have c1:=hcell 1 ya;have c2:=hcell 2 ya;have c3:=hcell 3 ya;simp only[In.cell,Nat.add_zero]at c0 c1 c2 c3;clear hcell hkn;have hlb:(codeBytesZ (cs.take k)).length<=20000:=by
      have h1:=code_length (cs.take k);have h2:(cs.take k).length<=k:=jd;have:=HM.o.1;unfold codeBytesZ headBytes;simp only[Lk,Ll,Lm];omega
     have HB:O (codeBytesZ (cs.take (k+1))=codeBytesZ (cs.take k)++In.bytes ⟨op,x,y,z⟩):=by
      show _=_;rw[HD.o];simp[codeBytesZ]
     obtain⟨mm,hmm,hm3⟩:=numsZ_range op;have HBy:O (In.bytes ⟨op,x,y,z⟩= [op % 256]++([x,y,z].take mm).flatMap four):=by
      show _=_;have h0:¬ manyZ op<0:=fun h=>by
       simp only[In.ok]at hok;unfold insOkZ at hok;rw[if_pos (Or.inl h)]at hok
       cases hok
      have h1:manyZ op=(mm:Int):=by
       rw[<-hmm,numsZ_many,if_neg h0]
      simp only[In.bytes,In.nums,h1,Lp];rfl
     have HMM:O (numsZ op=(mm:Int)):=hmm;have Hlb:O ((codeBytesZ (cs.take k)).length<=20000):=hlb;clear hlb HD hok hmm;generalize codeBytesZ (cs.take k)=bs at*;go_wp2_with fail
     clear c0 c1 c2 c3;have hownA:=hown.alloc (.cells #[int i64 op,int i64 x,int i64 y,int i64 z] 53);have h6:=(Ld wr (.cells #[int i64 op,int i64 x,int i64 y,int i64 z] 53)).1;have hnxA:=hnx.alloc hszr (.cells #[int i64 op,int i64 x,int i64 y,int i64 z] 53);have hszA:w1.heap.size<=(wr.alloc (.cells #[int i64 op,int i64 x,int i64 y,int i64 z] 53)).heap.size:=hnxA.size;have hlt6:wr.heap.size<(wr.alloc (.cells #[int i64 op,int i64 x,int i64 y,int i64 z] 53)).heap.size:=yq;generalize wr.alloc (.cells #[int i64 op,int i64 x,int i64 y,int i64 z] 53)=WA at*;have q0:=z11 h6 0;have q1:=z11 h6 1
     have q2:=z11 h6 2;have q3:=z11 h6 3;simp at q0 q1 q2 q3;generalize wr.heap.size=B6 at*;clear h6 hown hnx;go_region_with (first
      |(go_at_call 29;refine(numbers_calls op x y z mm _ HMM.o hm3).mono ?_;rintro e W2 ⟨rfl,hg2,hb2⟩;have q0':= (hb2.cell (p:=⟨B6,0,none⟩) hlt6).trans q0)
      |(go_at_call 28;refine(appendIns_calls w1.heap.size _ mm _ op x y z bs _ (OutB.below (w:=WA.drew) hownA hb2) (Lf hszA hb2.size) hg2 hm3 Hlb.o).mono ?_;rintro e W3 ⟨⟨v3,rfl,hown3⟩,hb3⟩))
     all_goals
      have hX:OutB w1.heap.size W3 v3 (codeBytesZ (cs.take (k+1))):=by
       rw[HB.o,HBy.o];exact Or.inl hown3
      have hY:Below w1.heap.size w1 W3:=hnxA.drew.trans ((hb2.mono hszA).trans hb3);clear hown3 hb3 hb2 hg2;have HX:O _:=hX;clear hX;go_wp2_with fail
      have hs:len-(intOf (int i64 ((k+1:Nat):Int))).toNat<len-(intOf (int i64 (k:Int))).toNat:=yu;try rw[wrap_one (k:=k) (len:=len) ya (by have:=HM.o.1;omega)]
      exact⟨⟨k+1,rfl,ya,HX.o,hY⟩,hs⟩
    .have e1:cs.take k=cs:=List.take_of_length_le jt;rw[e1,HAN.o]at hown;clear e1;go_wp2_with fail
     go_ret2
     exact⟨⟨u4,rfl,hown.mono hsz1⟩,hb1.trans (hnx.mono hsz1)⟩
def Fits4 (n:Int):Prop:= -2147483648<=n/\n<=2147483647
theorem num_four (n:Int) (h:Fits4 n) (r:List Int):numAt (four n++r) 0=n:=by
 unfold Fits4 at h;show num4 (n/16777216 % 256) (n/65536 % 256) (n/256 % 256) (n % 256)=n;unfold num4 wrap32;omega
theorem ok_of {i:In}(h:In.ok i=true):IsB i.op/\Fits4 i.a/\Fits4 i.b/\Fits4 i.c/\(insMany i.op<1->i.a=0)/\(insMany i.op<2->i.b=0)/\(insMany i.op<3->i.c=0):=by
 obtain⟨op,a,b,c⟩:=i;dsimp only;unfold In.ok insOkZ at h;dsimp only at h;rw[<-many_eq];split at h
 .cases h
 rename_i hm;simp only[not_or,not_and,Decidable.not_not]at hm;obtain⟨h0,h1,h2,h3⟩:=hm;have hop:IsB op:=by
  unfold IsB;unfold manyZ at h0;split at h0
  .omega
  split at h0
  .omega
  split at h0
  .omega
  split at h0<;>omega
 have ha:(manyZ op).toNat<1->a=0:=fun x=>h1 ya
 have hb:(manyZ op).toNat<2->b=0:=fun x=>h2 ya
 have hc:(manyZ op).toNat<3->c=0:=fun x=>h3 ya
 refine⟨hop,?_,?_,?_,ha,hb,hc⟩;all_goals
  unfold Fits4;split at h
  .rename_i e;subst e;have m1:manyZ 1=1:=yk;rw[m1]at hb hc;have:=of_decide_eq_true h;have:=hb yk;have:=hc yk;omega
  split at h
  .rename_i e;subst e;have m1:manyZ 2=1:=yk;rw[m1]at hb hc;have:=of_decide_eq_true h;have:=hb yk;have:=hc yk;omega
  split at h
  .rename_i e;subst e;have m1:manyZ 14=1:=yk;rw[m1]at hb hc;have:=of_decide_eq_true h;have:=hb yk;have:=hc yk;omega
  split at h
  .cases h
  have:=of_decide_eq_true h;omega
theorem ins_back {i:In}(h:In.ok i=true) (r:List Int):i.bytes=i.op::i.nums.flatMap four/\(i.nums.flatMap four).length=4*insMany i.op/\insOf i.op (i.nums.flatMap four++r)=i:=by
 obtain⟨ho,ha,hb,hc,za,zb,zc⟩:=ok_of h;have hm:=insMany_le i.op;obtain⟨op,a,b,c⟩:=i;dsimp only at ho ha hb hc za zb zc hm;have e0:op % 256=op:=by unfold IsB at ho;omega
 simp only[In.bytes,In.nums,insOf,many_eq,e0];have n4 (x:List Int):numAt x 4=numAt (x.drop 4) 0:=by rw[numAt_drop]
 have n8 (x:List Int):numAt x 8=numAt ((x.drop 4).drop 4) 0:=by rw[numAt_drop,numAt_drop]
 have d4 (n:Int) (x:List Int):(four n++x).drop 4=x:=rfl;generalize insMany op=m at*;match m,hm with
 | 0,_=>
   rw[za ya,zb ya,zc ya];exact⟨trivial,rfl,rfl⟩
 | 1,_=>
   rw[zb ya,zc ya,show List.flatMap four (List.take 1 [a,0,0])=four a++ [] from rfl,if_pos ya,if_neg ya,if_neg ya,List.append_nil,num_four a ha];exact⟨trivial,rfl,rfl⟩
 | 2,_=>
   rw[zc ya,show List.flatMap four (List.take 2 [a,b,0])=four a++(four b++ []) from rfl,if_pos ya,if_pos ya,if_neg ya,List.append_nil,Lo,num_four a ha,n4,d4,num_four b hb];exact⟨trivial,rfl,rfl⟩
 | 3,_=>
   rw[show List.flatMap four (List.take 3 [a,b,c])=four a++(four b++(four c++ [])) from rfl,if_pos ya,if_pos ya,if_pos ya,List.append_nil,Lo,Lo,num_four a ha,n4,n8,d4,d4,num_four b hb,num_four c hc];exact⟨trivial,rfl,rfl⟩
theorem parse_bytes:∀cs:List In,cs.all In.ok=true->parse (cs.flatMap In.bytes)=some cs
 |[],_=>rfl
 | i::r,h=>by
   rw[List.all_cons,Lq]at h;obtain⟨e1,e2,e3⟩:=ins_back h.1 (r.flatMap In.bytes);rw[List.flatMap_cons,e1,Ln,parse_cons,if_pos (by rw[Lk];omega),e3,List.drop_append_of_le_length ya,List.drop_eq_nil_of_le ya,List.nil_append,parse_bytes r h.2];rfl
theorem read_back {c:List In}(h:codeOkZ c=true):readZ (codeBytesZ c)=some c:=by
 have h':= h;unfold codeOkZ at h';rw[Lq]at h';have hl:=code_length c;have h1:=of_decide_eq_true h'.1;unfold readZ;have e:codeBytesZ c=headBytes++c.flatMap In.bytes:=rfl;rw[if_neg (by
  rw[not_or,Decidable.not_not,e];refine⟨?_,rfl⟩;rw[Lk,show headBytes.length=3 from rfl];omega),show(codeBytesZ c).drop 3=c.flatMap In.bytes from rfl,parse_bytes c h'.2]
 simp only;rw[if_pos h]
def RawB (W:World) (v:Value) (bs:List Int):Prop:=
 ∃ad cap,v=.slice ad bs.length cap/\bs.length<=cap/\(bs= []\/ ∃g off,ad=some ⟨g,off,none⟩/\g<W.heap.size/\BytesIs W g off bs)
theorem raw_of_owns (h:OwnsB B W v bs):RawB W v bs:=by
 have h':= h;obtain⟨-,⟨rfl,h0⟩|⟨g,cap,cur,rfl,hB,hc,hl,-⟩⟩:=h
 .refine⟨none,0,qe,ya,Or.inl (Lu h0)⟩
 .refine⟨_,cap,rfl,hl,Or.inr ⟨g,0,rfl,z13 hc,fun k hk=>?_⟩⟩;rw[Nat.zero_add,World.ownsRow.cellAt h' k ya];simp[List.getD,hk]
theorem raw_of_out (h:OutB B W v bs):RawB W v bs:=by
 rcases h with h|⟨rfl,g,rfl,hB,hg⟩
 .exact raw_of_owns h
 ·refine⟨_,3,rfl,yk,Or.inr ⟨g,0,rfl,z13 hg,fun k hk=>?_⟩⟩;have hk':k=0\/k=1\/k=2:=by
   have:headBytes.length=3:=rfl;omega
  rcases hk' with rfl|rfl|rfl<;>simp[World.cell?,hg,headBytes,List.getD]
theorem read_empty:readZ []=none:=by
 unfold readZ;rw[if_pos (Or.inr yk)]
theorem hasNone_calls (ad a':Option Addr) (cap cap':Nat) (w:World) :
 Calls prog 76 #[.slice ad 0 cap,.slice a' 3 cap'] w fun e w'=> e=.returned (.bool false)/\w=w':= by
 go_enter func76,ntmps76
 go_wp2_with fail
 go_ret;exact⟨rfl,rfl⟩
theorem cutNone_calls (ad a':Option Addr) (cap cap':Nat) (w:World) :
 Calls prog 30 #[.slice ad 0 cap,.slice a' 3 cap'] w fun e w'=> e=.returned (.tuple #[.slice ad 0 cap,.bool false])/\Below w.heap.size w w':= by
 go_enter func30,ntmps30
 go_wp2_with fail
 refine(hasNone_calls ad a' cap cap' _).mono ?_;rintro e w1 ⟨rfl,rfl⟩;go_wp2_with fail
 go_ret2
 exact⟨rfl,Lb⟩
theorem implRead_none (ad:Option Addr) (cap:Nat) (w:World) :
 Calls prog 11 #[.slice ad 0 cap] w fun e w'=> (∃v,e=.returned (.tuple #[v,.bool false])/\OwnsI w.heap.size w' v [])/\Below w.heap.size w w':= by
 refine zb70 ?_;intro hcv;gi_wp2_with fail
 obtain⟨W3,hW3,k2,k3,k4,hb3⟩:=three_new w (.cells #[.slice none 0 0] 28) (.cells #[.bool false] 4) (.cells #[.int .u8 104,.int .u8 114,.int .u8 49] 5 (3,4));rw[hW3];clear hW3 hcv k4;refine⟨trivial,rfl,(callsIn_wide.2 (cutNone_calls ad _ cap 3 W3)).mono ?_⟩;rintro e W4 ⟨rfl,hb4⟩;have j2:=(hb4.block _ (z13 k2)).trans k2;have j3:=(hb4.block _ (z13 k3)).trans k3;have hbw:=hb3.trans (hb4.mono hb3.size);clear k2 k3 hb3 hb4;have c2:=z11 j2 0;have c3:=z11 j3 0;have z2:=z15 j2 0;have z3:=z15 j3 0;simp at c2 c3;have HJ2:=U j2;have HJ3:=U j3;have HBw:=U hbw;clear j2 j3 hbw;gi_wp2_with fail
 obtain⟨s2,s3,sb⟩:=set_two HJ2.o HJ3.o HBw.o (.slice none 0 0) (.bool false);exact none_told rfl rfl s2 s3 sb
theorem implRead_any (h:RawB W v bs) (hB:∀x∈bs,IsB x) :
 Calls prog 11 #[v] W fun e w'=> (∃v',e=.returned (.tuple #[v',.bool (readZ bs).isSome])/\OwnsI W.heap.size w' v' ((readZ bs).getD []))/\Below W.heap.size W w':= by
 obtain⟨ad,cap,rfl,hc,h⟩:=h;rcases h with rfl|⟨g,off,rfl,hg,hn⟩
 .rw[read_empty];exact implRead_none ad cap W
 .exact implRead_cap g off cap bs W hc hg hn hB
theorem implBytes_none (ad:Option Addr) (cap:Nat) (w:World) :
 Calls prog 10 #[.slice ad 0 cap] w fun e w'=> (∃v,e=.returned (.tuple #[v,.bool true])/\OutB w.heap.size w' v headBytes)/\Below w.heap.size w w':= by
 have HLn:=U (listNone_calls ad cap w);go_enter func10,ntmps10
 go_wp2_with fail
 refine HLn.o.mono ?_;rintro e w1 ⟨rfl,hb1⟩;have hcv:=Joins.run_convert_bytes_const_at (P:=prog) w1 22 5 #[.int .u8 104,.int .u8 114,.int .u8 49] 3 3 w1.heap.size rfl underlying22 underlying5;go_wp2_with fail
 refine wp_loop_rounds 1 ?_;rw[rounds_succ];go_wp2
 go_ret2
 exact⟨⟨_,rfl,Or.inr ⟨rfl,_,rfl,hb1.size,(Ld w1 _).1⟩⟩,hb1.alloc hb1.size _⟩
theorem implBytes_any {cs:List In}(w:World) (h:InsSlice w v cs) :
 Calls prog 10 #[v] w fun e w'=> (∃v',e=.returned (.tuple #[v',.bool (codeOkZ cs)])/\OutB w.heap.size w' v' (if codeOkZ cs then codeBytesZ cs else []))/\Below w.heap.size w w':= by
 obtain⟨ad,cap,rfl,h⟩:=h;by_cases h0:cs= []
 .subst h0;exact implBytes_none ad cap w
 .obtain⟨g,o,rfl,hb,hr⟩:=h.resolve_left h0;exact implBytes_calls g o cap cs w hb hr
theorem hrCode_none (ad ad':Option Addr) (cap cap':Nat) (w:World) :
 Calls prog 7 #[.slice ad 0 cap,.slice ad' 0 cap'] w fun e w'=> e=.returned (.bool true)/\Below w.heap.size w w':= by
 go_enter func7,ntmps7
 go_wp2_with fail
 refine wp_loop_rounds 1 ?_;rw[rounds_succ];go_wp2_with fail
 go_ret;exact⟨rfl,Lb⟩
theorem hrCode_rows (b off b' off' cap cap':Nat) (cs:List In) (w:World) (hn:InsAt w b off cs) (hn':InsAt w b' off' cs) (hm:cs.length<=1048576) :
 Calls prog 7 #[.slice (some ⟨b,off,none⟩) cs.length cap,.slice (some ⟨b',off',none⟩) cs.length cap'] w fun e w'=> e=.returned (.bool true)/\Below w.heap.size w w':= by
 obtain⟨len,hlen⟩:∃len,cs.length=len:=⟨_,rfl⟩
 have HM:O (len<=1048576):=yp;have HN:=U (Lc hn (Lc hn' hlen));rw[hlen];clear hm hn hn' hlen;go_enter func7,ntmps7
 go_wp2_with fail
 go_loopw [5] (fun i wr=> ∃k:Nat,k<=len/\i=int i64 k/\Below w.heap.size w wr/\ ∀a,wr.cell? a=w.cell? a) (fun i _=>len-(intOf i).toNat)
 case atStart=>exact⟨0,Li _,rfl,Lb,fun _=>rfl⟩
 case round=>
  obtain⟨k,hk,rfl,hnx,hce⟩:=hrel;by_cases hkl:(k:Int)<(len:Int)
  .have hkc:k<cs.length:=by rw[HN.o.2.2];omega
   have c0:=(hce _).trans (HN.o.1 k hkc 0 ya);have c1:=(hce _).trans (HN.o.1 k hkc 1 ya);have c2:=(hce _).trans (HN.o.1 k hkc 2 ya);have c3:=(hce _).trans (HN.o.1 k hkc 3 ya);have d0:=(hce _).trans (HN.o.2.1 k hkc 0 ya);have d1:=(hce _).trans (HN.o.2.1 k hkc 1 ya);have d2:=(hce _).trans (HN.o.2.1 k hkc 2 ya);have d3:=(hce _).trans (HN.o.2.1 k hkc 3 ya);obtain⟨⟨op,x,y,z⟩,hi⟩:∃i,cs.getD k default=i:=⟨_,rfl⟩
   rw[hi]at c0 c1 c2 c3 d0 d1 d2 d3;simp only[In.cell,Nat.add_zero]at c0 c1 c2 c3 d0 d1 d2 d3;have hi0:(0:Int)<=(k:Int):=ya;have Hce:O (∀a,wr.cell? a=w.cell? a):=hce;have hs:len-(intOf (int i64 ((k+1:Nat):Int))).toNat<len-(intOf (int i64 (k:Int))).toNat:=yu;clear hce hi hkc;go_wp2_with fail
   go_region
   all_goals
    go_wp2_with fail
    try rw[wrap_inc ya HM.o]
    exact⟨⟨k+1,ya,rfl,hnx.drew,Hce.o⟩,hs⟩
  .go_wp2_with fail
   go_ret;exact⟨rfl,hnx⟩
theorem hrCode_any {v':Value}{cs:List In}(w:World) (hm:cs.length<=1048576) (h:InsSlice w v cs) (h':InsSlice w v' cs) :
 Calls prog 7 #[v,v'] w fun e w'=> e=.returned (.bool true)/\Below w.heap.size w w':= by
 obtain⟨ad,cap,rfl,h⟩:=h;obtain⟨ad',cap',rfl,h'⟩:=h';by_cases h0:cs= []
 .subst h0;exact hrCode_none ad ad' cap cap' w
 .obtain⟨g,o,rfl,-,hr⟩:=h.resolve_left h0;obtain⟨g',o',rfl,-,hr'⟩:=h'.resolve_left h0;exact hrCode_rows g o g' o' cap cap' cs w hr hr' hm
end
section
open Go.RowKit Go.Conc
def wpN (P:Program) (c:Code) (Q:Exit->Act->World->Prop) (a:Act) (w:World):Prop:=
 ∀(b:Frame),b.kind≠ .early-> ∀(k:List Item) (cs:List Frame),∃e a' w',Q e a' w'/\Arrives P (lone (b.at a (.code c::k)) cs w) b k cs e a' w'
def InR (P:Program) (ops:Array Oper) (l:List Nat) (Q:Exit->Act->World->Prop) (a:Act) (w:World):Prop:=
 ∀(b:Frame),b.kind≠ .early-> ∀(k:List Item) (cs:List Frame),∃e a' w',Q e a' w'/\Arrives P (lone (b.at a (.inRegion ops l::k)) cs w) b k cs e a' w'
section
variable {P:Program}{Q:Exit->Act->World->Prop}{a:Act}{w:World}
theorem wpN_of (h:c.wp P Q a w):wpN P c Q a w:=fun b _=>h b
theorem wpN_seq {x y:Code}(h:wpN P x (Exit.then (wpN P y Q) Q) a w):wpN P (.seq x y) Q a w:=fun b hb k cs=>by
 obtain⟨e,a1,w1,hq,ha⟩:=h b hb (.code y::k) cs
 cases e with
 | normal=>
   obtain⟨e2,a2,w2,hq2,ha2⟩:=hq b hb k cs;exact⟨e2,a2,w2,hq2,.of_steps (.head step_seq ha) ha2⟩
 |_=>exact⟨_,a1,w1,hq,.of_steps (.one step_seq) (.pass (x:=.code y) rfl (fun _ _=> .inl yq) ha)⟩
theorem wpN_seq_wp {x y:Code}(h:x.wp P (Exit.then (wpN P y Q) Q) a w):wpN P (.seq x y) Q a w:=wpN_seq (wpN_of h)
theorem wpN_block (h:wpN P c (Exit.inBlock id Q) a w):wpN P (.block id c) Q a w:=fun b hb k cs=>by
 obtain⟨e,a1,w1,hq,ha⟩:=h b hb (.inBlock id::k) cs
 cases e with
 |normal=>exact⟨.normal,a1,w1,hq,.head step_block (Steps.trans ha (.one step_inBlock))⟩
 | exit id'=>
   by_cases U:id'= id
   .simp only[Exit.inBlock,U,if_true]at hq;exact⟨.normal,a1,w1,hq,.head step_block (ha k (by simp[exitTo,U]))⟩
   .simp only[Exit.inBlock,U,if_false]at hq;refine⟨.exit id',a1,w1,hq,fun k' hk=> .head step_block (ha k' ?_)⟩;have hne:(id==id')=false:=by simp;exact fun h=>U h.symm
    simp[exitTo,hne,hk]
 |goto l=>exact⟨_,a1,w1,hq,fun k' hk=> .head step_block (ha k' (by simp[gotoIn,hk]))⟩
 |ret=>exact⟨_,a1,w1,hq,.of_steps (.one step_block) ha⟩
 |panic ch=>exact⟨_,a1,w1,hq,.of_steps (.one step_block) ha⟩
 |outgrown=>exact⟨_,a1,w1,hq,.of_steps (b:=b) (k:=k) (cs:=cs) (e:=.outgrown) (.one step_block) ha⟩
theorem wpN_loop (I:Nat->Act->World->Prop) (n:Nat) (h0:I n a w)
 (round:∀n a w,I n a w->wpN P c (Exit.then (fun a' w'=> ∃m,m<n/\I m a' w') Q) a w):wpN P (.loop c) Q a w:=fun b hb k cs=>by
 have key:∀n a w,I n a w-> ∃e a' w',Q e a' w'/\Arrives P (lone (b.at a (.code c:: .inLoop c::k)) cs w) b k cs e a' w':= by
  intro n;induction n using Nat.strongRecOn with
  | _ n ih=>
    intro a w hI;obtain⟨e,a1,w1,hq,ha⟩:=round n a w hI b hb (.inLoop c::k) cs
    cases e with
    | normal=>
      obtain⟨m,hm,hI1⟩:=hq;obtain⟨e2,a2,w2,hq2,ha2⟩:=ih m hm a1 w1 hI1;exact⟨e2,a2,w2,hq2,.of_steps (Steps.trans ha (.one step_inLoop)) ha2⟩
    |_=>exact⟨_,a1,w1,hq,.pass (x:=.inLoop c) rfl (fun _ _=> .inl yq) ha⟩
 obtain⟨e,a',w',hq,ha⟩:=key n a w h0;exact⟨e,a',w',hq,.of_steps (.one step_loop) ha⟩
theorem calls_of_wpN {f:FuncId}{fn:Func}{args:Array Value}{R:Ending->World->Prop}(hf:P.funcs[f]?=some fn) (hc:fn.body=some c)
 (h:wpN P c (bodyPost P fn R) { tmps:=args++Array.replicate (fn.ntmps-args.size) undef,defers:= [] } w):Calls P f args w R:=fun cs=>by
 have he:Frame.enter P f args .normal=({ (default:Frame) with fn:=f,kind:=.normal }).at { tmps:=args++Array.replicate (fn.ntmps-args.size) undef,defers:= [] } [.code c]:=by
  simp[Frame.enter,Frame.at,hf,hc]
 obtain⟨e,a',w',hq,ha⟩:=h { (default:Frame) with fn:=f,kind:=.normal } yq [] cs;rw[<-he]at ha
 cases e with
 | normal=>
   obtain⟨hd,v,hr,hR⟩:=hq;exact⟨.returned v,w',_,hR,Steps.trans ha (.one step_end),rfl,rfl,hd,rfl,fn,hf,hr⟩
 | ret=>
   obtain⟨hd,v,hr,hR⟩:=hq;obtain⟨todo,hs⟩:=ha;exact⟨.returned v,w',_,hR,hs,rfl,rfl,hd,rfl,fn,hf,hr⟩
 | panic chain=>
   obtain⟨hd,hR⟩:=hq;obtain⟨todo,hs⟩:=ha;exact⟨.panicked chain,w',_,hR,hs,rfl,rfl,hd,fn,hf⟩
 |exit id=>exact hq.elim
 |goto l=>exact hq.elim
 |outgrown=>exact⟨.outgrown,w',{ (default:Frame) with fn:=f,kind:=.normal },hq,ha.resolve_left yq,rfl,trivial⟩
theorem inR_of {l:List Nat}(h:wpOps P ops Q l a w):InR P ops l Q a w:=fun b _ k cs=>wp_ops l a w h b k cs
theorem wpN_region (h:InR P ops (List.range ops.size) Q a w):wpN P (.region id ops false) Q a w:=fun b hb k cs=>by
 obtain⟨e,a',w',q,r⟩:=h b hb k cs;exact⟨e,a',w',q,.of_steps (.one step_region) r⟩
theorem wpN_region_draw (h:∀t,InR P ops (Region.schedule (P.follows .mixedOrders) ops t) Q a w.drew):wpN P (.region id ops true) Q a w:=fun b hb k cs=>by
 obtain⟨e,a',w',q,r⟩:=h (w.tape w.drawn (.order b.fn id)) b hb k cs;exact⟨e,a',w',q,.of_steps (.one step_region_draw) r⟩
def AnyN (P:Program) (ops:Array Oper) (Q:Exit->Act->World->Prop) (fuel:Nat) (listed:Array Bool) (a:Act) (w:World):Prop:=
 ∀t,InR P ops (Region.linearise.go .any ops fuel t listed []) Q a w
theorem wpN_region_any (hm:P.follows .mixedOrders=true) (h:AnyN P ops Q ops.size (Array.replicate ops.size false) a w.drew):wpN P (.region id ops true) Q a w:=
 wpN_region_draw fun t=>by
  simp only[Region.schedule,hm,Bool.true_or,if_true];exact h t
theorem anyN_next {fuel:Nat}{listed:Array Bool}{rs:List Nat}(hr:Region.ready .any ops listed=rs) (hne:rs≠ [])
 (h:∀i∈rs,∀t,InR P ops (i::Region.linearise.go .any ops fuel t (listed.setIfInBounds i true) []) Q a w):AnyN P ops Q (fuel+1) listed a w:=fun t=>by
 simp only[Region.linearise.go];change InR P ops (match (Region.ready .any ops listed)[t % (Region.ready .any ops listed).length]? with
  |some i=>Region.linearise.go .any ops fuel (t/(Region.ready .any ops listed).length) (listed.setIfInBounds i true) [i]
  |none=> [].reverse) Q a w
 rw[hr]
 cases hi:rs[t % rs.length]? with
 | none=>
   have hlt:t % rs.length<rs.length:=Nat.mod_lt _ (List.length_pos_iff.2 hne);rw[List.getElem?_eq_none_iff]at hi;omega
 | some i=>
   dsimp only;rw[linearise_go_acc,List.reverse_singleton,List.singleton_append];exact h i (Lh hi) _
theorem inR_value (ho:ops[i]?=some o) (hw:Region.wanted o (yielded ops a.tmps)=true) (hr:(execOp a.eval o).run P w=.ok (.value v) w')
 (h:InR P ops rest Q (a.put o.dst v) w'):InR P ops (i::rest) Q a w:=fun b hb k cs=>by
 obtain⟨e,a',w2,q,r⟩:=h b hb k cs;refine⟨e,a',w2,q,.of_steps (.one ?_) r⟩;have hd:(ops[i]?).bind (·.dst)=o.dst:=by rw[ho];rfl
 rw[<-hd,<-Frame.finish_at];refine step_lone_go ?_;rw[stepG_op ho hw];simp[stepG.apply,hr]
theorem inR_send {c:Nat}{buf:Array Value}(ho:ops[i]?=some o) (hw:Region.wanted o (yielded ops a.tmps)=true) (hr:(execOp a.eval o).run P w=.ok (.comm #[scase c v z] true .send) w')
 (hc:w'.heap[c]?=some (.chan cap buf false s r tm)) (hroom:buf.size<cap) (h:InR P ops rest Q (a.put o.dst undef) (w'.setChan c cap (buf.push v) false (s+1) r tm)):InR P ops (i::rest) Q a w:=fun b hb k cs=>by
 refine zb89 ?_;intro e a' w2 q ar hd;have hs:=step_lone_send_room (stepG_comm (k:=k) (cs:=cs) (rest:=rest) ho hw hb hr) hc hroom;rw[Frame.finish_at,hd]at hs;exact hs
theorem inR_recv {c:Nat}{buf:Array Value}{closed:Bool}(ho:ops[i]?=some o) (hw:Region.wanted o (yielded ops a.tmps)=true) (hr:(execOp a.eval o).run P w=.ok (.comm #[rcase c z] true (.recv true)) w')
 (hc:w'.heap[c]?=some (.chan cap buf closed s r tm)) (hsome:0<buf.size) (h:InR P ops rest Q (a.put o.dst (.tuple #[buf.getD 0 undef,.bool true])) (w'.setChan c cap (buf.extract 1 buf.size) closed s (r+1) tm)):InR P ops (i::rest) Q a w:=fun b hb k cs=>by
 refine zb89 ?_;intro e a' w2 q ar hd;have hs:=step_lone_recv_buf true (stepG_comm (k:=k) (cs:=cs) (rest:=rest) ho hw hb hr) hc hsome;rw[Frame.finish_at,hd]at hs;exact hs
theorem inR_shut {c:Nat}(ho:ops[i]?=some o) (hw:Region.wanted o (yielded ops a.tmps)=true) (hr:(execOp a.eval o).run P w=.ok (.comm #[rcase c z] true (.recv true)) w')
 (hc:w'.heap[c]?=some (.chan cap #[] true s r tm)) (h:InR P ops rest Q (a.put o.dst (.tuple #[z,.bool false])) w'):InR P ops (i::rest) Q a w:=fun b hb k cs=>by
 refine zb89 ?_;intro e a' w2 q ar hd;have hs:=step_lone_recv_shut true (stepG_comm (k:=k) (cs:=cs) (rest:=rest) ho hw hb hr) hc;rw[Frame.finish_at,hd]at hs;exact hs
end
end
end Go.Proofs.YtbbffkiobmbkfaaGreatDoor
