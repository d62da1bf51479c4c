import Derived.Test.YtfbojelpdccjaaaGreatDoorPkT35
open Go.Proofs.Tryz
set_option maxHeartbeats 8000000
set_option maxRecDepth 100000
namespace Go.Proofs.YtfbojelpdccjaaaGreatDoor
open Go.RowKit Go.Deep
variable {es:List Ef}{ns:List Nd}{S:List UInt8}{B k:Nat}{n:Nd}{ad:Option Addr}{v:Value}{X w:World}
section
open Go.RowKit Go.Deep
def ReadOwn (r:Except (Int×Nat) (List Ef×Tr)) (W:World) (e:Ending) (W':World):Prop:=match r with
 |.error x=>e=.returned (.tuple #[.agg #[.slice none 0 0,.slice none 0 0],.agg #[.int .i64 x.1,.int .i64 (x.2:Int)]])/\Below W.heap.size W W'
 |.ok x=> ∃ve vt,e=.returned (.tuple #[.agg #[ve,vt],.agg #[.int .i64 0,.int .i64 0]])/\W'.ownsRow W.heap.size 45 3 ve x.1.length (rowZ Ef.cell 3 x.1)/\W'.ownsRow W.heap.size 60 6 vt (Tr.flat x.2).length (rowZ Nd.cell 6 (Tr.flat x.2))/\Below W.heap.size W W'
theorem read_end {tm:Array Value}{a b c e:Value}{R:Ending->World->Prop}(h2:tm[2]?.getD undef=.pointer (some ⟨B,0,none⟩)) (h3:tm[3]?.getD undef=.pointer (some ⟨B+1,0,none⟩)) (hb:X.heap[B]?=some (.cells #[a,b] 26)) (hb3:X.heap[B+1]?=some (.cells #[c,e] 31)) (hR:R (.returned (.tuple #[.agg #[a,b],.agg #[c,e]])) X) :
 bodyPost prog Tryz.f9 R .ret { tmps:=tm,defers:= [] } X:=by
 have k20:=z8 hb 0;have k21:=z8 hb 1;have k30:=z8 hb3 0;have k31:=z8 hb3 1;simp at k20 k21 k30 k31;exact bodyPost_ret (v:=.tuple #[.agg #[a,b],.agg #[c,e]]) (by simp[results,results9,go_sem,h2,h3,k20,k21,k30,k31]) rfl hR
theorem read_left (t:ByteArray) (T:List Nd->Bool) {ws:List Wd}{p:Nat}(h:lexAll t=(ws,0,p)):readZ t T=match leftI ws with
 |.error j=> .error (5,(curI ws t.size j).at_)
 |.ok r=>if 300<(Tr.flat r.2).length\/8<r.1.length then .error (6,0) else if 40<r.2.2.deep+1 then .error (7,0) else if progZ r.1 (Tr.flat r.2) (T (Tr.flat r.2))=true then .ok r else .error (8,0):=by
 unfold readZ leftI;rw[h];dsimp only;rw[if_neg yn]
 cases hI:wholeI ws with
 | error j=>
   dsimp only;unfold curI;split<;>rfl
 | ok r=>
   dsimp only;by_cases hl:r.2<ws.length
   .rw[if_pos hl,if_pos hl];dsimp only;unfold curI;rw[if_pos hl]
   .rw[if_neg hl,if_neg hl]
theorem effs_brief {ws:List Wd}(hw:BriefW ws):∀(f:Nat) (es:List Ef),(∀x∈es,Brief x.name)->AllI (fun l:List Ef=> ∀x∈l,Brief x.name) (effsI ws f es)
 |0,es,h=>AllI.pure h
 | f+1,es,h=>by
   have hn:AllI (fun n:ByteArray=>Brief n) (nameI ws):=fun i r hr=>by
    unfold nameI at hr;split at hr
    .rename_i hc
     cases hr;exact hw _ (cur_mem hc.1)
    .cases hr
   refine AllI.or (hn.bind fun n hn=>AllI.skip fun _=>AllI.skip fun a=>AllI.skip fun _=>AllI.skip fun r=>AllI.skip fun _=>effs_brief hw f _ (fun x hx=>?_)) (AllI.pure h);rw[List.mem_append,List.mem_singleton]at hx;rcases hx with hx|rfl
   .exact h x hx
   .exact hn
def PosI {α:Type}(ws:List Wd) (p:PI α):Prop:= ∀i r,i<=ws.length->p i=.ok r->r.2<=ws.length
section
variable {ws:List Wd}{α β:Type}
theorem PosI.bind {p:PI α}{k:α->PI β}(h:PosI ws p) (hk:∀a,PosI ws (k a)):PosI ws (bindI p k):=fun i r hi hr=>by
 cases h1:p i with
 |error e=>exact absurd (bi_er hr h1) yn
 |ok x=>exact hk x.1 x.2 r (h i x hi h1) (bi_ok hr h1)
theorem PosI.pure (a:α):PosI ws (pureI a):=fun i r hi hr=>by
 cases hr;exact hi
theorem sees_on {i:Nat}{l:List UInt8}(h:seesI ws i l=true):i+1<=ws.length:=by
 unfold seesI at h;simp at h;exact h.1
theorem PosI.or {l:List UInt8}{p q:PI α}(h1:PosI ws p) (h2:PosI ws q):PosI ws (orI ws l p q):=fun i r hi hr=>by
 cases hz:seesI ws i l with
 |true=>exact h1 (i+1) r (sees_on hz) (oi_t hr hz)
 |false=>exact h2 i r hi (oi_f hr hz)
theorem PosI.take (l:List UInt8):PosI ws (takeI ws l):=fun i r hi hr=>by
 unfold takeI at hr;split at hr
 .rename_i hz
  cases hr;exact sees_on hz
 .cases hr
theorem PosI.name:PosI ws (nameI ws):=fun i r hi hr=>by
 unfold nameI at hr;split at hr
 .rename_i hc
  cases hr;exact hc.1
 .cases hr
theorem PosI.base:PosI ws (baseI ws):=.or (.pure _) (.or (.pure _) (.or (.pure _) (.or (.pure _) (fun i r hi hr=>by cases hr))))
theorem effs_pos:∀(f:Nat) (es:List Ef),PosI ws (effsI ws f es)
 |0,es=> .pure es
 |f+1,es=> .or (.bind .name fun _=> .bind (.take _) fun _=> .bind .base fun _=> .bind (.take _) fun _=> .bind .base fun _=> .bind (.take _) fun _=>effs_pos f _) (.pure es)
end
structure ReadOk (ws:List Wd) (es:List Ef) (t:Tr):Prop where
 tr:TrOk t
 bare:BareT t
 names:∀x∈es,Brief x.name
 nodes:BriefN (Tr.flat t)
 len:(Tr.flat t).length<=3*ws.length+10
theorem left_ok {ws:List Wd}{t:Tr}(hw:BriefW ws) (ho:WordsOk ws) (h:leftI ws=.ok (es,t)):ReadOk ws es t:=by
 unfold leftI at h
 cases hI:wholeI ws with
 |error j=>rw[hI]at h;cases h
 | ok r=>
   rw[hI]at h;dsimp only at h;split at h
   .cases h
   .have e:r.1=(es,t):=by simpa using h
    have h1:=whole_ok hI;have h2:=whole_bare hI;rw[e]at h1 h2;have hI2:=hI;unfold wholeI bindI at hI2
    cases hE:effsI ws (ws.length+1) [] 0 with
    |error j=>rw[hE]at hI2;cases hI2
    | ok x=>
      rw[hE]at hI2;dsimp only at hI2;have h3:=effs_brief hw (ws.length+1) [] (fun x hx=>mt) 0 x hE
      cases hP:ipz ws (16*ws.length+11) .expr x.2 with
      |error j=>rw[hP]at hI2;cases hI2
      | ok y=>
        rw[hP]at hI2;have e2:r=((x.1,y.1),y.2):=by cases hI2;rfl
        rw[e2]at e;simp only[Prod.mk.injEq]at e;rw[e.1]at h3;have hal:=(parse_alike ho (16*ws.length+11) NtR.expr).same x.2;rw[hP]at hal;obtain⟨a,ha,hf⟩:=hal;obtain⟨c,g1,g2,g3,g4⟩:=(part_m hw (16*ws.length+11)).at .expr trivial yn ⟨x.2,false⟩ (effs_pos _ _ 0 x (Li _) hE);rw[ha]at g1 g3 g4;have hfl:a=Tr.flat y.1:=hf;rw[hfl,e.2]at g3 g4;refine⟨h1,h2,h3,g4,?_⟩;dsimp only[accN]at g3 g2;omega
theorem nodes_own {cp:Nat}(h:X.ownsRow B 60 6 (.slice ad ns.length cp) ns.length (rowZ Nd.cell 6 ns)) (h0:0<ns.length):∃b,ad=some ⟨b,0,none⟩/\b<X.heap.size/\ns.length<=cp/\NodesAt X b 0 ns:=by
 have h':= h;obtain⟨-,⟨-,hn⟩|⟨g,cap,cur,e,hB,hc,hn,-⟩⟩:=h
 .omega
 .cases e;refine⟨g,rfl,z12 hc,hn,fun i hi c hc'=> ?_⟩;have e1:=h'.cellAt (i*6+c) yf;rw[z61 Nd.cell 6 yh ns _ yf,cell_div ns Nd.cell 6 i c hc']at e1;rw[Nat.zero_add];exact e1
theorem effs_own {q:Nat}{cp:Nat}(h:X.ownsRow B 45 3 (.slice ad es.length cp) es.length (rowZ Ef.cell 3 es)) (hq:q<X.heap.size):∃b,(es≠ []->ad=some ⟨b,0,none⟩)/\b<X.heap.size/\es.length<=cp/\EffsAt X b 0 es:=by
 have h':= h;obtain⟨-,⟨-,hn⟩|⟨g,cap,cur,e,hB,hc,hn,-⟩⟩:=h
 .exact⟨q,fun h=>absurd (Lk hn) h,hq,yf,fun i hi=>yf⟩
 .cases e;refine⟨g,fun _=>rfl,z12 hc,hn,fun i hi c hc'=> ?_⟩;have e1:=h'.cellAt (i*3+c) yf;rw[z61 Ef.cell 3 yh es _ yf,cell_div es Ef.cell 3 i c hc']at e1;rw[Nat.zero_add];exact e1
theorem implRead_calls (t:ByteArray) (T:List Nd->Bool) (hT:∀ns,ImplAns ns (T ns)) (W:World) :
 Calls prog 9 #[.string t] W fun e W'=> ReadOwn (readZ t T) W e W':= by
 have HT:=J hT;obtain⟨R,hR⟩:∃R,readZ t T=R:=⟨_,rfl⟩
 rw[hR];have HR:=J hR;clear hT hR;go_enter func9,ntmps9
 go_wp2_with fail
 obtain⟨hA,hA2,hA3,hA4⟩:=two_blocks W (.cells #[.slice none 0 0,.slice none 0 0] 26) (.cells #[.int .i64 0,.int .i64 0] 31);refine(implWords_calls t _).mono ?_;rintro e w1 ⟨⟨v,rfl,hrow⟩,hb1⟩;obtain⟨ws,c,p,hL⟩:∃ws c p,lexAll t=(ws,c,p):=⟨_,_,_,rfl⟩
 have HWs:=J (Lc (lexAll_brief t) (Lc (lexAll_num t) (Lc (lexAll_words t) (Lc (lexAll_ne t) (lexAll_ok t).2))));rw[hL]at hrow HWs |-;dsimp only at hrow |-;have HLx:=J hL;have HRow:=J hrow;have B2:=J ((hb1.block _ yf).trans hA2);have B3:=J ((hb1.block _ yf).trans hA3);have HB:=J (hA.trans (hb1.mono hA.size));have HN:=J (show W.heap.size+2<=w1.heap.size from by have:=hb1.size;omega);clear hL hrow hb1 hA hA2 hA3 hA4;by_cases hc:c=0
 case neg=>
  have hcb:(c==0)=false:=by simpa using hc
  have hRR:R=.error (c,p):=by
   rw[<-HR.o];unfold readZ;rw[HLx.o,if_pos (show c≠0 from hc)]
  have HRR:=J hRR;clear hRR;go_upto_region 3 with fail
  have hx:=(Below.refl w1.heap.size w1).alloc La (.cells #[.int .i64 c,.int .i64 (p:Int)] 31);have hy:=(Ld w1 (.cells #[.int .i64 c,.int .i64 (p:Int)] 31)).1;have hn:=HN.o;have b2:=(hx.block _ yf).trans B2.o;have b3:=(hx.block _ yf).trans B3.o;have hB:=HB.o.trans (hx.mono HB.o.size);generalize w1.alloc (.cells #[.int .i64 c,.int .i64 (p:Int)] 31)=w2 at hx hy b2 b3 hB |-;generalize w1.heap.size=g5 at hy hn |-;have HB2:=J hB;have K2:=J b2;have K3:=J b3;refine zb6 ?_;unhygienic intros
  clear hx hy hn b2 b3 hB hc hcb;go_region
  go_wp2_with fail
  obtain⟨r2,r3,rB,-⟩:=set4_is (.slice none 0 0) (.slice none 0 0) (.int .i64 c) (.int .i64 (p:Int)) K2.o K3.o;unfold set4 at r2 r3 rB;refine read_end rfl rfl r2 r3 ?_;rw[HRR.o];exact⟨rfl,HB2.o.trans rB.drew⟩
 case pos=>
  subst hc;obtain⟨ad,cpw,rfl⟩:=y_is HRow.o;have HZ:=J (HR.o.symm.trans (read_left t T HLx.o));go_wp2_with fail
  have hx:=(Below.refl w1.heap.size w1).alloc La (.cells #[.int .i64 0,.int .i64 (p:Int)] 31);have hy:=(Ld w1 (.cells #[.int .i64 0,.int .i64 (p:Int)] 31)).1;have hn:=HN.o;have b2:=(hx.block _ yf).trans B2.o;have b3:=(hx.block _ yf).trans B3.o;have hB:=HB.o.trans (hx.mono HB.o.size);have hrw:=z33 HRow.o hx;generalize w1.alloc (.cells #[.int .i64 0,.int .i64 (p:Int)] 31)=w2 at hx hy b2 b3 hB hrw |-;have hgl:=hx.size;generalize w1.heap.size=g5 at hy hn hgl |-
  have hli:∀d:Dr,w2.heap.size<=d.B->w2.heap.size<=d.G->Lies d w2 (.slice ad ws.length cpw) ws.length 3 (fun i=>wdC (ws.getD (i/3) default) (i % 3)):=fun d h1 h2=>by
   rw[flatW_row]at hrw;exact lies_old (d:=d) (f:=wdC) yh hrw h1 h2
  have hcall:=readWords_calls (sz:=t.size) HWs.o.1 HWs.o.2.2.1 HWs.o.2.1 HWs.o.2.2.2.1 HWs.o.2.2.2.2 w2 hli;have HCall:=J hcall;have G5:=J hy;have K2:=J b2;have K3:=J b3;have HB2:=J hB;have HNe:=J (show W.heap.size+2<=g5/\g5<w2.heap.size from⟨hn,z12 hy⟩);clear hx hy hn b2 b3 hB hgl hli hcall hrw;refine HCall.o.mono ?_;intro e X1 hp;clear HCall
  cases hI:leftI ws with
  | error j=>
    rw[hI]at hp;obtain⟨v1,v2,rfl,hb⟩:=hp;unfold faultV;obtain⟨pl,hpl⟩:∃x,(curI ws t.size j).at_=x:=⟨_,rfl⟩
    have hRR:R=.error (5,pl):=by
     rw[HZ.o,hI,<-hpl]
    have HRR:=J hRR;rw[hpl];have G5:=J ((hb.block _ HNe.o.2).trans G5.o);have K2:=J ((hb.block _ ybn).trans K2.o);have K3:=J ((hb.block _ ybn).trans K3.o);have HB3:=J (HB2.o.trans (hb.mono HB2.o.size));have c50:=z8 G5.o 0;have c51:=z8 G5.o 1;obtain⟨z50,z51⟩:=ffz2 G5.o;simp at c50 c51;clear hpl hRR hb hI;go_upto_region 6 with fail
    have hne:=HNe.o;have G6:=J (z28 (i:=1) (.int .i64 (pl:Int)) (z28 (i:=0) (.int .i64 5) G5.o));have kk:∀q,q≠g5->((X1.setCell ⟨g5,0,none⟩ (.int .i64 5)).setCell ⟨g5,1,none⟩ (.int .i64 (pl:Int))).heap[q]?=X1.heap[q]? :=fun q hq=>(Lg _ ⟨g5,1,none⟩ _ q hq).trans (Lg _ ⟨g5,0,none⟩ _ q hq)
    have b2:=(kk W.heap.size yf).trans K2.o;have b3:=(kk (W.heap.size+1) yf).trans K3.o;have hB:=(HB3.o.setCell (p:=⟨g5,0,none⟩) zb (.int .i64 5)).setCell (p:=⟨g5,1,none⟩) zb (.int .i64 (pl:Int));generalize (X1.setCell ⟨g5,0,none⟩ (.int .i64 5)).setCell ⟨g5,1,none⟩ (.int .i64 (pl:Int))=X2 at G6 b2 b3 hB |-;have HB4:=J hB;have L2:=J b2;have L3:=J b3;have g20:=z8 b2 0;have g21:=z8 b2 1;have g30:=z8 b3 0;have g31:=z8 b3 1;have g50:=z8 G6.o 0;have g51:=z8 G6.o 1;obtain⟨f20,f21⟩:=ffz2 b2;obtain⟨f30,f31⟩:=ffz2 b3;simp at g20 g21 g30 g31 g50 g51;have e1:W.heap.size≠g5:=yf
    have e2:W.heap.size+1≠g5:=yf;clear kk b2 b3 hB hne c50 c51 z50 z51;go_region
    go_wp2_with fail
    obtain⟨r2,r3,rB,-⟩:=set4_is (.slice none 0 0) (.slice none 0 0) (.int .i64 5) (.int .i64 (pl:Int)) L2.o L3.o;unfold set4 at r2 r3 rB;refine read_end rfl rfl r2 r3 ?_;rw[HRR.o];exact⟨rfl,HB4.o.trans rB.drew⟩
  | ok r=>
    obtain⟨es,tr⟩:=r;rw[hI]at hp;obtain⟨ve,T2,p2,lo,hi,rfl,hown,hfm,hlo,hb⟩:=hp;have HOk:=J (left_ok HWs.o.1 HWs.o.2.2.1 hI);have HZ:=J (HZ.o.trans (by rw[hI]));dsimp only at HZ;obtain⟨ade,cpe,hve⟩:=y_is hown;subst hve;have G5:=J ((hb.block _ HNe.o.2).trans G5.o);have K2:=J ((hb.block _ ybn).trans K2.o);have K3:=J ((hb.block _ ybn).trans K3.o);have HBB:=J (HB2.o.trans (hb.mono HB2.o.size));have c50:=z8 G5.o 0;have c51:=z8 G5.o 1;obtain⟨z50,z51⟩:=ffz2 G5.o;simp at c50 c51;have HOw:=J hown;have HFm:=J (Lc hfm hlo);have HSz:=J hb.size;clear hb hI hown hfm hlo HB2;go_upto_region 7 with fail
    have hne:=HNe.o;have kk:∀q,q≠g5->((X1.setCell ⟨g5,0,none⟩ (.int .i64 0)).setCell ⟨g5,1,none⟩ (.int .i64 0)).heap[q]?=X1.heap[q]? :=fun q hq=>(Lg _ ⟨g5,1,none⟩ _ q hq).trans (Lg _ ⟨g5,0,none⟩ _ q hq)
    have K2:=J ((kk W.heap.size yf).trans K2.o);have K3:=J ((kk (W.heap.size+1) yf).trans K3.o);have HBB:=J ((HBB.o.setCell (p:=⟨g5,0,none⟩) zb (.int .i64 0)).setCell (p:=⟨g5,1,none⟩) zb (.int .i64 0));have HOw:=J (y_same HOw.o (fun g hg=>kk g ybo));have HFm:=J (Lc (HFm.o.1.keep (Lf HFm.o.1.top vh) (fun q hq _=>kk q (by have:=HFm.o.2;omega))) HFm.o.2);have hsz2:X1.heap.size=((X1.setCell ⟨g5,0,none⟩ (.int .i64 0)).setCell ⟨g5,1,none⟩ (.int .i64 0)).heap.size:=vh
    have HSz:=J (show w2.heap.size<=((X1.setCell ⟨g5,0,none⟩ (.int .i64 0)).setCell ⟨g5,1,none⟩ (.int .i64 0)).heap.size by rw[<-hsz2];exact HSz.o);generalize (X1.setCell ⟨g5,0,none⟩ (.int .i64 0)).setCell ⟨g5,1,none⟩ (.int .i64 0)=X2 at K2 K3 HBB HOw HFm HSz |-;clear kk hne hsz2 c50 c51 z50 z51 G5;obtain⟨v2,us,rest,hv2,hF,hS,-⟩:=HFm.o.1.forms;obtain⟨rfl,rfl⟩:.iface T2 p2=v2/\rest= []:=by simp at hv2;exact⟨hv2.1,hv2.2⟩
    have hadd:=add_calls X2 (tr.2.flat.length+1) lo tr.1 tr.2 us _ (.slice none 0 0) [] X2 hF hS HOk.o.tr.1 HOk.o.tr.2 HOk.o.bare.1 HOk.o.bare.2 Lb ⟨rfl,Or.inl ⟨rfl,rfl⟩⟩ (by have h1:=HOk.o.len;have h2:=HWs.o.2.2.2.2;simp only[Tr.flat,List.length_cons]at h1;simp;omega) (Nat.lt_succ_self _);have HAdd:=J hadd;have HF:=J (Lc hF hS);clear hadd hF hS hv2;go_wp2_with fail
    refine HAdd.o.mono ?_;rintro e X3 ⟨vt,rfl,hown3,hgr3,-⟩;obtain⟨adt,cpt,hvt⟩:=y_is hown3;subst hvt;have hb3:Below X2.heap.size X2 X3:=⟨hgr3.os,hgr3.tape,hgr3.output,hgr3.size,fun q hq=>hgr3.block q hq qf⟩
    have hfl:[]++tr.1::tr.2.flat=Tr.flat tr:=rfl;rw[hfl]at hown3;have HOt:=J hown3;have HOw:=J (z33 HOw.o hb3);have K2:=J ((hb3.block _ (z12 K2.o)).trans K2.o);have K3:=J ((hb3.block _ (z12 K3.o)).trans K3.o);have HBB:=J (HBB.o.trans (hb3.mono HBB.o.size));have HF:=J (Lc (HF.o.1.below hb3) (HF.o.2.below hb3));have HSz3:=J hb3.size;rw[hfl];clear hown3 hgr3 hb3 hfl HAdd;obtain⟨L,hL⟩:∃L,(Tr.flat tr).length=L:=⟨_,rfl⟩
    rw[hL];have HLn:=J hL;clear hL;have hb4:=(Below.refl X3.heap.size X3).alloc La (.cells #[.slice ade es.length cpe,.slice adt L cpt] 26);have PB:=J (Ld X3 (.cells #[.slice ade es.length cpe,.slice adt L cpt] 26)).1;have HOt:=J (z33 HOt.o hb4);have HOw:=J (z33 HOw.o hb4);have K2:=J ((hb4.block _ (z12 K2.o)).trans K2.o);have K3:=J ((hb4.block _ (z12 K3.o)).trans K3.o);have HBB:=J (HBB.o.trans (hb4.mono HBB.o.size));have HF:=J (Lc (HF.o.1.below hb4) (HF.o.2.below hb4));clear hb4;go_upto_region 8 with fail
    obtain⟨X4,hX4⟩:∃Y,X3.alloc (.cells #[.slice ade es.length cpe,.slice adt L cpt] 26)=Y:=⟨_,rfl⟩
    rw[hX4]at PB HOt HOw K2 K3 HBB HF |-;obtain⟨g8,hg8⟩:∃g,X3.heap.size=g:=⟨_,rfl⟩
    have HN8:=J (show W.heap.size+2<=g8 by have h1:=HNe.o;have h2:=HSz.o;have h3:=HSz3.o;omega);rw[hg8]at PB |-;clear hX4 hg8;refine zb18 ?_;intro c0 c1 g20 g21 g30 g31 f20 f21 f30 f31;simp at c0 c1 g20 g21 g30 g31;by_cases hm:(300:Int)<(L:Int)
    ·have hRR:R=.error (6,0):=by
      rw[HZ.o,if_pos (Or.inl gv)]
     have HRR:=J hRR;clear hRR;go_wp2_with fail
     obtain⟨r2,r3,rB,-⟩:=set4_is (.slice none 0 0) (.slice none 0 0) (.int .i64 6) (.int .i64 0) K2.o K3.o;unfold set4 at r2 r3 rB;refine read_end rfl rfl r2 r3 ?_;rw[HRR.o];exact⟨rfl,HBB.o.trans rB⟩
    by_cases hm2:(8:Int)<(es.length:Int)
    ·have hRR:R=.error (6,0):=by
      rw[HZ.o,if_pos (Or.inr yf)]
     have HRR:=J hRR;clear hRR;go_wp2_with fail
     obtain⟨r2,r3,rB,-⟩:=set4_is (.slice none 0 0) (.slice none 0 0) (.int .i64 6) (.int .i64 0) K2.o K3.o;unfold set4 at r2 r3 rB;refine read_end rfl rfl r2 r3 ?_;rw[HRR.o];exact⟨rfl,HBB.o.trans rB⟩
    have HM:=J (Lc hm hm2);have HZ:=J (HZ.o.trans (by rw[if_neg gv]));have hlt:tr.2.flat.length+1=L:=by rw[<-HLn.o];simp[Tr.flat]
    have hdp:=deepOf_calls (tr.2.flat.length+1) lo tr.1 tr.2 us _ X4 HF.o.1 HF.o.2 yf (Nat.lt_succ_self _);have HDp:=J hdp;obtain⟨D,hD⟩:∃D,tr.2.deep+1=D:=⟨_,rfl⟩
    rw[hD]at HDp;have HD:=J hD;clear hD hdp hlt;go_wp2_with fail
    refine HDp.o.mono ?_;rintro e X5 ⟨rfl,hb5⟩;have PB:=J ((hb5.block _ (z12 PB.o)).trans PB.o);have HOt:=J (z33 HOt.o hb5);have HOw:=J (z33 HOw.o hb5);have K2:=J ((hb5.block _ (z12 K2.o)).trans K2.o);have K3:=J ((hb5.block _ (z12 K3.o)).trans K3.o);have HBB:=J (HBB.o.trans (hb5.mono HBB.o.size));clear hb5 HDp HF c0 c1 g20 g21 g30 g31 f20 f21 f30 f31;refine zb18 ?_;intro c0 c1 g20 g21 g30 g31 f20 f21 f30 f31;simp at c0 c1 g20 g21 g30 g31;by_cases hdm:(40:Int)<(D:Int)
    ·have hRR:R=.error (7,0):=by
      rw[HZ.o,if_pos (by rw[HD.o];omega)]
     have HRR:=J hRR;clear hRR;go_wp2_with fail
     obtain⟨r2,r3,rB,-⟩:=set4_is (.slice none 0 0) (.slice none 0 0) (.int .i64 7) (.int .i64 0) K2.o K3.o;unfold set4 at r2 r3 rB;refine read_end rfl rfl r2 r3 ?_;rw[HRR.o];exact⟨rfl,HBB.o.trans rB⟩
    have HZ:=J (HZ.o.trans (by rw[if_neg (by rw[HD.o];omega)]));obtain⟨bt,hadt,hbt,hcpt,hNA⟩:=nodes_own HOt.o (by rw[HLn.o];have h1:=HLn.o;simp[Tr.flat]at h1;omega);obtain⟨be,hae,hbe,hce,hEA⟩:=effs_own HOw.o hbt;have hok:=implProgC_calls ade be bt cpe cpt es (Tr.flat tr) (T (Tr.flat tr)) X5 hce hae hbe hbt hEA hNA (by have:=HM.o.2;omega) (by rw[HLn.o];have:=HM.o.1;omega) (fun x hx=>by have:=HOk.o.names x hx;unfold Brief at this;unfold maxLen;omega) (fun w' h1 h2=>implTree_calls bt 0 cpt (Tr.flat tr) w' (T (Tr.flat tr)) (by rw[HLn.o];have:=HM.o.1;omega) h1 h2 (fun n hn=>by
     obtain⟨g1,g2,g3⟩:=HOk.o.nodes n hn;unfold Brief at g1 g2 g3;unfold maxLen;omega) (HT.o (Tr.flat tr)))
    subst hadt;obtain⟨P,hP⟩:∃P,progZ es (Tr.flat tr) (T (Tr.flat tr))=P:=⟨_,rfl⟩
    rw[hP]at HZ hok;rw[HLn.o]at hok;have HOkc:=J hok;clear hP hok hNA hEA hae hbe hce hcpt hbt;go_wp2_with fail
    refine HOkc.o.mono ?_;rintro e X6 ⟨rfl,hb6⟩;have PB:=J ((hb6.block _ (z12 PB.o)).trans PB.o);have HOt:=J (z33 HOt.o hb6);have HOw:=J (z33 HOw.o hb6);have K2:=J ((hb6.block _ (z12 K2.o)).trans K2.o);have K3:=J ((hb6.block _ (z12 K3.o)).trans K3.o);have HBB:=J (HBB.o.trans (hb6.mono HBB.o.size));clear hb6 HOkc c0 c1 g20 g21 g30 g31 f20 f21 f30 f31;refine zb18 ?_;intro c0 c1 g20 g21 g30 g31 f20 f21 f30 f31;simp at c0 c1 g20 g21 g30 g31
    cases P with
    | false=>
      have HRR:=J (HZ.o.trans (show(if false=true then (Except.ok (es,tr):Except (Int×Nat) (List Ef×Tr)) else .error (8,0))=.error (8,0) from rfl));go_wp2_with fail
      obtain⟨r2,r3,rB,-⟩:=set4_is (.slice none 0 0) (.slice none 0 0) (.int .i64 8) (.int .i64 0) K2.o K3.o;unfold set4 at r2 r3 rB;refine read_end rfl rfl r2 r3 ?_;rw[HRR.o];exact⟨rfl,HBB.o.trans rB⟩
    | true=>
      have HRR:=J (HZ.o.trans (show(if true=true then (Except.ok (es,tr):Except (Int×Nat) (List Ef×Tr)) else .error (8,0))=.ok (es,tr) from rfl));go_wp2_with fail
      obtain⟨r2,r3,rB,rO⟩:=set4_is (.slice ade es.length cpe) (.slice (some ⟨bt,0,none⟩) L cpt) (.int .i64 0) (.int .i64 0) K2.o K3.o;unfold set4 at r2 r3 rB rO;refine read_end rfl rfl r2 r3 ?_;rw[HRR.o];have h1:=HNe.o;have h2:=HSz.o;refine⟨_,_,rfl,own_mono (y_same HOw.o (fun g hg=>rO g ybo ybo)) yf,?_,HBB.o.trans rB⟩;have hOt:=HOt.o;rw[HLn.o]at hOt;show World.ownsRow _ _ _ _ _ (Tr.flat tr).length _;rw[HLn.o];exact own_mono (y_same hOt (fun g hg=>rO g (by have:=(hOt.lt g hg).1;omega) (by have:=(hOt.lt g hg).1;omega))) yf
end
section
open Go.RowKit Go.Deep Go.ChangeShapes Go.WideShapes
def EffSlice (w:World) (v:Value) (ns:List Ef):Prop:=
 ∃a cap,v=.slice a ns.length cap/\(ns= []\/ ∃b off,a=some ⟨b,off,none⟩/\b<w.heap.size/\EffsAt w b off ns)
theorem EffSlice.below {w':World}{ns:List Ef}(h:EffSlice w v ns) (hb:Below w.heap.size w w'):EffSlice w' v ns:=by
 obtain⟨a,cap,rfl,h⟩:=h;refine⟨a,cap,rfl,h.imp id ?_⟩;rintro⟨b,off,rfl,hlt,hn⟩;exact⟨b,off,rfl,Le hlt hb.size,hn.below hb hlt⟩
section
variable {H:Type}{enc:TypeId×Value->H}{W:World}{sp:Nat->Bool}{held:Bool}
end
end
section
open Go.RowKit
def ndF (ns:List Nd) (i:Nat):Value:=(ns.getD (i/6) default).cell (i % 6)
theorem ndF_at (ns:List Nd) (j c:Nat) (hc:c<6):ndF ns (j*6+c)=(ns.getD j default).cell c:=by
 unfold ndF;rw[show(j*6+c)/6=j by omega,show(j*6+c) % 6=c by omega]
theorem CellRow.nodes {g:Nat}(h:CellRow 60 w g (ns.length*6) (ndF ns)):NodesAt w g 0 ns:=by
 intro j hj c hc;rw[Nat.zero_add,h.cell yf,ndF_at ns j c hc]
def efF (es:List Ef) (i:Nat):Value:=(es.getD (i/3) default).cell (i % 3)
theorem efF_at (es:List Ef) (j c:Nat) (hc:c<3):efF es (j*3+c)=(es.getD j default).cell c:=by
 unfold efF;rw[show(j*3+c)/3=j by omega,show(j*3+c) % 3=c by omega]
theorem CellRow.effs {g:Nat}(h:CellRow 45 w g (es.length*3) (efF es)):EffsAt w g 0 es:=by
 intro j hj c hc;rw[Nat.zero_add,h.cell yf,efF_at es j c hc]
end
section
open Go.RowKit Go.Deep
def esR (r:Except (Int×Nat) (List Ef×Tr)):List Ef:=match r with|.error _=> []|.ok x=>x.1
def nsR (r:Except (Int×Nat) (List Ef×Tr)):List Nd:=match r with|.error _=> []|.ok x=>Tr.flat x.2
def kR (r:Except (Int×Nat) (List Ef×Tr)):Int:=match r with|.error x=>x.1|.ok _=>0
def aR (r:Except (Int×Nat) (List Ef×Tr)):Int:=match r with|.error x=>(x.2:Int)|.ok _=>0
theorem readZ_few (t:ByteArray) (T:List Nd->Bool):(esR (readZ t T)).length<=8/\(nsR (readZ t T)).length<=300:=by
 unfold readZ;split
 .exact⟨Li _,Li _⟩
 .split
  .exact⟨Li _,Li _⟩
  .split
   .exact⟨Li _,Li _⟩
   .split
    .exact⟨Li _,Li _⟩
    .rename_i h;split
     .exact⟨Li _,Li _⟩
     .split
      .exact⟨by simp only[esR];omega,by simp only[nsR];omega⟩
      .exact⟨Li _,Li _⟩
theorem lies_effs {d:Dr}{W:World}(h:Lies d W v es.length 3 (fun i=>Ef.cell (es.getD (i/3) default) (i % 3))):EffSlice W v es:=by
 rcases h with ⟨rfl,h0⟩|⟨b,off,cap,rfl,-,rfl,hf,hc⟩
 .exact⟨none,0,by rw[h0],Or.inl (Lk h0)⟩
 .refine⟨_,cap,rfl,Or.inr ⟨b,0,rfl,hf.1,fun k hk c hc'=> ?_⟩⟩;have:=hc (k*3+c) yf;dsimp only at this;rw[show(k*3+c)/3=k by omega,show(k*3+c) % 3=c by omega]at this;rw[<-this,Nat.add_assoc]
theorem lies_nodes {d:Dr}{W:World}(h:NodesD d W v ns):NodeSlice W v ns:=by
 rcases h.1 with ⟨rfl,h0⟩|⟨b,off,cap,rfl,-,rfl,hf,hc⟩
 .exact⟨none,0,by rw[h0],Or.inl (Lk h0)⟩
 .refine⟨_,cap,rfl,Or.inr ⟨b,0,rfl,hf.1,fun k hk c hc'=> ?_⟩⟩;have:=hc (k*6+c) yf;dsimp only at this;rw[show(k*6+c)/6=k by omega,show(k*6+c) % 6=c by omega]at this;rw[<-this,Nat.add_assoc]
theorem spec_ends (t:ByteArray) (T:List Nd->Bool) (hT:∀ns,SpecAns ns (T ns)) (W:World) :
 Calls prog 12 #[.string t] W fun e W'=> ∃ve vt,e=.returned (.tuple #[.agg #[ve,vt],.agg #[.int .i64 (kR (readZ t T)),.int .i64 (aR (readZ t T))]])/\EffSlice W' ve (esR (readZ t T))/\NodeSlice W' vt (nsR (readZ t T))/\Below W.heap.size W W':= by
 refine(progRead_calls t T hT W).mono ?_;rintro e W' ⟨h,hb⟩;generalize readZ t T=r at*
 cases r with
 |error x=>exact⟨_,_,h,⟨none,0,rfl,Or.inl rfl⟩,⟨none,0,rfl,Or.inl rfl⟩,hb⟩
 | ok x=>
   obtain⟨d,ve,vt,he,h1,h2,-⟩:=h;exact⟨ve,vt,he,lies_effs h1,lies_nodes h2,hb⟩
theorem owns_sliceR {α:Type}[Inhabited α] {f:α->Nat->Value}{sz:Nat}(hz:0<sz) {W:World}{t:TypeId}{l:List α}(h:W.ownsRow B t sz v l.length (rowZ f sz l)):SliceR t sz B W v l.length (fun i=>f (l.getD (i/sz) default) (i % sz)):=by
 obtain⟨ad,cap,e,h⟩:=sliceR_of_owns h;refine⟨ad,cap,e,h.imp id ?_⟩;rintro⟨g,e1,hB,hr⟩;refine⟨g,e1,hB,hr.congr (fun i hi=>?_)⟩;show(rowZ f sz l).getD i undef=_;rw[List.getD_eq_getElem?_getD,z61 f sz hz l i hi];rfl
theorem SliceR.effS (h:SliceR 45 3 B w v es.length (efF es)):EffSlice w v es:=by
 obtain⟨ad,cap,rfl,h⟩:=h;refine⟨ad,cap,rfl,h.imp Lk ?_⟩;rintro⟨g,rfl,-,hr⟩;exact⟨g,0,rfl,hr.lt,hr.effs⟩
theorem SliceR.nodeS (h:SliceR 60 6 B w v ns.length (ndF ns)):NodeSlice w v ns:=by
 obtain⟨ad,cap,rfl,h⟩:=h;refine⟨ad,cap,rfl,h.imp Lk ?_⟩;rintro⟨g,rfl,-,hr⟩;exact⟨g,0,rfl,hr.lt,hr.nodes⟩
structure RightP (es:List Ef) (n:Nd) (k:Fo) (S:List UInt8):Prop where
 effs:∀e∈es,EfOk e
 own:∀m∈n::k.flat,ownOk m=true
 size:k.flat.length+1<=300
 stands:Stands (n::k.flat) ⟨n,k,0⟩
 ex:Ex ⟨n,k,0⟩
 few:es.length<=8
 deep:k.deep+1<=40
 kids:n.kids=k.count
 wf:k.wf
 ans:SpecAns (n::k.flat) true
 ok:progZ es (n::k.flat) true=true
 text:S=es.flatMap effTz++showZ 400 ⟨n,k,0⟩ 0
theorem right_prog {k:Fo}(hk:n.kids=k.count) (hw:k.wf) (hA:SpecAns (n::k.flat) true) (hP:progZ es (n::k.flat) true=true):RightP es n k (progT es n k):=by
 obtain⟨n',k',f1,f2,f3,hl,hst,hex,-⟩:=right_of hA;obtain⟨rfl,rfl⟩:=tree_inj f1 f2 f3 rfl hk hw;have hd:k.deep+1<=40/\(n::k.flat).all ownOk=true:=by
  rcases hA with ⟨-,h⟩|⟨-,-,-,h⟩|⟨-,-,n',k',e1,e2,e3,h⟩
  .cases h
  .cases h
  .obtain⟨rfl,rfl⟩:=tree_inj e1 e2 e3 rfl hk hw;have h':= h.symm;simp only[Bool.and_eq_true,decide_eq_true_eq]at h';exact⟨h'.2.1,h'.1⟩
 have hP':= hP;unfold progZ at hP';simp only[Bool.and_eq_true,decide_eq_true_eq]at hP';refine⟨fun e he=>?_,fun m hm=>List.all_eq_true.1 hd.2 m hm,by simpa using hl,hst,hex,hP'.1,hd.1,hk,hw,hA,hP,rfl⟩;obtain⟨i,hi,e1⟩:=List.mem_iff_getElem.1 he;have h2:=List.all_eq_true.1 hP'.2.2.1 i (List.mem_range.2 hi);unfold effOk at h2;rw[show es.getD i default=e by simp[List.getD,hi,e1]]at h2;simp only[Bool.and_eq_true,decide_eq_true_eq]at h2;exact⟨h2.1,h2.2.2.1,h2.2.2.2⟩
theorem TextIs.right (h:TextIs es ns S):(S= []/\ ∀T,SpecAns ns T->progZ es ns T=false)\/ ∃n k,ns=n::k.flat/\RightP es n k S:=by
 rcases h with h|⟨n,k,h1,h2,h3,h4,-,h5,rfl⟩
 .exact Or.inl h
 .subst h1;exact Or.inr ⟨n,k,rfl,right_prog h2 h3 h4 h5⟩
theorem RightP.read {k:Fo}(h:RightP es n k S) {T:List Nd->Bool}(hT:∀ns,SpecAns ns (T ns)) (hsz:S.length<=1500):readZ (tx S) T=.ok (es,(n,k)):=
 text_read (F:=400) h.effs h.own (by have:=h.size;omega) h.stands h.ex (by show S=_;exact h.text) (by rw[z32];exact hsz) (by simpa using h.size) h.few h.deep (by rw[spec_ans_one (hT _) h.ans];exact h.ok)
theorem itoa_some (n:Int):Lib.itoa n≠ []:=by
 unfold Lib.itoa;split<;>(try simp)
 all_goals
  unfold Lib.decDigits;split<;>simp
theorem bare_some {F:Nat}{t:Tp}(hn:∀m∈ns,ownOk m=true) (hs:Stands ns t) (hx:Ex t):bareZ (F+1) t≠ []:=by
 have hF:(bareZ (F+1) t).length=0->False:=by
  intro h0;have hi:=Lk h0;by_cases k1:t.n.kind=1
  .rw[bare1 k1]at hi;exact itoa_some _ hi
  by_cases k2:t.n.kind=2
  .rw[bare2 k2]at hi;split at hi<;>cases hi
  by_cases k3:t.n.kind=3
  .rw[bare3 k3]at hi;cases hi
  by_cases k4:t.n.kind=4
  .rw[bare4 k4]at hi;cases hi
  by_cases k5:t.n.kind=5
  .rw[bare5 k5]at h0;simp only[text5]at h0;obtain⟨suf,hd⟩:=hs.drop;have ho:=hn t.n (List.mem_of_mem_drop (i:=t.at_) (by rw[hd];exact List.mem_cons_self));simp only[ownOk,namesOk,Bool.and_eq_true]at ho;have h2:=ho.2.1.1;rw[k5]at h2;unfold fit at h2;rw[if_pos yh]at h2;simp only[nameOk,Bool.and_eq_true,decide_eq_true_eq]at h2;have h3:=h2.1.1.1;simp at h0;have h4:t.n.a.size=0:=by rw[h0];rfl
   omega
  by_cases k6:t.n.kind=6
  .rw[bare6 k6]at h0;simp[text6]at h0
  by_cases k7:t.n.kind=7
  .rw[bare7 k7]at h0;simp[text7]at h0
  by_cases k8:t.n.kind=8
  .rw[bare8 k8]at h0;simp[text8]at h0
  by_cases k9:t.n.kind=9
  .rw[bare9 k9]at h0;simp[text9]at h0
  by_cases k10:t.n.kind=10
  .rw[bare10 k10]at h0;simp[text10]at h0
  by_cases k11:t.n.kind=11
  .rw[bare11 k11]at h0;simp[text11]at h0
  by_cases k12:t.n.kind=12
  .rw[bare12 k12]at h0;simp[text12]at h0
  by_cases k13:t.n.kind=13
  .rw[bare13 k13]at h0;simp[text13]at h0
  by_cases k14:t.n.kind=14
  .rw[bare14 k14]at h0;simp[text14]at h0
  by_cases k15:t.n.kind=15
  .rw[bare15 k15]at h0;simp[text15]at h0
  by_cases k19:t.n.kind=19
  .rw[bare19 k19]at h0;simp[text19]at h0
  by_cases k16:t.n.kind=16
  .rw[bare16 k16]at h0;simp[text16]at h0
  by_cases k17:t.n.kind=17
  .rw[bare17 k17]at h0;simp[text17]at h0
  by_cases k18:t.n.kind=18
  .rw[bare18 k18]at h0;simp[text18]at h0
  by_cases k21:t.n.kind=21
  .rw[bare21 k21]at h0;simp[text21]at h0
  by_cases k22:t.n.kind=22
  .rw[bare22 k22]at h0;simp[text22]at h0
  by_cases k20:t.n.kind=20
  .rw[bare20 k20]at h0;simp[text20]at h0
  have hh:t.n.kind=23\/t.n.kind=24:=by
   have h1:=(arity_at hs.toGood).1;have h3:=hx.2;by_cases h4:t.n.kind<1\/26<t.n.kind
   .exact absurd (tab_other h4) h1
   .omega
  rw[bareH hh]at h0;unfold handT at h0;simp at h0
 intro e;exact hF (by rw[e];rfl)
theorem RightP.some {k:Fo}(h:RightP es n k S):S≠ []:=by
 intro e;have h2:=h.text;rw[e]at h2;have h3:=(List.append_eq_nil_iff.1 h2.symm).2;unfold showZ brZ at h3;split at h3
 .simp at h3
 .exact bare_some h.own h.stands h.ex h3
theorem nodeS_cell {L cap:Nat}(h:NodeSlice w (.slice ad L cap) ns) (hk:k<ns.length):∃b off,ad=some ⟨b,off,none⟩/\b<w.heap.size/\ ∀c,c<6->w.cell? ⟨b,off+k*6+c,none⟩=some ((ns.getD k default).cell c):=by
 obtain⟨a,c,e,h⟩:=h
 cases e;rcases h with rfl|⟨b,off,e,hb,hn⟩
 .simp at hk
 .exact⟨b,off,e,hb,fun c hc=>hn k hk c hc⟩
theorem effS_cell {L cap:Nat}(h:EffSlice w (.slice ad L cap) es) (hk:k<es.length):∃b off,ad=some ⟨b,off,none⟩/\b<w.heap.size/\ ∀c,c<3->w.cell? ⟨b,off+k*3+c,none⟩=some ((es.getD k default).cell c):=by
 obtain⟨a,c,e,h⟩:=h
 cases e;rcases h with rfl|⟨b,off,e,hb,hn⟩
 .simp at hk
 .exact⟨b,off,e,hb,fun c hc=>hn k hk c hc⟩
theorem nodeS_len (h:NodeSlice w v ns):∃ad cap,v=.slice ad ns.length cap:=by
 obtain⟨a,c,e,-⟩:=h;exact⟨a,c,e⟩
theorem effS_len (h:EffSlice w v es):∃ad cap,v=.slice ad es.length cap:=by
 obtain⟨a,c,e,-⟩:=h;exact⟨a,c,e⟩
theorem same_next {α:Type}[Inhabited α] {l m:List α}(h:l.length=m.length) (hk:k<l.length) (ht:l.take k=m.take k) (he:l.getD k default=m.getD k default):l.take (k+1)=m.take (k+1):=by
 rw[List.take_add_one,List.take_add_one,ht];congr 1
 rw[List.getD_eq_getElem?_getD,List.getD_eq_getElem?_getD,List.getElem?_eq_getElem hk,List.getElem?_eq_getElem yf,Option.getD_some,Option.getD_some]at he;rw[List.getElem?_eq_getElem hk,List.getElem?_eq_getElem yf,he]
theorem not_same {α:Type}[Inhabited α] {l m:List α}{k:Nat}(he:l.getD k default≠m.getD k default):l≠m:=fun e=>he (by rw[e])
theorem bytes_inj {a b:ByteArray}(h:a.toList=b.toList):a=b:=by
 rw[ByteArray.toList_eq,ByteArray.toList_eq]at h;exact ByteArray.ext (Array.toList_inj.1 h)
theorem nd_ext {m:Nd}(h1:n.kind=m.kind) (h2:n.num=m.num) (h3:n.a.toList=m.a.toList) (h4:n.b.toList=m.b.toList) (h5:n.c.toList=m.c.toList) (h6:n.kids=m.kids):n=m:=by
 obtain⟨_,_,_,_,_,_⟩:=n;obtain⟨_,_,_,_,_,_⟩:=m;simp only[Nd.mk.injEq];exact⟨h1,h2,bytes_inj h3,bytes_inj h4,bytes_inj h5,h6⟩
theorem ef_ext {n m:Ef}(h1:n.name.toList=m.name.toList) (h2:n.arg=m.arg) (h3:n.res=m.res):n=m:=by
 obtain⟨_,_,_⟩:=n;obtain⟨_,_,_⟩:=m;simp only[Ef.mk.injEq];exact⟨bytes_inj h1,h2,h3⟩
theorem all_same {α:Type}{l m:List α}(h:l.length=m.length) (hk:¬ k<l.length) (ht:l.take k=m.take k):l=m:=by
 rwa[List.take_of_length_le yf,List.take_of_length_le yf]at ht
def TellsP (w:World) (P:Prop) (e:Ending) (w':World):Prop:=(∃b:Bool,e=.returned (.bool b)/\(b=true↔P))/\Below w.heap.size w w'
theorem hrTree_calls {u:Value}{ms:List Nd}(w:World) (hv:NodeSlice w v ns) (hu:NodeSlice w u ms) (h1:ns.length<=100000) :
 Calls prog 30 #[v,u] w (TellsP w (ns=ms)):=by
 obtain⟨av,cv,rfl⟩:=nodeS_len hv;obtain⟨au,cu,rfl⟩:=nodeS_len hu;have HC:=J (Lc hv hu);obtain⟨L,hL⟩:∃n,ns.length=n:=⟨_,rfl⟩
 obtain⟨M,hM⟩:∃n,ms.length=n:=⟨_,rfl⟩
 have HL:=J (Lc hL (Lc hM (show L<=100000 by omega)));rw[hL,hM]at HC |-;clear hv hu h1 hL hM;by_cases hne:L≠M
 .have hx:((L:Int) !=(M:Int))=true:=by rw[bne_iff_ne];omega
  have hno:=J (show ns≠ms from fun e=>hne (by rw[<-HL.o.1,<-HL.o.2.1,e]));clear hne;go_enter func30,ntmps30
  go_wp2_with fail
  go_ret;exact⟨⟨false,rfl,fun h=>qk,fun h=>absurd h hno.o⟩,Lb⟩
 have hne:L=M:=Decidable.not_not.1 hne;subst hne;have HE:=J (show ns.length=ms.length by rw[HL.o.1,HL.o.2.1]);go_enter func30,ntmps30
 go_wp2_with fail
 go_loopw [5] (fun i wr=> ∃k:Nat,i=.int .i64 (k:Int)/\k<=L/\I (ns.take k=ms.take k)/\I (Below w.heap.size w wr)) (fun i _=>L-(intOf i).toNat)
 case atStart=>exact⟨0,rfl,Li _,rfl,Lb⟩
 case round=>
  obtain⟨k,rfl,hk,HT,HB⟩:=hrel;by_cases hlt:(k:Int)<(L:Int)
  .have hkl:k<L:=by omega
   have hk0:(0:Int)<=(k:Int):=yf;have hstep:I (L-(intOf (.int .i64 ((k+1:Nat):Int))).toNat<L-(intOf (.int .i64 (k:Int))).toNat):=qz;have HK9:I (k<=100000):=ybp;obtain⟨ba,oa,rfl,hba,ca⟩:=nodeS_cell HC.o.1 (k:=k) ybq;obtain⟨bu,ou,rfl,hbu,cc⟩:=nodeS_cell HC.o.2 (k:=k) (by rw[HL.o.2.1];exact hkl);have hnx:=same_next (k:=k) HE.o ybq HT.o;have hns:= @not_same Nd _ ns ms k;obtain⟨n,hn⟩:∃n,ns.getD k default=n:=⟨_,rfl⟩
   obtain⟨m,hm⟩:∃n,ms.getD k default=n:=⟨_,rfl⟩
   rw[hn]at ca hnx hns;rw[hm]at cc hnx hns;have HNx:=J hnx;have HNs:=J hns;have HS:=J (fun(X:World) (hX:Below w.heap.size w X)=>Lc (fun c (hc:c<6)=>(hX.cell (p:=⟨ba,oa+k*6+c,none⟩) hba).trans (ca c hc)) (fun c (hc:c<6)=>(hX.cell (p:=⟨bu,ou+k*6+c,none⟩) hbu).trans (cc c hc)));clear ca cc hba hbu hn hm hnx hns hkl;go_upto_region 6 with fail
   have HBd:=J HB.o.drew;have hS:(fun X:World=>Below w.heap.size w X) wr.drew:=HBd.o;refine z30 (S:=fun X:World=>Below w.heap.size w X) yb rfl rfl ?_;generalize wr.drew=wd at*;refine pick_o 0 (.slice (some ⟨ba,oa,none⟩) L cv) hS ?_;refine pick_o 1 (.int .i64 (k:Int)) hS ?_;refine pick_o (hy:=fun w' _=>ybr) 2 (.pointer (some ⟨ba,oa+k*6,none⟩)) hS ?_
   refine z10 (i:=3) (v:=.agg #[.int .i64 n.kind,.int .i64 n.num,.string n.a,.string n.b,.string n.c,.int .i64 n.kids]) yb rfl yb yb rfl rfl (fun w' hw'=> by have q:=(HS.o w' hw').1;have q0:=q 0 yh;have q1:=q 1 yh;have q2:=q 2 yh;have q3:=q 3 yh;have q4:=q 4 yh;have q5:=q 5 yh;simp only[Nd.cell,Nat.add_zero]at q0 q1 q2 q3 q4 q5;simp[go_sem,q0,q1,q2,q3,q4,q5]) hS yd ?_;refine pick_o 4 (.slice (some ⟨bu,ou,none⟩) L cu) hS ?_;refine pick_o 5 (.int .i64 (k:Int)) hS ?_;refine pick_o (hy:=fun w' _=>ybr) 6 (.pointer (some ⟨bu,ou+k*6,none⟩)) hS ?_
   refine z10 (i:=7) (v:=.agg #[.int .i64 m.kind,.int .i64 m.num,.string m.a,.string m.b,.string m.c,.int .i64 m.kids]) yb rfl yb yb rfl rfl (fun w' hw'=> by have q:=(HS.o w' hw').2;have q0:=q 0 yh;have q1:=q 1 yh;have q2:=q 2 yh;have q3:=q 3 yh;have q4:=q 4 yh;have q5:=q 5 yh;simp only[Nd.cell,Nat.add_zero]at q0 q1 q2 q3 q4 q5;simp[go_sem,q0,q1,q2,q3,q4,q5]) hS yd ?_;by_cases hnm:n=m
   .refine z10 (i:=8) (v:=.bool false) yb rfl yb yb rfl rfl (fun w' _=>by rw[hnm];simp[go_sem]) hS yd ?_;have hT2:=HNx.o hnm;have HT2:=J hT2;refine z34 yb ?_;clear hT2 hS hnm;go_wp2_with fail
    try rw[z18 (by have:=HK9.o;omega)]
    exact⟨⟨k+1,rfl,yf,HT2,HBd⟩,hstep.o⟩
   .refine z10 (i:=8) (v:=.bool true) yb rfl yb yb rfl rfl (fun w' _=>by simp[go_sem];intros;intro hh;exact hnm (nd_ext ‹_› ‹_› ‹_› ‹_› ‹_› hh)) hS yd ?_;have HF:=J (HNs.o hnm);refine z34 yb ?_;clear hS hnm;go_wp2_with fail
    go_ret;exact⟨⟨false,rfl,fun h=>qk,fun h=>absurd h HF.o⟩,HBd.o⟩
  .have HF:=J (all_same HE.o (by rw[HL.o.1];omega) HT.o);go_wp2_with fail
   go_ret;exact⟨⟨true,rfl,fun _=>HF.o,fun _=>rfl⟩,HB.o⟩
theorem hrProg_calls {v0 v1 u0 u1:Value}{fs:List Ef}{ms:List Nd}(w:World) (h0:EffSlice w v0 es) (h1:NodeSlice w v1 ns) (k0:EffSlice w u0 fs) (k1:NodeSlice w u1 ms) (l0:es.length<=100000) (l1:ns.length<=100000) :
 Calls prog 10 #[.agg #[v0,v1],.agg #[u0,u1]] w (TellsP w (es=fs/\ns=ms)):=by
 obtain⟨hB,hA1,hA2,-⟩:=two_blocks w (.cells #[v0,v1] 26) (.cells #[u0,u1] 26);have hX:=hrTree_calls ((w.alloc (.cells #[v0,v1] 26)).alloc (.cells #[u0,u1] 26)) (h1.below hB) (k1.below hB) l1;have HC:=J (fun X (hX:Below w.heap.size w X)=>Lc (h0.below hX) (k0.below hX));obtain⟨a0,c0,rfl⟩:=effS_len h0;obtain⟨a1,c1,rfl⟩:=nodeS_len h1;obtain⟨a2,c2,rfl⟩:=effS_len k0;obtain⟨a3,c3,rfl⟩:=nodeS_len k1;obtain⟨L,hL⟩:∃n,es.length=n:=⟨_,rfl⟩
 obtain⟨M,hM⟩:∃n,fs.length=n:=⟨_,rfl⟩
 have HL:=J (Lc hL (Lc hM (show L<=100000 by omega)));rw[hL,hM]at hB hA1 hA2 hX HC |-;have HA:=J (Lc hA1 hA2);have HB:=J hB;have HX:=J hX;clear hB hA1 hA2 hX h0 h1 k0 k1 l0 l1 hL hM;by_cases hne:L≠M
 .have hx:((L:Int) !=(M:Int))=true:=by rw[bne_iff_ne];omega
  have hno:=J (show ¬ (es=fs/\ns=ms) from fun e=>hne (by rw[<-HL.o.1,<-HL.o.2.1,e.1]));clear hne;go_enter func10,ntmps10
  go_wp2_with fail
  go_ret;exact⟨⟨false,rfl,fun h=>qk,fun h=>absurd h hno.o⟩,HB.o⟩
 have hne:L=M:=Decidable.not_not.1 hne;subst hne;have HE:=J (show es.length=fs.length by rw[HL.o.1,HL.o.2.1]);go_enter func10,ntmps10
 go_wp2_with fail
 refine HX.o.mono ?_;rintro e X1 ⟨⟨b,rfl,hb⟩,hb1⟩;have HBt:=J hb;have HB1:=J (HB.o.trans (hb1.mono HB.o.size));have HA1:=J (Lc ((hb1.block w.heap.size yk).trans HA.o.1) ((hb1.block (w.heap.size+1) yn).trans HA.o.2));have HLt:=J (show w.heap.size+1<X1.heap.size from z12 HA1.o.2);clear hb hb1 HX HB HA
 cases b with
 | false=>
   have hno:=J (show ¬ (es=fs/\ns=ms) from fun e=>by have:=HBt.o.2 e.2;cases this);go_wp2_with fail
   go_ret;exact⟨⟨false,rfl,fun h=>qk,fun h=>absurd h hno.o⟩,HB1.o⟩
 | true=>
   have HNs2:=J (HBt.o.1 rfl);obtain⟨q,hq⟩:∃q,w.heap.size=q:=⟨_,rfl⟩
   have HQ:=J hq;rw[hq]at HA1 HLt |-;clear hq HBt;go_wp2_with fail
   go_loopw [5] (fun i wr=> ∃k:Nat,i=.int .i64 (k:Int)/\k<=L/\I (es.take k=fs.take k)/\I (Below X1.heap.size X1 wr)) (fun i _=>L-(intOf i).toNat)
   case atStart=>exact⟨0,rfl,Li _,rfl,Lb⟩
   case round=>
    obtain⟨k,rfl,hk,HT,HBr⟩:=hrel;have HBw:=J (HB1.o.trans (HBr.o.mono HB1.o.size));have hA3:=(HBr.o.block q (by have:=HLt.o;omega)).trans HA1.o.1;have hA4:=(HBr.o.block (q+1) HLt.o).trans HA1.o.2;have e0:=z8 hA3 0;have e1:=z8 hA4 0;simp at e0 e1;have HA3:=J (Lc hA3 hA4);clear hA3 hA4;by_cases hlt:(k:Int)<(L:Int)
    .have hkl:k<L:=by omega
     have hk0:(0:Int)<=(k:Int):=yf;have hstep:I (L-(intOf (.int .i64 ((k+1:Nat):Int))).toNat<L-(intOf (.int .i64 (k:Int))).toNat):=qz;have HK9:I (k<=100000):=ybp;obtain⟨ba,oa,rfl,hba,ca⟩:=effS_cell (HC.o w Lb).1 (k:=k) ybq;obtain⟨bu,ou,rfl,hbu,cc⟩:=effS_cell (HC.o w Lb).2 (k:=k) (by rw[HL.o.2.1];exact hkl);have hnx:=same_next (k:=k) HE.o ybq HT.o;have hns:= @not_same Ef _ es fs k;obtain⟨n,hn⟩:∃n,es.getD k default=n:=⟨_,rfl⟩
     obtain⟨m,hm⟩:∃n,fs.getD k default=n:=⟨_,rfl⟩
     rw[hn]at ca hnx hns;rw[hm]at cc hnx hns;have HNx:=J hnx;have HNs:=J (fun(h:n≠m)=>show ¬ (es=fs/\ns=ms) from fun e=>hns h e.1);have HS:=J (fun(X:World) (hX:Below w.heap.size w X)=>Lc (fun c (hc:c<3)=>(hX.cell (p:=⟨ba,oa+k*3+c,none⟩) hba).trans (ca c hc)) (fun c (hc:c<3)=>(hX.cell (p:=⟨bu,ou+k*3+c,none⟩) hbu).trans (cc c hc)));clear ca cc hba hbu hn hm hnx hns hkl;go_upto_region 6 with fail
     clear e0 e1;have HBd:=J HBr.o.drew;have hS:(fun X:World=>Below X1.heap.size X1 X) wr.drew:=HBd.o;have HZ:=J (fun(X:World) (hX:Below X1.heap.size X1 X)=>Lc (z8 ((hX.block q (by have:=HLt.o;omega)).trans HA1.o.1) 0) (Lc (z8 ((hX.block (q+1) HLt.o).trans HA1.o.2) 0) (HS.o X (HB1.o.trans (hX.mono HB1.o.size)))));refine z30 (S:=fun X:World=>Below X1.heap.size X1 X) yb rfl rfl ?_;generalize wr.drew=wd at*;refine pick_o 0 (.pointer (some ⟨q,0,none⟩)) hS ?_
     refine z10 (i:=1) (v:=.slice (some ⟨ba,oa,none⟩) L c0) yb rfl yb yb rfl rfl (fun w' hw'=> by have z:=(HZ.o w' hw').1;simp at z;simp[go_sem,z]) hS yd ?_;refine pick_o 2 (.int .i64 (k:Int)) hS ?_;refine pick_o (hy:=fun w' _=>ybr) 3 (.pointer (some ⟨ba,oa+k*3,none⟩)) hS ?_;refine z10 (i:=4) (v:=.agg #[.string n.name,.int .i64 n.arg,.int .i64 n.res]) yb rfl yb yb rfl rfl (fun w' hw'=> by have q:=(HZ.o w' hw').2.2.1;have q0:=q 0 yh;have q1:=q 1 yh;have q2:=q 2 yh;simp only[Ef.cell,Nat.add_zero]at q0 q1 q2;simp[go_sem,q0,q1,q2]) hS yd ?_
     refine pick_o 5 (.pointer (some ⟨q+1,0,none⟩)) hS ?_;refine z10 (i:=6) (v:=.slice (some ⟨bu,ou,none⟩) L c2) yb rfl yb yb rfl rfl (fun w' hw'=> by have z:=(HZ.o w' hw').2.1;simp at z;simp[go_sem,z]) hS yd ?_;refine pick_o 7 (.int .i64 (k:Int)) hS ?_;refine pick_o (hy:=fun w' _=>ybr) 8 (.pointer (some ⟨bu,ou+k*3,none⟩)) hS ?_
     refine z10 (i:=9) (v:=.agg #[.string m.name,.int .i64 m.arg,.int .i64 m.res]) yb rfl yb yb rfl rfl (fun w' hw'=> by have q:=(HZ.o w' hw').2.2.2;have q0:=q 0 yh;have q1:=q 1 yh;have q2:=q 2 yh;simp only[Ef.cell,Nat.add_zero]at q0 q1 q2;simp[go_sem,q0,q1,q2]) hS yd ?_;by_cases hnm:n=m
     .refine z10 (i:=10) (v:=.bool false) yb rfl yb yb rfl rfl (fun w' _=>by rw[hnm];simp[go_sem]) hS yd ?_;have hT2:=HNx.o hnm;have HT2:=J hT2;refine z34 yb ?_;clear hT2 hS hnm;go_wp2_with fail
      try rw[z18 (by have:=HK9.o;omega)]
      exact⟨⟨k+1,rfl,yf,HT2,HBd⟩,hstep.o⟩
     .refine z10 (i:=10) (v:=.bool true) yb rfl yb yb rfl rfl (fun w' _=>by simp[go_sem];intros;intro hh;exact hnm (ef_ext ‹_› ‹_› hh)) hS yd ?_;have HF:=J (HNs.o hnm);refine z34 yb ?_;clear hS hnm;go_wp2_with fail
      go_ret;exact⟨⟨false,rfl,fun h=>qk,fun h=>absurd h HF.o⟩,HB1.o.trans (HBd.o.mono HB1.o.size)⟩
    .have HF:=J (Lc (all_same HE.o (by rw[HL.o.1];omega) HT.o) HNs2.o);go_wp2_with fail
     go_ret;exact⟨⟨true,rfl,fun _=>HF.o,fun _=>rfl⟩,HBw.o⟩
end
section
open Go.RowKit
theorem mul_half (v s:Nat):v/2*(s+s)+v % 2*s=v*s:=by
 have h:v=v/2*2+v % 2:=yf;calc v/2*(s+s)+v % 2*s=(v/2*2+v % 2)*s:=by rw[Nat.add_mul,Nat.mul_assoc,Nat.two_mul]
  _=v*s:=by rw[<-h]
def ManyP (W:World) (e:Ending) (W':World):Prop:= ∃t:ByteArray,e=.returned (.string t)/\t.size<=20000/\Below W.heap.size W W'
theorem many_calls (S:ByteArray) (n:Nat) (hS:S.size<=10) (hn:n<=2000) (W:World):Calls prog 60 #[.string S,.int .i64 (n:Int)] W (ManyP W):=by
 have H0:I ((⟨#[]⟩:ByteArray).size+n*S.size<=20000):=by
  show 0+n*S.size<=20000;have:=Nat.mul_le_mul hn hS;omega
 have HN:=J hn;clear hn hS;go_enter func60,ntmps60
 go_wp2_with fail
 go_loopw [0,1,5] (fun s m o wr=> ∃(S' O:ByteArray) (v:Nat),s=.string S'/\m=.int .i64 (v:Int)/\o=.string O/\I (O.size+v*S'.size<=20000)/\I (v<=2000)/\I (Below W.heap.size W wr)) (fun _ m _ _=>(intOf m).toNat)
 case atStart=>exact⟨S,_,n,rfl,rfl,rfl,H0,HN,Lb⟩
 case round=>
  obtain⟨S',O,v,rfl,rfl,rfl,HO,HV,HB⟩:=hrel;clear H0 HN;by_cases hv0:v=0
  .subst hv0;have hz:¬ ((0:Int)<((0:Nat):Int)):=yf;have HF:=J (show O.size<=20000 by have:=HO.o;omega);clear HO HV;go_wp2_with fail
   go_ret;exact⟨O,rfl,HF.o,HB.o⟩
  .have hp:(0:Int)<(v:Int):=by omega
   have HM:=J (mul_half v S'.size);have HS1:I (S'.size<=v*S'.size):=Nat.le_mul_of_pos_left _ yf;have hcat:¬ 9223372036854775807<S'.size+S'.size:=by have:=HO.o;have:=HS1.o;omega
   have hcat2:¬ 9223372036854775807<O.size+S'.size:=by have:=HO.o;have:=HS1.o;omega
   have hd:I (wrap64 ((v:Int)/2)=((v/2:Nat):Int)):=by show _=_;unfold wrap64;have:=HV.o;omega
   have hlt:I ((intOf (.int .i64 ((v/2:Nat):Int))).toNat<(intOf (.int .i64 (v:Int))).toNat):=by show((v/2:Nat):Int).toNat<(v:Int).toNat;omega
   clear hv0;by_cases hb:((v:Int) % 2==1)=true
   .have h1:v % 2=1:=by have:=eq_of_beq hb;omega
    have HE:I ((O++S').size+v/2*(S'++ S').size<=20000):=by
     show _<=_;rw[ByteArray.size_append,ByteArray.size_append];have e:=HM.o;rw[h1]at e;have:=HO.o;omega
    have HV2:I (v/2<=2000):=by show _<=_;have:=HV.o;omega
    clear h1 HM HS1 HO HV;go_wp2_with fail
    rw[hd.o];exact⟨⟨S'++ S',O++S',v/2,rfl,rfl,rfl,HE,HV2,HB⟩,hlt.o⟩
   ·have HE:I (O.size+v/2*(S'++ S').size<=20000):=by
     show _<=_;rw[ByteArray.size_append];have e:=HM.o;have:=HO.o;omega
    have HV2:I (v/2<=2000):=by show _<=_;have:=HV.o;omega
    have hb':((v:Int) % 2==1)=false:=by simpa using hb
    clear hb HM HS1 HO HV;go_wp2_with fail
    rw[hd.o];exact⟨⟨S'++ S',O,v/2,rfl,rfl,rfl,HE,HV2,HB⟩,hlt.o⟩
end
end Go.Proofs.YtfbojelpdccjaaaGreatDoor
