import Derived.Test.YtbbffkiobmbkfaaGreatDoorPkV29
import Derived.RangeFuncCalls
open Go.Proofs.Tryz
open Go.Value Go.IntKind
set_option maxHeartbeats 4000000
set_option maxRecDepth 100000
namespace Go.Proofs.YtbbffkiobmbkfaaGreatDoor
open Go.RowKit
variable {d:Dr}{es:List Ef}{cs:List In}{bs:List Int}{ns:List Nd}{B L b ce ct le n:Nat}{ae at_:Option Addr}{v:Value}{W w:World}
section
open Go.RowKit
def BytesAt (w:World) (a0:Option Addr) (len:Nat):Prop:=
 0<len-> ∃b off,a0=some ⟨b,off,none⟩/\b<w.heap.size/\ ∀i,i<len-> ∃z,w.cell? ⟨b,off+i,none⟩=some (.int .u8 z)/\0<=z/\z<=255
theorem ropen_calls (a0:Option Addr) (len cap:Nat) (w:World) (hlen:len<=1000000000) (hb:len<=cap) :
 Calls prog 13 #[.slice a0 len cap] w fun e w'=> e=.returned (.pointer (some ⟨w.heap.size,0,none⟩))/\
  ∃n:Nat,n<=len/\w'= w.alloc (.cells #[.slice a0 n cap,int i64 0] 84):=by
 by_cases h:(2000:Int)<(len:Int)
 .go_enter func13,ntmps13
  go_wp2
  go_ret;exact⟨rfl,2000,ya,rfl⟩
 .go_enter func13,ntmps13
  go_wp2
  go_ret;exact⟨rfl,len,La,rfl⟩
end
section
open Go.RowKit Go.Deep
theorem set_block {i:Nat}{c:Array Value}{t:TypeId}(v:Value) (h:W.heap[B]?=some (.cells c t)):(W.setCell ⟨B,i,none⟩ v).heap[B]?=some (.cells (c.setIfInBounds i v) t):=by
 rw[setCell_eq_setRow W B i c t (0,0) v h];exact setRow_heap W B _ _ t _ h
theorem lies_two {X:World}{x y u:Value}{sz q i:Nat}{t:TypeId}{F:Nat->Value}(hz:3<=sz) (h:Lies d X v n sz F) (hq:X.heap[q]?=some (.cells #[x,y] t)):Lies d (X.setCell ⟨q,i,none⟩ u) v n sz F:=by
 rcases h with h|⟨b,off,cap,rfl,hn,rfl,hqb,hc⟩
 .exact Or.inl h
 ·refine Or.inr ⟨b,0,cap,rfl,hn,rfl,⟨by simpa[World.setCell]using hqb.1,hqb.2⟩,fun j hj=>?_⟩;have hne:b≠q:=fun e=>by
   subst e;have h2:2<n*sz:=by
    have h0:0<n:=Nat.pos_of_ne_zero (fun e=>by subst e;simp at hj);have:=Nat.mul_le_mul h0 hz;omega
   have e1:=hc 2 h2;rw[Nat.zero_add,z11 hq 2]at e1
   cases e1
  rw[<-hc j hj];exact Lj (Lg X ⟨q,i,none⟩ u b hne)
theorem treeBad (h:(L:Int)<1\/(300:Int)<(L:Int)):Calls prog 23 #[.slice at_ L ct] W fun e W'=> e=.returned (.bool false)/\Below W.heap.size W W':= by
 rcases h with h|h
 .go_enter func23,ntmps23
  go_wp2_with fail
  go_ret;exact⟨rfl,Lb⟩
 .have h1:¬ (L:Int)<1:=by omega
  go_enter func23,ntmps23
  go_wp2_with fail
  go_ret;exact⟨rfl,Lb⟩
theorem progBad (hle:(le:Int)<=8) (h:(L:Int)<1\/(300:Int)<(L:Int)):Calls prog 8 #[.agg #[.slice ae le ce,.slice at_ L ct]] W fun e W'=> e=.returned (.bool false)/\Below W.heap.size W W':= by
 have HT:=U (fun X:World=>treeBad (at_:=at_) (ct:=ct) (W:=X) h);have hb1:Below W.heap.size W (W.alloc (.cells #[.slice ae le ce,.slice at_ L ct] 26)):=Lb.alloc La _;have HB1:=U hb1;clear h hb1;go_enter func8,ntmps8
 go_wp2_with fail
 refine(HT.o _).mono ?_;rintro e X ⟨rfl,hb⟩;have HB2:=U (HB1.o.trans (hb.mono HB1.o.size));clear hb HB1;go_wp2_with fail
 go_ret;exact⟨rfl,HB2.o⟩
theorem itreeBad (h:(L:Int)<1\/(300:Int)<(L:Int)):Calls prog 37 #[.slice at_ L ct] W fun e W'=> e=.returned (.bool false)/\Below W.heap.size W W':= by
 rcases h with h|h
 .go_enter func37,ntmps37
  go_wp2_with fail
  go_ret;exact⟨rfl,Lb⟩
 .have h1:¬ (L:Int)<1:=by omega
  go_enter func37,ntmps37
  go_wp2_with fail
  go_ret;exact⟨rfl,Lb⟩
theorem iprogBad (hle:(le:Int)<=8) (h:(L:Int)<1\/(300:Int)<(L:Int)):Calls prog 15 #[.agg #[.slice ae le ce,.slice at_ L ct]] W fun e W'=> e=.returned (.bool false)/\Below W.heap.size W W':= by
 have HT:=U (fun X:World=>itreeBad (at_:=at_) (ct:=ct) (W:=X) h);have hb1:Below W.heap.size W (W.alloc (.cells #[.slice ae le ce,.slice at_ L ct] 26)):=Lb.alloc La _;have HB1:=U hb1;clear h hb1;go_enter func15,ntmps15
 go_wp2_with fail
 refine(HT.o _).mono ?_;rintro e X ⟨rfl,hb⟩;have HB2:=U (HB1.o.trans (hb.mono HB1.o.size));clear hb HB1;go_wp2_with fail
 go_ret;exact⟨rfl,HB2.o⟩
theorem effW_ofD {ad:Option Addr}{cp:Nat}(h:EffsD d W (.slice ad n cp) es):n=es.length/\EffW W ad cp es:=by
 rcases h.1 with ⟨h1,h2⟩|⟨b,off,cap,h1,h2,rfl,h4,h5⟩
 .cases h1;exact⟨h2.symm,Or.inl ⟨rfl,Lu h2,rfl⟩⟩
 .cases h1;refine⟨rfl,Or.inr ⟨b,rfl,h4.1,fun k hk c hc=>?_,h2⟩⟩;rw[Nat.zero_add];have:=h5 (k*3+c) ya;rw[Nat.zero_add]at this;rw[this];exact congrArg some (cell_div es Ef.cell 3 k c hc)
def NodeV (W:World) (v:Value) (ns:List Nd):Prop:=(v=.slice none 0 0/\ns= [])\/ ∃b cap,v=.slice (some ⟨b,0,none⟩) ns.length cap/\b<W.heap.size/\NodesAt W b 0 ns
theorem nodeV_ofD (h:NodesD d W v ns):NodeV W v ns:=by
 have hsl:=h.slice;rcases h.1 with ⟨h2,h3⟩|⟨b,off,cap,h2,h3,rfl,h4,-⟩
 .exact Or.inl ⟨h2,Lu h3⟩
 .refine Or.inr ⟨b,cap,h2,h4.1,?_⟩;obtain⟨a,c,e,h5⟩:=hsl;rw[h2]at e
  cases e;rcases h5 with rfl|⟨b',off',e',-,hn⟩
  .exact fun k hk=>gj
  .cases e';exact hn
def DrawnP (W:World) (e:Ending) (W':World):Prop:=
 ∃ad cp v es ns,e=.returned (.agg #[.slice ad es.length cp,v])/\EffW W' ad cp es/\es.length<=5/\(∀e∈es,Brief e.name)/\NodeV W' v ns/\(∀n∈ns,Brief n.a/\Brief n.b/\Brief n.c)/\ns.length<=1000/\Below W.heap.size W W'
theorem spoilP:SpoilC:=fun _ _ _ _ _ _ _ _ _ hG h hp hE he hn hT=>spoil_calls hG h hp hE he hn hT
theorem drawComp_calls (a0:Option Addr) (len cap:Nat) (W:World) (hl:len<=1048576) (hc:len<=cap) (hB:BytesAt W a0 len):Calls prog 4 #[.slice a0 len cap] W (DrawnP W):=by
 have hb0:=(Below.refl W.heap.size W).alloc La (.cells #[.slice none 0 0,.slice none 0 0] 26);have hA:=(Ld W (.cells #[.slice none 0 0,.slice none 0 0] 26)).1;obtain⟨Y,hY⟩:∃Y,W.alloc (.cells #[.slice none 0 0,.slice none 0 0] 26)=Y:=⟨_,rfl⟩
 rw[hY]at hb0 hA;have hBY:BytesAt Y a0 len:=fun h0=>by
  obtain⟨b,off,ea,hb,hz⟩:=hB h0;exact⟨b,off,ea,Le hb hb0.size,fun i hi=>by
   obtain⟨z,hz,h1⟩:=hz i hi;exact⟨z,(hb0.cell (p:=⟨b,off+i,none⟩) hb).trans hz,h1⟩⟩
 have HO:=U (ropen_calls a0 len cap Y ya hc);have HB:=U hBY;have HY:=U hY;have HA:=U hA;have HB0:=U hb0;obtain⟨q0,hq0⟩:∃q,W.heap.size=q:=⟨_,rfl⟩
 have HQ:=U hq0;clear hB hBY hb0 hA hY;go_enter func4,ntmps4
 go_upto_region 1 with fail
 rw[HY.o];clear HY;go_wp2_with fail
 refine HO.o.mono ?_;rintro e W1 ⟨rfl,m,hm,rfl⟩;have HR:O (Rdr ⟨Y.heap.size,Y.heap.size,a0,m,cap⟩ (Y.alloc (.cells #[.slice a0 m cap,int i64 0] 84)) 0):=by
  have hh:=(Ld Y (.cells #[.slice a0 m cap,int i64 0] 84)).1;refine⟨hh,fun h0=>?_⟩;obtain⟨b,off,ea,hb,hz⟩:=HB.o (show 0<len by have:0<m:=h0;omega);refine⟨b,off,ea,⟨jd,by show b≠Y.heap.size;omega,by show b≠Y.heap.size;omega⟩,fun i hi=>?_⟩;obtain⟨z,hz,h1⟩:=hz i (by have:i<m:=hi;omega);exact⟨z,(((Below.refl Y.heap.size Y).alloc La _).cell (p:=⟨b,off+i,none⟩) hb).trans hz,h1⟩
 have HC:=U (any_calls spoilP (d:=⟨Y.heap.size,Y.heap.size,a0,m,cap⟩) rfl HR.o ya);have HW:O (Below Y.heap.size Y (Y.alloc (.cells #[.slice a0 m cap,int i64 0] 84))):=Lb.alloc La _;clear HO hm;go_wp2_with fail
 refine HC.o.mono ?_;rintro e W2 ⟨ad,n,cp,v,ns,q,rfl,hN,hlen,hr2,hq,hg,es,hEs,he5⟩;have hE5:=effW_ofD hEs;obtain⟨rfl,hEW⟩:=hE5;obtain⟨adv,cpv,rfl⟩:=hN.is;have HGW:=U (HB0.o.trans ((HW.o.trans ((hg.below (n:=Y.heap.size) yq La La))).mono HB0.o.size));have HG:=U (HW.o.trans ((hg.below (n:=Y.heap.size) yq La La)));have hA2:=(HG.o.block W.heap.size (z13 HA.o)).trans HA.o;rw[HQ.o]at hA2;have HN:=U hN;have HEs:=U hEs;have HL:=U (Lc hlen he5);have hf0:=z11 hA2 0;have hf1:=z11 hA2 1;have HA2:=U hA2;obtain⟨z0,z1⟩:=ffz2 hA2;clear hg HG HC hr2 HR HW hlen he5 hEW hA2 HA hN hEs;go_wp2_with fail
 have g1:=set_block (i:=0) (.slice ad es.length cp) HA2.o;have g2:=set_block (i:=1) (.slice adv ns.length cpv) g1;have l1:=lies_two (i:=1) (u:=.slice adv ns.length cpv) yk (lies_two (i:=0) (u:=.slice ad es.length cp) yk HEs.o.1 HA2.o) g1;have l2:=lies_two (i:=1) (u:=.slice adv ns.length cpv) yk (lies_two (i:=0) (u:=.slice ad es.length cp) yk HN.o.1 HA2.o) g1;have hbX:=(HGW.o.setCell (p:=⟨q0,0,none⟩) (by show W.heap.size<=q0;omega) (.slice ad es.length cp)).setCell (p:=⟨q0,1,none⟩) (by show W.heap.size<=q0;omega) (.slice adv ns.length cpv)
 generalize (W2.setCell ⟨q0,0,none⟩ (.slice ad es.length cp)).setCell ⟨q0,1,none⟩ (.slice adv ns.length cpv)=X at*;obtain⟨y0,y1⟩:=fcl2 g2;refine bodyPost_ret (v:=.agg #[.slice ad es.length cp,.slice adv ns.length cpv]) (by simp[results,results4,go_sem,y0,y1]) rfl ?_;have hE:EffsD _ X (.slice ad es.length cp) es:=⟨l1,HEs.o.2⟩
 have hN:NodesD _ X (.slice adv ns.length cpv) ns:=⟨l2,HN.o.2⟩
 exact⟨ad,cp,_,es,ns,rfl,(effW_ofD hE).2,HL.o.2,HEs.o.2,nodeV_ofD hN,HN.o.2,HL.o.1,hbX⟩
theorem scompBad (h:Calls prog 8 #[.agg #[.slice ae le ce,.slice at_ L ct]] (W.alloc (.cells #[.slice ae le ce,.slice at_ L ct] 26)) fun e W'=> e=.returned (.bool false)/\Below (W.alloc (.cells #[.slice ae le ce,.slice at_ L ct] 26)).heap.size (W.alloc (.cells #[.slice ae le ce,.slice at_ L ct] 26)) W'):Calls prog 6 #[.agg #[.slice ae le ce,.slice at_ L ct]] W fun e W'=> e=.returned (.tuple #[.slice none 0 0,.bool false])/\Below W.heap.size W W':= by
 refine zb12 ?_;unhygienic intros
 clear h;go_enter func6,ntmps6
 go_upto_region 1 with fail
 rw[HY.o];clear HY;go_wp2_with fail
 refine HT.o.mono ?_;rintro e X1 ⟨rfl,hb2⟩;have HB2:=U (HB1.o.trans (hb2.mono HB1.o.size));clear hb2 e0 e1;go_wp2_with fail
 go_ret2
 exact⟨rfl,HB2.o⟩
theorem icompBad (h:Calls prog 15 #[.agg #[.slice ae le ce,.slice at_ L ct]] (W.alloc (.cells #[.slice ae le ce,.slice at_ L ct] 26)) fun e W'=> e=.returned (.bool false)/\Below (W.alloc (.cells #[.slice ae le ce,.slice at_ L ct] 26)).heap.size (W.alloc (.cells #[.slice ae le ce,.slice at_ L ct] 26)) W'):Calls prog 5 #[.agg #[.slice ae le ce,.slice at_ L ct]] W fun e W'=> e=.returned (.tuple #[.slice none 0 0,.bool false])/\Below W.heap.size W W':= by
 refine zb12 ?_;unhygienic intros
 clear h;go_enter func5,ntmps5
 go_upto_region 1 with fail
 rw[HY.o];clear HY;go_wp2_with fail
 refine HT.o.mono ?_;rintro e X1 ⟨rfl,hb2⟩;have HB2:=U (HB1.o.trans (hb2.mono HB1.o.size));clear hb2 e0 e1;go_wp2_with fail
 go_ret2
 exact⟨rfl,HB2.o⟩
theorem ins_atC {X:World}{g cap:Nat}(h:X.ownsRow B 53 4 (.slice (some ⟨g,0,none⟩) cs.length cap) cs.length (rowZ In.cell 4 cs)):InsAt X g 0 cs:=fun k hk c hc=>by
 rw[Nat.zero_add,h.cellAt (k*4+c) ya,z51 In.cell 4 yk cs _ ya,show(k*4+c)/4=k by omega,show(k*4+c) % 4=c by omega]
def InsC (W:World) (v:Value) (cs:List In):Prop:= ∃ad cp,v=.slice ad cs.length cp/\InsSlice W (.slice ad cs.length cp) cs/\cs.length<=cp
theorem insC_own (h:W.ownsRow B 53 4 v cs.length (rowZ In.cell 4 cs)):InsC W v cs:=by
 have h':= h;obtain⟨-,⟨rfl,h0⟩|⟨g,cap,cur,rfl,hB,hc,hr⟩⟩:=h
 .exact⟨none,0,qe,⟨none,0,rfl,Or.inl (Lu h0)⟩,ya⟩
 .exact⟨_,cap,rfl,⟨_,cap,rfl,Or.inr ⟨g,0,rfl,z13 hc,ins_atC h'⟩⟩,hr.1⟩
theorem insC_nil (W:World):InsC W (.slice none 0 0) []:=⟨none,0,rfl,⟨none,0,rfl,Or.inl rfl⟩,La⟩
def CompA (cs:List In) (x:Bool) (W:World) (e:Ending) (W':World):Prop:=
 ∃v,e=.returned (.tuple #[v,.bool x])/\InsC W' v cs/\Below W.heap.size W W'
theorem compA_of {x:Bool}(hz:CompZ es ns x cs) {f:FuncId}(h:Calls prog f #[v] W (CompR es ns W)):Calls prog f #[v] W (CompA cs x W):=by
 refine h.mono ?_;rintro e W' ⟨u,cs',x',rfl,hv,-,hB,hC⟩;obtain⟨rfl,rfl⟩:=compZ_one hC hz;exact⟨u,rfl,insC_own hv,hB⟩
theorem compA_bad {f:FuncId}(h:Calls prog f #[v] W fun e W'=> e=.returned (.tuple #[.slice none 0 0,.bool false])/\Below W.heap.size W W'):Calls prog f #[v] W (CompA [] false W):=by
 refine h.mono ?_;rintro e W' ⟨rfl,hB⟩;exact⟨_,rfl,insC_nil W',hB⟩
structure CompD (W:World) (v vt:Value) (cs:List In) (x b:Bool) (L:Nat):Prop where
 impl:∀X,Below W.heap.size W X->Calls prog 5 #[v] X (CompA cs x X)
 spec:∀X,Below W.heap.size W X->Calls prog 6 #[v] X (CompA cs x X)
 ok:∀X,Below W.heap.size W X->Calls prog 8 #[v] X fun e X'=> e=.returned (.bool b)/\Below X.heap.size X X'
 free:b=true-> ∀X,Below W.heap.size W X->Calls prog 9 #[vt] X fun e X'=> (∃ad cp,e=.returned (.slice ad L cp))/\Below X.heap.size X X'
 is:x=(b && decide (L=0))
 bad:x=false->cs= []
 val:x=true->validZ cs=true
theorem freeOf_names {u:Value}{l:List Tx}(h:NamesV W u (bys l)):∃ad cp,u=.slice ad l.length cp:=by
 have hl:(bys l).length=l.length:=by simp[bys]
 rcases h with ⟨rfl,h0⟩|⟨g,o,c,rfl,-⟩
 .rw[h0]at hl;exact⟨none,0,by rw[<-hl];rfl⟩
 .exact⟨_,c,by rw[hl]⟩
theorem comp_drawn {ad:Option Addr}{cp:Nat}(hL:Laid W) (hE:EffW W ad cp es) (he:es.length<=5) (hBe:∀e∈es,Brief e.name) (hN:NodeV W v ns) (hBn:∀n∈ns,Brief n.a/\Brief n.b/\Brief n.c) :
 ∃cs x b L,CompD W (.agg #[.slice ad es.length cp,v]) v cs x b L:=by
 by_cases hl:1<=ns.length/\ns.length<=300
 ·obtain⟨bt,cap,rfl,hb,hNA⟩:∃b cap,v=.slice (some ⟨b,0,none⟩) ns.length cap/\b<W.heap.size/\NodesAt W b 0 ns:=by
   rcases hN with ⟨-,rfl⟩|h
   .simp at hl
   .exact h
  obtain⟨T,hA,hI⟩:=answers ns;have hns:Short ns:=fun n hn=>by
   obtain⟨h1,h2,h3⟩:=hBn n hn;unfold Brief at h1 h2 h3;unfold maxLen;exact⟨ya,ya,ya⟩
  have hsh:∀e∈es,e.name.size<=maxLen:=fun e h=>by
   have:=hBe e h;unfold Brief at this;unfold maxLen;omega
  obtain⟨be,hae,hbe,hEA,hce⟩:∃be,(es≠ []->ad=some ⟨be,0,none⟩)/\be<W.heap.size/\EffsAt W be 0 es/\es.length<=cp:=by
   rcases hE with ⟨h1,rfl,h3⟩|⟨be,h1,h2,h3,h4⟩
   .exact⟨bt,fun h=>absurd rfl h,hb,fun k hk=>gj,Li _⟩
   .exact⟨be,fun _=>h1,h2,h3,h4⟩
  have hsp:∀X,Below W.heap.size W X->Calls prog 6 #[.agg #[.slice ad es.length cp,.slice (some ⟨bt,0,none⟩) ns.length cap]] X (CompR es ns X):=fun X hX=>compile_callsR (hE.below hX) ya (Le hb hX.size) (hNA.below hX hb) hl.2
  have him:∀X,Below W.heap.size W X->Calls prog 5 #[.agg #[.slice ad es.length cp,.slice (some ⟨bt,0,none⟩) ns.length cap]] X (CompR es ns X):=fun X hX=>implCompile_calls hce hae (Le hbe hX.size) (hEA.below hX hbe) ya hsh (Le hb hX.size) (hNA.below hX hb) hl.2 hns (hL.stays hX)
  have hok:∀X,Below W.heap.size W X->Calls prog 8 #[.agg #[.slice ad es.length cp,.slice (some ⟨bt,0,none⟩) ns.length cap]] X fun e X'=> e=.returned (.bool (progZ es ns T))/\Below X.heap.size X X':= fun X hX=>progOk_at (cn:=cap) (hE.below hX) ya (Le hb hX.size) (hNA.below hX hb) hl.2 hA
  cases hP:progZ es ns T with
  | false=>
    have hz:CompZ es ns false []:=Or.inl ⟨rfl,rfl,fun T' h1 h2=>by rw[spec_ans_one h1 hA,hP]at h2;cases h2⟩;exact⟨[],false,false,0,fun X hX=>compA_of hz (him X hX),fun X hX=>compA_of hz (hsp X hX),fun X hX=>yca,fun h=>ycb,rfl,fun _=>rfl,fun h=>ycb⟩
  | true=>
    have hT:=prog_trueC hP;subst hT;obtain⟨n,k,g1,g2,g3,gl,gk,gs⟩:=ans_parts hA;have hall:ns.all nodeOkZ=true:=impl_all hI;have hown:ns.all ownOk=true:=List.all_eq_true.2 fun m hm=>by
     have:=List.all_eq_true.1 hall m hm;simp only[nodeOkZ,Lq]at this;exact this.1
    have hfr:∀X,Below W.heap.size W X->Calls prog 9 #[.slice (some ⟨bt,0,none⟩) ns.length cap] X fun e X'=> (∃ad cp,e=.returned (.slice ad (freeOf (wholeW n k)).length cp))/\Below X.heap.size X X':= fun X hX=>by
     refine(specFree_calls X hl.2 (Le hb hX.size) (hNA.below hX hb) hA hown g1 g2 g3).mono ?_;rintro e X' ⟨u,rfl,hu,hB⟩;obtain⟨a,c,rfl⟩:=freeOf_names hu;exact⟨⟨a,c,rfl⟩,hB⟩
    have hokt:∀X,Below W.heap.size W X->Calls prog 8 #[.agg #[.slice ad es.length cp,.slice (some ⟨bt,0,none⟩) ns.length cap]] X fun e X'=> e=.returned (.bool true)/\Below X.heap.size X X':= fun X hX=>yca
    by_cases hf:freeOf (wholeW n k)= []
    ·have hz:CompZ es ns true (codeZ es n k):=Or.inr ⟨rfl,n,k,⟨true,hA,hP⟩,g1,g2,g3,hf,rfl⟩;refine⟨codeZ es n k,true,true,_,fun X hX=>compA_of hz (him X hX),fun X hX=>compA_of hz (hsp X hX),hokt,fun _=>hfr,by rw[hf];rfl,fun h=>ycb,fun _=>?_⟩;have hdeep:k.deep+1<=40:=by
      rcases hA with ⟨-,h⟩|⟨-,-,-,h⟩|⟨-,-,n',k',e1,e2,e3,h⟩
      .cases h
      .cases h
      .obtain⟨rfl,rfl⟩:=tree_inj g1 g2 g3 e1 e2 e3;have h':= h.symm;simp only[Lq,decide_eq_true_eq]at h';exact h'.2.1
     have hP':= hP;unfold progZ at hP';simp only[Lq,decide_eq_true_eq]at hP';exact code_valid hl.2 hP'.1 (fun m hm=>⟨List.all_eq_true.1 hown m hm,List.all_eq_true.1 hP'.2.2.2 m hm⟩) (stands_of hA g1 g2 g3) (bd_whole gk gs ((free_nil _).1 hf) 0) hdeep
    .have hz:CompZ es ns false []:=Or.inl ⟨rfl,rfl,fun _ _ _=>⟨n,k,g1,g2,g3,hf⟩⟩;refine⟨[],false,true,_,fun X hX=>compA_of hz (him X hX),fun X hX=>compA_of hz (hsp X hX),hokt,fun _=>hfr,?_,fun _=>rfl,fun h=>ycb⟩;have:(freeOf (wholeW n k)).length≠0:=fun e=>hf (Lu e)
     simp[this]
 .have hl':(ns.length:Int)<1\/(300:Int)<(ns.length:Int):=by omega
  obtain⟨av,cv,rfl⟩:∃av cv,v=.slice av ns.length cv:=by
   rcases hN with ⟨rfl,rfl⟩|⟨b,cap,h,-⟩
   .exact⟨none,0,rfl⟩
   .exact⟨_,_,h⟩
  exact⟨[],false,false,0,fun X _=>compA_bad (icompBad (iprogBad ya hl')),fun X _=>compA_bad (scompBad (progBad ya hl')),fun X _=>progBad ya hl',fun h=>ycb,rfl,fun _=>rfl,fun h=>ycb⟩
end
section
open Go.RowKit
def IsB (x:Int):Prop:=0<=x/\x<256
def num4 (x0 x1 x2 x3:Int):Int:=wrap32 (x0*16777216+x1*65536+x2*256+x3)
theorem or_step (i m a b:Nat) (hm:m=2 ^ i) (hb:b<m):(a*m) ||| b=a*m+b:=by
 subst hm;rw[Nat.mul_comm,Nat.two_pow_add_eq_or_of_lt hb]
theorem bits4 (x0 x1 x2 x3:Int) (h0:IsB x0) (h1:IsB x1) (h2:IsB x2) (h3:IsB x3) :
 bits BinOp.or IntKind.u32 (bits BinOp.or IntKind.u32 (bits BinOp.or IntKind.u32 (x0 % 4294967296*16777216 % 4294967296) (x1 % 4294967296*65536 % 4294967296)) (x2 % 4294967296*256 % 4294967296)) (x3 % 4294967296)=x0*16777216+x1*65536+x2*256+x3:=by
 obtain⟨a,rfl⟩:∃a:Nat,x0=(a:Int):=⟨x0.toNat,by unfold IsB at h0;omega⟩
 obtain⟨b,rfl⟩:∃b:Nat,x1=(b:Int):=⟨x1.toNat,by unfold IsB at h1;omega⟩
 obtain⟨c,rfl⟩:∃c:Nat,x2=(c:Int):=⟨x2.toNat,by unfold IsB at h2;omega⟩
 obtain⟨d,rfl⟩:∃d:Nat,x3=(d:Int):=⟨x3.toNat,by unfold IsB at h3;omega⟩
 unfold IsB at*;have e0:(a:Int) % 4294967296*16777216 % 4294967296=((a*16777216:Nat):Int):=ya;have e1:(b:Int) % 4294967296*65536 % 4294967296=((b*65536:Nat):Int):=ya;have e2:(c:Int) % 4294967296*256 % 4294967296=((c*256:Nat):Int):=ya;have e3:(d:Int) % 4294967296=((d:Nat):Int):=ya;rw[e0,e1,e2,e3];have f1:(a*16777216) ||| (b*65536)=(a*256+b)*65536:=by
  rw[or_step 24 16777216 a (b*65536) yk ya];omega
 rw[u32_or_nat _ _ ya ya,f1];have f2:((a*256+b)*65536) ||| (c*256)=((a*256+b)*256+c)*256:=by
  rw[or_step 16 65536 (a*256+b) (c*256) yk ya];omega
 rw[u32_or_nat _ _ ya ya,f2];have f3:(((a*256+b)*256+c)*256) ||| d=((a*256+b)*256+c)*256+d:=or_step 8 256 ((a*256+b)*256+c) d yk ya;rw[u32_or_nat _ _ ya ya,f3];omega
def numsZ (op:Int):Int:=
 if op=1\/op=2\/op=5\/op=6\/op=7\/op=10\/op=11\/op=14\/op=19\/op=22 then 1
 else if op=24\/op=25 then 2
 else if op=21 then 3
 else 0
theorem numsZ_many (op:Int):numsZ op=if manyZ op<0 then 0 else manyZ op:=by
 unfold numsZ manyZ;repeat' split
 all_goals omega
theorem insNumbers_calls (op:Int) (w:World) :
 Calls prog 75 #[int i64 op] w fun e w'=> e=.returned (int i64 (numsZ op))/\w=w':= by
 go_enter func75,ntmps75
 go_wp2
 all_goals
  go_ret;refine⟨?_,rfl⟩;simp_all[numsZ]
def insLeast (op place:Int):Int:=
 if numsZ op<=place then 0 else if op=1 then -2147483648 else if op=14 then 11 else 0
def insMost (op place:Int):Int:=
 if numsZ op<=place then 0 else if op=1 then 2147483647 else if op=14 then 15 else if op=2\/(op=21/\place=1) then 1 else 65535
theorem insRange_calls (op place:Int) (w:World) :
 Calls prog 111 #[int i64 op,int i64 place] w fun e w'=> e=.returned (.tuple #[int i64 (insLeast op place),int i64 (insMost op place)])/\w=w':= by
 go_enter func111,ntmps111
 go_wp2_with fail
 refine(insNumbers_calls _ _).mono ?_;rintro e w1 ⟨rfl,rfl⟩;go_wp2_with fail
 all_goals
  go_ret2
  refine⟨?_,rfl⟩;simp_all[insLeast,insMost]
theorem insOkZ_out {op:Int}(a b c:Int) (h:op<0\/25<op):insOkZ op a b c=false:=by
 have:manyZ op= -1:=by
  unfold manyZ;(iterate 4 rw[if_neg ya])
 unfold insOkZ;rw[this];simp
theorem insOkZ_in {op:Int}(a b c:Int) (h0:0<=op) (h1:op<=25) :
 insOkZ op a b c=decide ((insLeast op 0<=a/\a<=insMost op 0)/\(insLeast op 1<=b/\b<=insMost op 1)/\(insLeast op 2<=c/\c<=insMost op 2)):=by
 rcases ops_cases op with h|h|h|h|h|h|h|h|h|h|h|h|h|h|h|h|h|h|h|h|h|h|h|h|h|h|h
 case inl=>omega
 all_goals
  subst h;simp only[insOkZ,manyZ,insLeast,insMost,numsZ];apply Bool.eq_iff_iff.mpr;simp;try omega
theorem implInsOk_calls (op a b c:Int) (w:World) :
 Calls prog 74 #[.agg #[int i64 op,int i64 a,int i64 b,int i64 c]] w fun e w'=> e=.returned (.bool (insOkZ op a b c))/\Below w.heap.size w w':= by
 have hop:op<0\/(0<=op/\25<op)\/(0<=op/\op<=25):=ya;rcases hop with h|⟨h,h'⟩|⟨h,h'⟩
 .rw[insOkZ_out a b c (Or.inl h)];go_enter func74,ntmps74
  go_wp2_with fail
  go_ret;exact⟨rfl,Lb.alloc La _⟩
 .rw[insOkZ_out a b c (Or.inr h')];go_enter func74,ntmps74
  go_wp2_with fail
  go_ret;exact⟨rfl,Lb.alloc La _⟩
 .have H0:O (∀w,_):=fun w=>insRange_calls op 0 w
  have H1:O (∀w,_):=fun w=>insRange_calls op 1 w
  have H2:O (∀w,_):=fun w=>insRange_calls op 2 w
  rw[insOkZ_in a b c h h'];generalize insLeast op 0=l0 at*;generalize insLeast op 1=l1 at*;generalize insLeast op 2=l2 at*;generalize insMost op 0=m0 at*;generalize insMost op 1=m1 at*;generalize insMost op 2=m2 at*;have i0:∀w,(Instr.index 188 (.agg #[int i64 a,int i64 b,int i64 c]) (int i64 0)).run prog w=.ok (int i64 a) w:=fun _=>ye
  have i1:∀w,(Instr.index 188 (.agg #[int i64 a,int i64 b,int i64 c]) (int i64 1)).run prog w=.ok (int i64 b) w:=fun _=>ye
  have i2:∀w,(Instr.index 188 (.agg #[int i64 a,int i64 b,int i64 c]) (int i64 2)).run prog w=.ok (int i64 c) w:=fun _=>ye
  generalize hr:decide ((l0<=a/\a<=m0)/\(l1<=b/\b<=m1)/\(l2<=c/\c<=m2))=r;have HF:O (¬ ((l0<=a/\a<=m0)/\(l1<=b/\b<=m1)/\(l2<=c/\c<=m2))->r=false):=fun hn=>by rw[<-hr];exact decide_eq_false hn
  have HT:O (((l0<=a/\a<=m0)/\(l1<=b/\b<=m1)/\(l2<=c/\c<=m2))->r=true):=fun hn=>by rw[<-hr];exact decide_eq_true hn
  clear hr;go_enter func74,ntmps74
  go_wp2_with fail
  refine wp_loop_rounds 4 ?_;rw[rounds_succ];go_wp2_with fail
  refine(H0.o _).mono ?_;rintro e w1 ⟨rfl,rfl⟩;have ha:a<l0\/(l0<=a/\m0<a)\/(l0<=a/\a<=m0):=ya;rcases ha with ha|⟨ha,ha'⟩|⟨ha,ha'⟩
  .go_wp2_with fail
   go_ret;exact⟨ycc,Lb.alloc La _⟩
  .go_wp2_with fail
   go_ret;exact⟨ycc,Lb.alloc La _⟩
  go_wp2_with fail
  rw[rounds_succ];go_wp2_with fail
  refine(H1.o _).mono ?_;rintro e w1 ⟨rfl,rfl⟩;have hb:b<l1\/(l1<=b/\m1<b)\/(l1<=b/\b<=m1):=ya;rcases hb with hb|⟨hb,hb'⟩|⟨hb,hb'⟩
  .go_wp2_with fail
   go_ret;exact⟨ycc,Lb.alloc La _⟩
  .go_wp2_with fail
   go_ret;exact⟨ycc,Lb.alloc La _⟩
  go_wp2_with fail
  rw[rounds_succ];go_wp2_with fail
  refine(H2.o _).mono ?_;rintro e w1 ⟨rfl,rfl⟩;have hc:c<l2\/(l2<=c/\m2<c)\/(l2<=c/\c<=m2):=ya;rcases hc with hc|⟨hc,hc'⟩|⟨hc,hc'⟩
  .go_wp2_with fail
   go_ret;exact⟨ycc,Lb.alloc La _⟩
  .go_wp2_with fail
   go_ret;exact⟨ycc,Lb.alloc La _⟩
  go_wp2_with fail
  rw[rounds_succ];go_wp2_with fail
  go_ret;exact⟨by rw[HT.o ya];rfl,Lb.alloc La _⟩
def insMany (op:Int):Nat:=(numsZ op).toNat
theorem insMany_le (op:Int):insMany op<=3:=by
 unfold insMany numsZ;repeat' split
 all_goals omega
theorem many_eq (op:Int):(manyZ op).toNat=insMany op:=by
 unfold insMany;rw[numsZ_many];split<;>omega
def numAt (r:List Int) (k:Nat):Int:=num4 (r.getD k 0) (r.getD (k+1) 0) (r.getD (k+2) 0) (r.getD (k+3) 0)
def insOf (op:Int) (r:List Int):In:=
 ⟨op,if 0<insMany op then numAt r 0 else 0,if 1<insMany op then numAt r 4 else 0,if 2<insMany op then numAt r 8 else 0⟩
def parseGo:Nat->List Int->Option (List In)
 |_,[]=>some []
 |0,_::_=>none
 |f+1,op::r=>if 4*insMany op<=r.length then (parseGo f (r.drop (4*insMany op))).map (insOf op r:: ·) else none
theorem parse_fuel:∀(f g:Nat) (l:List Int),l.length<=f->l.length<=g->parseGo f l=parseGo g l
 |_,_,[],_,_=>by simp[parseGo]
 |0,_,_::_,h,_=>vy
 |_,0,_::_,_,h=>vy
 | f+1,g+1,op::r,h,h'=> by
   simp only[Ll]at h h';rw[parseGo,parseGo,parse_fuel f g (r.drop (4*insMany op)) jd jd]
def parse (l:List Int):Option (List In):=parseGo l.length l
theorem parse_cons (op:Int) (r:List Int):parse (op::r)=if 4*insMany op<=r.length then (parse (r.drop (4*insMany op))).map (insOf op r:: ·) else none:=by
 unfold parse;rw[Ll,parseGo,parse_fuel r.length (r.drop (4*insMany op)).length (r.drop (4*insMany op)) yq La]
theorem numAt_drop (r:List Int) (j k:Nat):numAt (r.drop j) k=numAt r (j+k):=by
 unfold numAt;simp only[List.getD,List.getElem?_drop,Nat.add_assoc]
def readZ (bs:List Int):Option (List In):=
 if 20000<bs.length\/bs.take 3≠headBytes then none else
  match parse (bs.drop 3) with
  |none=>none
  |some c=>if codeOkZ c then some c else none
theorem read_none (bs:List Int) (h:parse (bs.drop 3)=none):readZ bs=none:=by
 unfold readZ;rw[h];split<;>rfl
def insRow (cs:List In):List Value:=cs.flatMap fun i=> [int i64 i.op,int i64 i.a,int i64 i.b,int i64 i.c]
def OwnsI (B:Nat) (w:World) (v:Value) (cs:List In):Prop:=w.ownsRow B 53 4 v cs.length (insRow cs)
def BytesIs (w:World) (b off:Nat) (bs:List Int):Prop:= ∀k,k<bs.length->w.cell? ⟨b,off+k,none⟩=some (.int .u8 (bs.getD k 0))
theorem BytesIs.below {w':World}{off:Nat}(h:BytesIs w b off bs) (hb:Below B w w') (hB:b<B):BytesIs w' b off bs:=
 fun k hk=>(hb.cell (p:=⟨b,off+k,none⟩) hB).trans (h k hk)
theorem bytes_isB (hB:∀x∈bs,IsB x) (k:Nat) (hk:k<bs.length):IsB (bs.getD k 0):=hB _ (by simp[List.getD,Lr hk])
theorem insRow_at:∀(cs:List In) (i:Nat),i<cs.length*4->(insRow cs).getD i undef=insCells cs i
 |[],i,h=>vy
 | x::r,i,h=>by
   show([Value.int .i64 x.op,int i64 x.a,int i64 x.b,int i64 x.c]++insRow r).getD i undef=_;match i,h with
   |0,_=>rfl
   |1,_=>rfl
   |2,_=>rfl
   |3,_=>rfl
   | j+4,h=>
     have h1:=insRow_at r j (by simp at h;omega);rw[show([Value.int .i64 x.op,int i64 x.a,int i64 x.b,int i64 x.c]++insRow r).getD (j+4) undef=(insRow r).getD j undef by simp[List.getD],h1];unfold insCells;rw[show(j+4)/4=j/4+1 by omega,show(j+4) % 4=j % 4 by omega];rfl
theorem OwnsI.sliceR (h:OwnsI B w v cs):SliceR 53 4 B w v cs.length (insCells cs):=by
 obtain⟨ad,cap,rfl,h'⟩:=sliceR_of_owns h;refine⟨ad,cap,rfl,h'.imp id ?_⟩;rintro⟨g,rfl,hB,hr⟩;exact⟨g,rfl,hB,hr.congr (fun i hi=>insRow_at cs i hi)⟩
def byteStr (bs:List Int):ByteArray:=⟨(bs.map fun x=>UInt8.ofNat x.toNat).toArray⟩
theorem byteStr_inj {xs:List Int}(ha:∀x∈xs,IsB x) (hb:∀x∈bs,IsB x) (h:byteStr xs=byteStr bs):xs=bs:=by
 have h1:(xs.map fun x=>UInt8.ofNat x.toNat)=bs.map fun x=>UInt8.ofNat x.toNat:=by
  have:=congrArg (fun b=>b.data.toList) h;simpa[byteStr]using this
 induction xs generalizing bs with
 | nil=>cases bs with
   |nil=>rfl
   |cons y r=>simp at h1
 | cons x r ih=>cases bs with
   |nil=>simp at h1
   | cons y t=>
     simp only[List.map_cons,List.cons.injEq]at h1;have hx:=ha x yq;have hy:=hb y yq;unfold IsB at hx hy;have e:x=y:=by
      have:=congrArg UInt8.toNat h1.1;simp at this;omega
     rw[e,ih (fun z hz=>ha z ycd) (fun z hz=>hb z ycd) (by unfold byteStr;rw[h1.2]) h1.2]
theorem bytes_string (w:World) (b off cap:Nat) (bs:List Int) (hB:∀x∈bs,IsB x) (h:BytesIs w b off bs) :
 (convert 22 9 (.slice (some ⟨b,off,none⟩) bs.length cap)).run prog w=.ok (.string (byteStr bs)) w:=by
 have h1:=run_convert_bytes_back (P:=prog) w 22 9 5 ⟨b,off,none⟩ cap (bs.map fun x=>UInt8.ofNat x.toNat) underlying22 underlying5 underlying9 (fun i hi=>by
  have hi':i<bs.length:=by simpa using hi
  have hx:=bytes_isB hB i hi';have:=h i hi';simp only[Addr.add,List.getElem_map];rw[show(if i=0 then (⟨b,off,none⟩:Addr) else ⟨b,off+i,none⟩)=⟨b,off+i,none⟩ by split<;>simp_all,this]
  unfold IsB at hx;simp only[List.getD,Lr hi',Option.getD_some]at hx |-;simp;omega)
 simpa[byteStr]using h1
theorem enc_isB (cs:List In):∀x∈codeBytesZ cs,IsB x:=by
 have h4:∀n:Int,∀x∈four n,IsB x:=by
  intro n x hx;unfold four at hx;unfold IsB;simp at hx;omega
 intro x hx;unfold codeBytesZ at hx;rcases List.mem_append.1 hx with h|h
 .unfold headBytes at h;unfold IsB;simp at h;omega
 .obtain⟨i,_,hi⟩:=List.mem_flatMap.1 h;rcases List.mem_cons.1 hi with rfl|hi
  .unfold IsB;omega
  .obtain⟨n,_,hn⟩:=List.mem_flatMap.1 hi;exact h4 n x hn
def upToN (r:List Int) (k j:Nat):Int:=if j<k then numAt r (4*j) else 0
theorem bits4w (x0 x1 x2 x3:Int) (h0:IsB x0) (h1:IsB x1) (h2:IsB x2) (h3:IsB x3) :
 IntKind.i64.wrap (IntKind.i32.wrap (bits BinOp.or IntKind.u32 (bits BinOp.or IntKind.u32 (bits BinOp.or IntKind.u32 (IntKind.u32.wrap (IntKind.u32.wrap x0*16777216)) (IntKind.u32.wrap (IntKind.u32.wrap x1*65536))) (IntKind.u32.wrap (IntKind.u32.wrap x2*256))) (IntKind.u32.wrap x3)))=num4 x0 x1 x2 x3:=by
 simp only[IntKind.wrap_u32'];rw[bits4 x0 x1 x2 x3 h0 h1 h2 h3,IntKind.wrap_i64,IntKind.wrap_i32];unfold num4 wrap32;omega
theorem upTo_set {g k:Nat}{r:List Int}{t:TypeId}(hk:k<3) (h:w.heap[g]?=some (.cells #[int i64 (upToN r k 0),int i64 (upToN r k 1),int i64 (upToN r k 2)] t)) :
 (w.setCell ⟨g,k,none⟩ (int i64 (numAt r (k*4)))).heap[g]?=some (.cells #[int i64 (upToN r (k+1) 0),int i64 (upToN r (k+1) 1),int i64 (upToN r (k+1) 2)] t):=by
 match k,hk with
 |0,_=>simp[World.setCell,Array.getElem?_modify,h,upToN]
 |1,_=>simp[World.setCell,Array.getElem?_modify,h,upToN]
 |2,_=>simp[World.setCell,Array.getElem?_modify,h,upToN]
theorem insWith_calls (b off cap mm:Nat) (op:Int) (r:List Int) (w:World) (hB:∀x∈r,IsB x) (hn:BytesIs w b off r) (hl:r.length=4*mm) (hm:mm<=3) (hcap:4*mm<=cap) (hb:b<w.heap.size) :
 Calls prog 78 #[int i64 op,.slice (some ⟨b,off,none⟩) (4*mm) cap] w fun e w'=> e=.returned (.agg #[int i64 op,int i64 (upToN r mm 0),int i64 (upToN r mm 1),int i64 (upToN r mm 2)])/\Below w.heap.size w w':= by
 have HB:=U hB;have HN:=U hn;have HL:=U hl;clear hB hn hl;obtain⟨ln,hln⟩:∃ln,4*mm=ln:=⟨_,rfl⟩
 have HLN:=U hln;have hdiv2:((ln:Int))/4=(mm:Int):=by rw[<-hln];omega
 rw[hln];rw[hln]at hcap;have hwm:wrap64 (mm:Int)=(mm:Int):=qs;clear hln;go_enter func78,ntmps78
 go_wp2_with fail
 have h1:=(Ld (w.alloc (.cells #[int i64 0,int i64 0,int i64 0,int i64 0] 53)) (.cells #[int i64 0,int i64 0,int i64 0] 188)).1;have h0:=(Ld w (.cells #[int i64 0,int i64 0,int i64 0,int i64 0] 53)).1;rw[World.size_alloc]at h1;have h0':= (Below.heap_alloc (w.alloc (.cells #[int i64 0,int i64 0,int i64 0,int i64 0] 53)) (.cells #[int i64 0,int i64 0,int i64 0] 188) w.heap.size yq).trans h0;have hnx0:=((Below.refl w.heap.size w).alloc La (.cells #[int i64 0,int i64 0,int i64 0,int i64 0] 53)).alloc yq (.cells #[int i64 0,int i64 0,int i64 0] 188);clear h0
 generalize (w.alloc (.cells #[int i64 0,int i64 0,int i64 0,int i64 0] 53)).alloc (.cells #[int i64 0,int i64 0,int i64 0] 188)=W1 at*;go_loopw [11] (fun i wr=> ∃k:Nat,i=int i64 k/\k<=mm/\wr.heap[w.heap.size+1]?=some (.cells #[int i64 (upToN r k 0),int i64 (upToN r k 1),int i64 (upToN r k 2)] 188)/\
  wr.heap[w.heap.size]?=some (.cells #[int i64 0,int i64 0,int i64 0,int i64 0] 53)/\Below w.heap.size w wr) (fun i _=>mm-(intOf i).toNat)
 case atStart=>exact⟨0,rfl,Li _,h1,h0',hnx0⟩
 case round=>
  obtain⟨k,rfl,hk,hg1,hg0,hnx⟩:=hrel;clear h1 h0' hnx0;by_cases hkl:(k:Int)<(mm:Int)
  .have hk4:k*4+3<r.length:=by rw[HL.o];omega
   have hBA:=HN.o.below hnx hb;have c0:=hBA (k*4) ya;have c1:wr.cell? ⟨b,off+k*4+1,none⟩=some (.int .u8 (r.getD (k*4+1) 0)):=hBA (k*4+1) ya;have c2:wr.cell? ⟨b,off+k*4+2,none⟩=some (.int .u8 (r.getD (k*4+2) 0)):=hBA (k*4+2) ya;have c3:wr.cell? ⟨b,off+k*4+3,none⟩=some (.int .u8 (r.getD (k*4+3) 0)):=hBA (k*4+3) hk4;have b0:=bytes_isB HB.o (k*4) ya;have b1:=bytes_isB HB.o (k*4+1) ya;have b2:=bytes_isB HB.o (k*4+2) ya;have b3:=bytes_isB HB.o (k*4+3) hk4;have HBI:=U (bits4w _ _ _ _ b0 b1 b2 b3)
   have HNA:O (numAt r (k*4)=num4 (r.getD (k*4) 0) (r.getD (k*4+1) 0) (r.getD (k*4+2) 0) (r.getD (k*4+3) 0)):=rfl;clear b0 b1 b2 b3 hBA hk4;generalize r.getD (k*4) 0=x0 at*;generalize r.getD (k*4+1) 0=x1 at*;generalize r.getD (k*4+2) 0=x2 at*;generalize r.getD (k*4+3) 0=x3 at*;have hq4:(k:Int)*4<=(ln:Int):=by have:=HLN.o;omega
   have hq0:(0:Int)<=(k:Int)*4:=ya;have hq5:(ln:Int)<=(cap:Int):=ya;have hk3:(k:Int)<3:=ya;have HS:O (4<=ln-k*4):=by show _<=_;have:=HLN.o;omega
   have d0:=z11 hg1 k;have f0:=z15 hg1 k;rw[show(#[int i64 (upToN r k 0),int i64 (upToN r k 1),int i64 (upToN r k 2)]:Array Value)[k]?=some (int i64 0) by
    match k,(show k<3 by omega) with
    |0,_=>rfl
    |1,_=>rfl
    |2,_=>rfl]at d0
   go_wp2_with fail
   have hlt1:=z13 hg1;generalize ln-k*4=n4 at*;have g0:(0:Int)<(n4:Int):=yce;have gn0:0<n4:=yce;have hbn:b≠w.heap.size+1:=ya;have hbn':¬ w.heap.size+1=b:=ya;have g1:(1:Int)<(n4:Int):=yce;have g2:(2:Int)<(n4:Int):=yce;have g3:(3:Int)<(n4:Int):=yce;go_region_held3 (fun w'=> w'.cell? ⟨b,off+k*4,none⟩=some (.int .u8 x0)/\w'.cell? ⟨b,off+k*4+1,none⟩=some (.int .u8 x1)/\w'.cell? ⟨b,off+k*4+2,none⟩=some (.int .u8 x2)/\w'.cell? ⟨b,off+k*4+3,none⟩=some (.int .u8 x3)) (go_keep) (fail)
   all_goals
    rw[HBI.o,<-HNA.o];have hset:=upTo_set (r:=r) (show k<3 by omega) hg1;have hg0':= (Lg wr ⟨w.heap.size+1,k,none⟩ (int i64 (numAt r (k*4))) w.heap.size yq).trans hg0;have hnx':= hnx.setCell (p:=⟨w.heap.size+1,k,none⟩) yq (int i64 (numAt r (k*4)));clear hg0 hg1 hnx d0 f0;generalize wr.setCell ⟨w.heap.size+1,k,none⟩ (int i64 (numAt r (k*4)))=W9 at*;go_wp2_with fail
    have hs:mm-(intOf (int i64 ((k+1:Nat):Int))).toNat<mm-(intOf (int i64 (k:Int))).toNat:=yu;try rw[show((k:Int)+1)=((k+1:Nat):Int) from rfl]
    exact⟨⟨k+1,rfl,ya,hset,hg0',hnx'.drew⟩,hs⟩
  .have hke:k=mm:=by omega
   subst hke;obtain⟨q0,q1,q2⟩:=fcl3 hg1;have z0:=z11 hg0 0;have z1:=z11 hg0 1;have z2:=z11 hg0 2;have z3:=z11 hg0 3;have y0:=z15 hg0 0;have y1:=z15 hg0 1;have y2:=z15 hg0 2;have y3:=z15 hg0 3;simp at z0 z1 z2 z3;have hlt0:=z13 hg0;have hlt1:=z13 hg1;clear hg0 hg1;go_wp2_with fail
   refine bodyPost_ret (v:=.agg #[int i64 op,int i64 (upToN r k 0),int i64 (upToN r k 1),int i64 (upToN r k 2)]) (by simp[results,results78,go_sem,z0,z1,z2,z3]) rfl ⟨rfl,?_⟩;repeat(first|exact hnx|refine Below.setCell ?_ yq _)
attribute [local go_sem] Oper.semAt_some
def tellsGo:Nat->List Int->List (In×Bool)
 |_,[]=> []
 |0,_::_=> []
 |f+1,op::r=>if 4*insMany op<=r.length then (insOf op r,true)::tellsGo f (r.drop (4*insMany op)) else [(⟨op,0,0,0⟩,false)]
theorem tells_fuel:∀(f g:Nat) (l:List Int),l.length<=f->l.length<=g->tellsGo f l=tellsGo g l
 |_,_,[],_,_=>by simp[tellsGo]
 |0,_,_::_,h,_=>vy
 |_,0,_::_,_,h=>vy
 | f+1,g+1,op::r,h,h'=> by
   simp only[Ll]at h h';simp only[tellsGo];rw[tells_fuel f g (r.drop (4*insMany op)) jd jd]
def tells (l:List Int):List (In×Bool):=tellsGo l.length l
theorem tells_cons (op:Int) (r:List Int):tells (op::r)=if 4*insMany op<=r.length then (insOf op r,true)::tells (r.drop (4*insMany op)) else [(⟨op,0,0,0⟩,false)]:=by
 unfold tells;rw[Ll,tellsGo,tells_fuel r.length (r.drop (4*insMany op)).length (r.drop (4*insMany op)) yq La]
theorem tells_parse:∀(n:Nat) (l:List Int),l.length<=n->(∃c,parse l=some c/\tells l=c.map (fun i=>(i,true)))\/(parse l=none/\ ∃(c:List In) (i:In),tells l=c.map (fun i=>(i,true))++ [(i,false)])
 |_,[],_=>Or.inl ⟨[],rfl,rfl⟩
 |0,_::_,h=>vy
 | n+1,op::r,h=>by
   simp only[Ll]at h;rw[parse_cons,tells_cons];by_cases hl:4*insMany op<=r.length
   .rw[if_pos hl,if_pos hl];rcases tells_parse n (r.drop (4*insMany op)) jd with ⟨c,h1,h2⟩|⟨h1,c,i,h2⟩
    .exact Or.inl ⟨insOf op r::c,jp,by rw[h2];rfl⟩
    .exact Or.inr ⟨jp,insOf op r::c,i,by rw[h2];rfl⟩
   .rw[if_neg hl,if_neg hl];exact Or.inr ⟨rfl,[],_,rfl⟩
theorem numsZ_nonneg (op:Int):0<=numsZ op:=by
 unfold numsZ;repeat' split
 all_goals omega
def inV (i:In):Value:=.agg #[int i64 i.op,int i64 i.a,int i64 i.b,int i64 i.c]
def iterLeft (Bn:Nat) (p:Value) (W:World):Nat:=
 match p with
 | .bool true=>(match W.cell? ⟨Bn,0,none⟩ with
   |some (.slice _ n _)=>n+1
   |_=>0)
 |_=>0
theorem iterLeft_false (Bn:Nat) (W:World):iterLeft Bn (.bool false) W=0:=rfl
theorem iterLeft_true {Bn:Nat}{a:Option Addr}{c:Nat}(h:W.cell? ⟨Bn,0,none⟩=some (.slice a n c)):iterLeft Bn (.bool true) W=n+1:=by
 unfold iterLeft;rw[h]
theorem upTo_insOf (op:Int) (r:List Int):inV (insOf op r)=.agg #[int i64 op,int i64 (upToN (r.take (4*insMany op)) (insMany op) 0),int i64 (upToN (r.take (4*insMany op)) (insMany op) 1),int i64 (upToN (r.take (4*insMany op)) (insMany op) 2)]:=by
 have hn:∀j,j<insMany op->numAt (r.take (4*insMany op)) (4*j)=numAt r (4*j):=fun j hj=>by
  unfold numAt;simp only[List.getD];rw[List.getElem?_take_of_lt ya,List.getElem?_take_of_lt ya,List.getElem?_take_of_lt ya,List.getElem?_take_of_lt ya]
 have he:∀j,upToN (r.take (4*insMany op)) (insMany op) j=if j<insMany op then numAt r (4*j) else 0:=fun j=>by
  unfold upToN;by_cases h:j<insMany op
  .rw[if_pos h,if_pos h,hn j h]
  .rw[if_neg h,if_neg h]
 rw[he 0,he 1,he 2];rfl
theorem box4_set {t:TypeId}{x0 x1 x2 x3:Value}(h:w.heap[b]?=some (.cells #[x0,x1,x2,x3] t)) (a0 a1 a2 a3:Value):((((w.setCell ⟨b,0,none⟩ a0).setCell ⟨b,1,none⟩ a1).setCell ⟨b,2,none⟩ a2).setCell ⟨b,3,none⟩ a3).heap[b]?=some (.cells #[a0,a1,a2,a3] t):=by
 simp[World.setCell,Array.getElem?_modify,h]
theorem box1_set {t:TypeId}{x0:Value}(h:w.heap[b]?=some (.cells #[x0] t)) (a0:Value):(w.setCell ⟨b,0,none⟩ a0).heap[b]?=some (.cells #[a0] t):=by
 simp[World.setCell,Array.getElem?_modify,h]
theorem iter_in (g Bn l:Nat) (J Jx:List (In×Bool)->World->Prop) (rest:List Int) (hB:∀x∈rest,IsB x) (hlen:rest.length<=20000) (hgB:g≠Bn)
 (hJb:∀s A B,J s A->Below A.heap.size A B->J s B) (hJs:∀s A v,J s A->J s (A.setCell ⟨Bn,0,none⟩ v))
 (hY:∀pre x W,J pre W->(∃post,tells rest=pre++x::post)->YieldAt Fence.wide 0 prog l #[inV x.1,.bool x.2] W fun e W'=> (e=.returned (.bool true)/\J (pre++ [x]) W'/\W'.heap[Bn]?=W.heap[Bn]?/\W'.heap[g]?=W.heap[g]?/\W.heap.size<=W'.heap.size)\/(e=.returned (.bool false)/\Jx (pre++ [x]) W'))
 (W:World) (o c:Nat) (hc:W.heap[Bn]?=some (.cells #[.slice (some ⟨g,o,none⟩) rest.length c] 22)) (hr:rest.length<=c) (hbt:BytesIs W g o rest) (hgl:g<W.heap.size) (h0:J [] W) :
 CallsIn Fence.wide 0 prog 77 #[.func (.yield l) #[] #[],.pointer (some ⟨Bn,0,none⟩)] W fun e W'=> (∃v,e=.returned v)/\(J (tells rest) W'\/ ∃pre x post,tells rest=pre++x::post/\Jx (pre++ [x]) W'):=by
 have HB:=U hB;have HLn:=U hlen;have HJb:=U hJb;have HJs:=U hJs;have HY:=U hY;have HBt:=U hbt;have H0:=U h0;clear hB hlen hJb hJs hY hbt h0;obtain⟨hc0,hz0⟩:W.cell? ⟨Bn,0,none⟩=some (.slice (some ⟨g,o,none⟩) rest.length c)/\W.frozen? ⟨Bn,0,none⟩=false:=⟨by simp[World.cell?,hc],by simp[World.frozen?,hc]⟩
 have hro:Fence.wide.round=none:=rfl;refine callsIn_of_wp func77 rfl trivial ?_ hro;simp only[ntmps77,List.size_toArray,Ll,Lm,Nat.reduceAdd,Nat.reduceSub,Array.replicate_succ,Array.replicate_zero,List.push_toArray,List.append_toArray,List.nil_append,Ln];gi_wp2
 gi_loopw [3] (fun p wr=> ∃(b:Bool) (pre:List (In×Bool)) (rst:List Int) (o c:Nat),p=.bool b/\O (tells rest=pre++(if b then tells rst else []))/\wr.heap[Bn]?=some (.cells #[.slice (some ⟨g,o,none⟩) rst.length c] 22)/\O (rst.length<=c/\rst.length<=20000)/\O (BytesIs wr g o rst)/\g<wr.heap.size/\O (∀x∈rst,IsB x)/\O (J pre wr)) (fun p wr=>iterLeft Bn p wr)
 case atStart=>exact⟨true,[],rest,o,c,rfl,by show _=_;simp,hc,⟨hr,HLn.o⟩,HBt,hgl,HB,H0⟩
 case round=>
  obtain⟨b,pre,rst,o,c,rfl,HT,hcn,HRc,HBr,hgr,HBs,HJ⟩:=hrel;have q0:wr.cell? ⟨Bn,0,none⟩=some (.slice (some ⟨g,o,none⟩) rst.length c):=by simp[World.cell?,hcn]
  have z0:wr.frozen? ⟨Bn,0,none⟩=false:=by simp[World.frozen?,hcn]
  cases b with
  | false=>
    gi_wp2_with fail
    go_end0
    have e:=HT.o;simp at e;exact⟨⟨_,rfl⟩,Or.inl (by rw[e];exact HJ.o)⟩
  | true=>
    cases rst with
    | nil=>
      simp only[Lm]at q0;gi_wp2_with fail
      go_end0
      have e:=HT.o;simp[tells,tellsGo]at e;exact⟨⟨_,rfl⟩,Or.inl (by unfold tells;rw[e];exact HJ.o)⟩
    | cons op r=>
      simp only[Ll]at q0;have hln:(0:Int)<((r.length+1:Nat):Int):=ya;have c1:wr.cell? ⟨g,o,none⟩=some (.int .u8 op):=by
       have e:=HBr.o 0 yq;simpa using e
      have HOp:O (IsB op):=HBs.o op yq;obtain⟨m,hm,hm3⟩:∃m:Nat,insMany op=m/\m<=3:=⟨_,rfl,insMany_le op⟩
      have HMm:=U hm;have HNz:O (numsZ op=(m:Int)):=by
       show _=_;have:=numsZ_nonneg op;rw[<-hm];unfold insMany;omega
      clear hm;obtain⟨n,hn⟩:∃n,r.length=n:=⟨_,rfl⟩
      have HN:=U hn;rw[hn]at q0 hln;clear hn;have hwo:wrap64 op=op:=by
       have:=HOp.o;unfold IsB at this;unfold wrap64;omega
      gi_wp2_with fail
      refine⟨trivial,rfl,(callsIn_wide.2 (insNumbers_calls op _)).mono ?_⟩;rintro e _ ⟨rfl,rfl⟩;rw[HNz.o];have hw1:wrap64 (4*(m:Int))=4*(m:Int):=qs;have hw2:wrap64 (1+4*(m:Int))=1+4*(m:Int):=qs;have hBnl:Bn<wr.heap.size:=z13 hcn;by_cases hfit:(1+4*(m:Int))<=(n:Int)+1
      .have hs1:(1:Int)<=1+4*(m:Int):=by omega
       have hs2:(1+4*(m:Int))<=(c:Int):=by have:=HRc.o.1;have:=HN.o;simp only[Ll]at *;omega
       have hm4:4*m<=r.length:=ycf;obtain⟨i1,i2,i3,i4,hi⟩:∃i1 i2 i3 i4,insOf op r=⟨i1,i2,i3,i4⟩:=⟨_,_,_,_,rfl⟩
       have HI:=U hi;have HKy:O (∀(X:World) (ad cp:Nat),Below wr.heap.size wr X->(ad=o+1\/m=0)->4*m<=cp->Calls prog 78 #[int i64 op,.slice (some ⟨g,ad,none⟩) (4*m) cp] X fun e w'=> e=.returned (.agg #[int i64 i1,int i64 i2,int i64 i3,int i64 i4])/\Below X.heap.size X w'):=fun X ad cp hX had hcp=>by
        have e1:=upTo_insOf op r;rw[HMm.o,hi]at e1;unfold inV at e1;dsimp only at e1;rw[e1];refine insWith_calls g ad cp m op (r.take (4*m)) X (fun x hx=>HBs.o x (List.mem_cons_of_mem _ (List.mem_of_mem_take hx))) (fun k hk=>?_) jd hm3 hcp (Le hgr hX.size);have hk2:k<4*m:=wq;rcases had with rfl|h0
        .have e2:=(HBr.o.below hX hgr) (k+1) jd;rw[show o+1+k=o+(k+1) by omega,e2];simp[List.getD,List.getElem?_take_of_lt hk2]
        .omega
       clear hi;obtain⟨rd,hrd⟩:∃rd,r.drop (4*m)=rd:=⟨_,rfl⟩
       have HRD:=U hrd;clear hrd;gi_upto_if 27 with fail
       gi_cut [] from 7 (fun X=>O (X.heap[wr.heap.size]?=some (.cells #[int i64 i1,int i64 i2,int i64 i3,int i64 i4] 53)/\(∃o' c',X.heap[Bn]?=some (.cells #[.slice (some ⟨g,o',none⟩) rd.length c'] 22)/\rd.length<=c'/\BytesIs X g o' rd)/\J pre X/\wr.heap.size<X.heap.size))
       case first=>
        gi_wp2_with fail
        all_goals
         refine⟨trivial,rfl,(callsIn_wide.2 (HKy.o _ _ _ (Lb.alloc La _) ya ya)).mono ?_⟩;rintro e w1 ⟨rfl,hb1⟩;obtain⟨bx,hbw⟩:=one_kept hb1;clear hb1;have c0:=z11 bx 0;have c1:=z11 bx 1;have c2:=z11 bx 2;have c3:=z11 bx 3;simp at c0 c1 c2 c3;have z1:=z15 bx 0;have z2:=z15 bx 1;have z3:=z15 bx 2;have z4:=z15 bx 3;have hn1:=(hbw.block Bn hBnl).trans hcn;have q1:w1.cell? ⟨Bn,0,none⟩=some (.slice (some ⟨g,o,none⟩) (n+1) _):=(hbw.cell (p:=⟨Bn,0,none⟩) hBnl).trans q0;have z5:w1.frozen? ⟨Bn,0,none⟩=false:=by simp[World.frozen?,hn1]
         have hne:wr.heap.size≠Bn:=ya;have HBx:=U bx;clear bx;gi_upto_region 8 with fail
         obtain⟨W5,hW5,hx5,hn5,hb5⟩:∃W5,((((w1.setCell ⟨wr.heap.size,0,none⟩ (int i64 i1)).setCell ⟨wr.heap.size,1,none⟩ (int i64 i2)).setCell ⟨wr.heap.size,2,none⟩ (int i64 i3)).setCell ⟨wr.heap.size,3,none⟩ (int i64 i4))=W5/\W5.heap[wr.heap.size]?=some (.cells #[int i64 i1,int i64 i2,int i64 i3,int i64 i4] 53)/\W5.heap[Bn]?=wr.heap[Bn]?/\Below wr.heap.size wr W5:=⟨_,rfl,box4_set HBx.o _ _ _ _,((((hbw.setCell (p:=⟨wr.heap.size,0,none⟩) La _).setCell (p:=⟨wr.heap.size,1,none⟩) La _).setCell (p:=⟨wr.heap.size,2,none⟩) La _).setCell (p:=⟨wr.heap.size,3,none⟩) La _).block Bn hBnl,(((hbw.setCell (p:=⟨wr.heap.size,0,none⟩) La _).setCell (p:=⟨wr.heap.size,1,none⟩) La _).setCell (p:=⟨wr.heap.size,2,none⟩) La _).setCell (p:=⟨wr.heap.size,3,none⟩) La _⟩
         rw[hW5];clear hW5 HBx c0 c1 c2 c3 z1 z2 z3 z4 q1 z5 hn1 hbw q0 z0;have hn6:=hn5.trans hcn;have q2:=z11 hn6 0;rw[Ll,HN.o]at q2;simp at q2;have z6:=z15 hn6 0;have HN6:=U hn6;have HX5:=U hx5;have HB5:=U hb5;clear hn6 hx5 hn5 hb5;gi_wp2_with gi_meet
        all_goals
         have hlr:n+1-(1+4*m)=rd.length:=by
          rw[<-HRD.o,List.length_drop,HN.o];omega
         have hrc:=HRc.o.1;rw[Ll,HN.o]at hrc;rw[hlr];refine⟨(Lg W5 ⟨Bn,0,none⟩ _ _ hne).trans HX5.o,⟨_,_,box1_set HN6.o _,by rw[<-hlr];omega,fun k hk=>?_⟩,HJs.o _ _ _ (HJb.o _ _ _ HJ.o HB5.o),?_⟩;rotate_left
         .exact Le (z13 HX5.o) qo
         rw[<-hlr]at hk;rw[Lj (w:=W5) (Lg W5 ⟨Bn,0,none⟩ _ g hgB)];first
          |(exfalso;omega)
          | (have e2:=(HBr.o.below HB5.o hgr) (k+(1+4*m)) (by rw[Ll,HN.o];omega)
             rw[show o+(1+4*m)+k=o+(k+(1+4*m)) by omega,e2,show k+(1+4*m)=(4*m+k)+1 by omega];rw[<-HRD.o];simp[List.getD])
       case rest=>
        obtain⟨hx,⟨o',c',hn',hc',hbt'⟩,hj,hsz⟩:=hcut.o;have HBt':= U hbt';have HRd:O (rd.length<=c'/\rd.length<=20000):=⟨hc',by have:=HRc.o.2;rw[<-HRD.o];simp at this |-;omega⟩
        have HTn:O (tells rest=(pre++ [(⟨i1,i2,i3,i4⟩,true)])++tells rd):=by
         show _=_;have e:=HT.o;rw[if_pos (by trivial),tells_cons,HMm.o,if_pos hm4,HI.o,HRD.o]at e;rw[e,Lo];rfl
        obtain⟨fn,tmps,assign,body,hy,hR⟩:=HY.o pre (⟨i1,i2,i3,i4⟩,true) wc hj ⟨tells rd,by rw[HTn.o,Lo];rfl⟩;unfold inV at hy;dsimp only at hy;have c0:=z11 hx 0;have c2:=z11 hx 1;have c3:=z11 hx 2;have c4:=z11 hx 3;simp at c0 c2 c3 c4;clear hcut hx hj hbt' hc' hs1 hs2 hfit hw1 hw2;gi_wp2_with fail
        refine⟨rfl,hR.mono ?_⟩;rintro e W3 (⟨rfl,hJ3,hk3,hg3,hs3⟩|⟨rfl,hJx3⟩)
        .have hn3:=hk3.trans hn';have HJ3:=U hJ3;clear hy hR hJ3;gi_wp2_with fail
         go_roundw
         case rel=>exact⟨true,_,rd,o',c',rfl,by show _=_;rw[if_pos rfl];exact HTn.o,hn3,HRd,fun k hk=>(Lj (a:=⟨g,o'+ k,none⟩) hg3).trans (HBt'.o k hk),ya,fun x hx=>HBs.o x (List.mem_cons_of_mem _ (List.mem_of_mem_drop (by rw[HRD.o];exact hx))),HJ3⟩
         case measure=>
          have e3:=z11 hn3 0;simp at e3;rw[iterLeft_true e3,iterLeft_true q0,<-HRD.o,List.length_drop,HN.o];omega
        .clear hy hR;gi_wp2_with fail
         refine bodyPost_ret (results_none rfl _ _ _) rfl ?_;exact⟨⟨_,rfl⟩,Or.inr ⟨pre,_,tells rd,by rw[HTn.o,Lo];rfl,hJx3⟩⟩
      .gi_upto_if 27 with fail
       rw[decide_eq_false (show ¬ (1+4*(m:Int))<=(n:Int)+1 by omega)];have hA:=(Ld wr (.cells #[int i64 op,int i64 0,int i64 0,int i64 0] 53)).1;have hbA:=(Below.refl wr.heap.size wr).alloc La (.cells #[int i64 op,int i64 0,int i64 0,int i64 0] 53);generalize wr.alloc (.cells #[int i64 op,int i64 0,int i64 0,int i64 0] 53)=wc at*;have HTn:O (tells rest=(pre++ [(⟨op,0,0,0⟩,false)])):=by
        show _=_;have e:=HT.o;rw[if_pos (by trivial),tells_cons,HMm.o,if_neg ycf]at e;exact e
       have hn':= (hbA.block Bn hBnl).trans hcn;obtain⟨fn,tmps,assign,body,hy,hR⟩:=HY.o pre (⟨op,0,0,0⟩,false) wc (HJb.o _ _ _ HJ.o hbA) ⟨[],HTn.o⟩;unfold inV at hy;dsimp only at hy;have c0:=z11 hA 0;have c2:=z11 hA 1;have c3:=z11 hA 2;have c4:=z11 hA 3;simp at c0 c2 c3 c4;have HBA:=U hbA;clear hA hbA hw1 hw2 hfit;gi_wp2_with fail
       refine⟨rfl,hR.mono ?_⟩;rintro e W3 (⟨rfl,hJ3,hk3,hg3,hs3⟩|⟨rfl,hJx3⟩)
       .have hn3:=hk3.trans hn';have HJ3:=U hJ3;clear hy hR hJ3;gi_wp2_with fail
        go_roundw
        case rel=>exact⟨false,_,op::r,o,c,rfl,by show _=_;rw[if_neg yq,List.append_nil];exact HTn.o,hn3,HRc,fun k hk=>(Lj (a:=⟨g,o+k,none⟩) hg3).trans ((HBr.o.below HBA.o hgr) k hk),Le hgr (Lf HBA.o.size hs3),HBs,HJ3⟩
        case measure=>
         rw[iterLeft_false,iterLeft_true q0];omega
       .clear hy hR;gi_wp2_with fail
        refine bodyPost_ret (results_none rfl _ _ _) rfl ?_;exact⟨⟨_,rfl⟩,Or.inr ⟨pre,_,[],HTn.o,hJx3⟩⟩
end
end Go.Proofs.YtbbffkiobmbkfaaGreatDoor
