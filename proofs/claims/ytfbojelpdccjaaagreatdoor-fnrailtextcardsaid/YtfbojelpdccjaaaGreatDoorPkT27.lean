import Derived.Test.YtfbojelpdccjaaaGreatDoorPkT20
import Derived.Test.YtfbojelpdccjaaaGreatDoorPkT26
open Go.Proofs.Tryz
set_option maxHeartbeats 4000000
set_option maxRecDepth 100000
namespace Go.Proofs.YtfbojelpdccjaaaGreatDoor
open Go.RowKit Go.Deep
variable {ns:List Nd}{k:List UInt8}{c d e:Nat}{r:Tr×Nat}{W:World}
section
open Go.RowKit Go.Deep
theorem itreeBad {at_:Option Addr}{L ct:Nat}(h:(L:Int)<1\/(300:Int)<(L:Int)):Calls prog 39 #[.slice at_ L ct] W fun e W'=> e=.returned (.bool false)/\Below W.heap.size W W':= by
 rcases h with h|h
 .go_enter func39,ntmps39
  go_wp2_with fail
  go_ret;exact⟨rfl,Lb⟩
 .have h1:¬ (L:Int)<1:=by omega
  go_enter func39,ntmps39
  go_wp2_with fail
  go_ret;exact⟨rfl,Lb⟩
theorem iprogBad {ae at_:Option Addr}{le ce L ct:Nat}(hle:(le:Int)<=8) (h:(L:Int)<1\/(300:Int)<(L:Int)):Calls prog 16 #[.agg #[.slice ae le ce,.slice at_ L ct]] W fun e W'=> e=.returned (.bool false)/\Below W.heap.size W W':= by
 have HT:=J (fun X:World=>itreeBad (at_:=at_) (ct:=ct) (W:=X) h);refine zb80 ?_;intro HB1;clear h;go_enter func16,ntmps16
 go_wp2_with fail
 refine(HT.o _).mono ?_;rintro e X ⟨rfl,hb⟩;have HB2:=J (HB1.o.trans (hb.mono HB1.o.size));clear hb HB1;go_wp2_with fail
 go_ret;exact⟨rfl,HB2.o⟩
def NodeV (W:World) (v:Value) (ns:List Nd):Prop:=(v=.slice none 0 0/\ns= [])\/ ∃b cap,v=.slice (some ⟨b,0,none⟩) ns.length cap/\b<W.heap.size/\NodesAt W b 0 ns
theorem nodeV_ofD {d:Dr}{v:Value}(h:NodesD d W v ns):NodeV W v ns:=by
 have hsl:=h.slice;rcases h.1 with ⟨h2,h3⟩|⟨b,off,cap,h2,h3,rfl,h4,-⟩
 .exact Or.inl ⟨h2,Lk h3⟩
 .refine Or.inr ⟨b,cap,h2,h4.1,?_⟩;obtain⟨a,c,e,h5⟩:=hsl;rw[h2]at e
  cases e;rcases h5 with rfl|⟨b',off',e',-,hn⟩
  .exact fun k hk=>vu
  .cases e';exact hn
def TextIs (es:List Ef) (ns:List Nd) (S:List UInt8):Prop:=
 (S= []/\ ∀T,SpecAns ns T->progZ es ns T=false)\/ ∃n k,ns=n::k.flat/\n.kids=k.count/\k.wf/\SpecAns ns true/\ImplAns ns true/\progZ es ns true=true/\S=progT es n k
theorem TextIs.len {es:List Ef}{S:List UInt8}(h:TextIs es ns S) (he:es.length<=8):S.length<=20000:=by
 rcases h with ⟨rfl,-⟩|⟨n,k,h1,h2,h3,h4,-,h5,rfl⟩
 .simp
 .exact progT_len h4 h5 h1 h2 h3 he
theorem spec_ans_one {T T':Bool}(h:SpecAns ns T) (h':SpecAns ns T'):T=T':= by
 rcases h with ⟨a1,rfl⟩|⟨a1,a2,a3,rfl⟩|⟨a1,a2,n,k,e1,e2,e3,h⟩<;>rcases h' with ⟨b1,rfl⟩|⟨b1,b2,b3,rfl⟩|⟨b1,b2,n',k',e1',e2',e3',h'⟩
 .rfl
 .rfl
 .omega
 .rfl
 .rfl
 .exact absurd (end_of_tree e1' e2' e3') a3
 .omega
 .exact absurd (end_of_tree e1 e2 e3) b3
 .obtain⟨rfl,rfl⟩:=tree_inj e1 e2 e3 e1' e2' e3';rw[h,h']
structure Both (W:World) (v:Value) (es:List Ef) (ns:List Nd) (S:List UInt8):Prop where
 text:TextIs es ns S
 impl:∀X,Below W.heap.size W X->Calls prog 6 #[v] X (TextP X S)
 spec:∀X,Below W.heap.size W X->Calls prog 7 #[v] X (TextP X S)
 ok:∀X,Below W.heap.size W X->Calls prog 8 #[v] X fun e X'=> (∃b:Bool,e=.returned (.bool b)/\(b=true↔ ∃T,SpecAns ns T/\progZ es ns T=true))/\Below X.heap.size X X'
theorem both_texts {ad:Option Addr}{cp:Nat}{v:Value}{es:List Ef}(hL:Laid W) (hE:EffW W ad cp es) (he:es.length<=5) (hBe:∀e∈es,Brief e.name) (hN:NodeV W v ns) (hBn:∀n∈ns,Brief n.a/\Brief n.b/\Brief n.c) :
 ∃S,Both W (.agg #[.slice ad es.length cp,v]) es ns S:=by
 by_cases hl:1<=ns.length/\ns.length<=300
 ·obtain⟨b,cap,rfl,hb,hNA⟩:∃b cap,v=.slice (some ⟨b,0,none⟩) ns.length cap/\b<W.heap.size/\NodesAt W b 0 ns:=by
   rcases hN with ⟨-,rfl⟩|h
   .simp at hl
   .exact h
  obtain⟨T,hA,hI⟩:=answers ns;have hns:Short ns:=fun n hn=>by
   obtain⟨h1,h2,h3⟩:=hBn n hn;unfold Brief at h1 h2 h3;unfold maxLen;exact⟨yf,yf,yf⟩
  have hsh:∀e∈es,e.name.size<=maxLen:=fun e h=>by
   have:=hBe e h;unfold Brief at this;unfold maxLen;omega
  obtain⟨be,hae,hbe,hEA,hce⟩:∃be,(es≠ []->ad=some ⟨be,0,none⟩)/\be<W.heap.size/\EffsAt W be 0 es/\es.length<=cp:=by
   rcases hE with ⟨h1,rfl,h3⟩|⟨be,h1,h2,h3,h4⟩
   .exact⟨b,fun h=>absurd rfl h,hb,fun k hk=>vu,Li _⟩
   .exact⟨be,fun _=>h1,h2,h3,h4⟩
  have hok:∀X,Below W.heap.size W X->Calls prog 8 #[.agg #[.slice ad es.length cp,.slice (some ⟨b,0,none⟩) ns.length cap]] X fun e X'=> (∃b:Bool,e=.returned (.bool b)/\(b=true↔ ∃T,SpecAns ns T/\progZ es ns T=true))/\Below X.heap.size X X':= fun X hX=>by
   refine(progOk_at (cn:=cap) (hE.below hX) yf (Le hb hX.size) (hNA.below hX hb) hl.2 hA).mono ?_;rintro e X' ⟨rfl,h⟩;exact⟨⟨_,rfl,fun h=>⟨T,hA,h⟩,fun⟨T',hA',h⟩=>(by rw[spec_ans_one hA hA'];exact h)⟩,h⟩
  cases hP:progZ es ns T with
  | false=>
    refine⟨[],Or.inl ⟨rfl,fun T' hT'=> by rw[spec_ans_one hT' hA];exact hP⟩,fun X hX=>?_,fun X hX=>(progText_calls (cn:=cap) (hE.below hX) yf (Le hb hX.size) (hNA.below hX hb) hl.2 hA).1 hP,hok⟩;refine implText_no ?_;have hb1:=(Below.refl X.heap.size X).alloc La (.cells #[.slice ad es.length cp,.slice (some ⟨b,0,none⟩) ns.length cap] 26);have hb2:=hX.trans (hb1.mono hX.size);have h:=implProgC_calls ad be b cp cap es ns T _ hce hae (Le hbe hb2.size) (Le hb hb2.size) (hEA.below hb2 hbe) (hNA.below hb2 hb) yf yf hsh (fun w' h1 h2=>implTree_calls b 0 cap ns w' T yf h1 h2 hns hI);rw[hP]at h;exact h
  | true=>
    have hT:=prog_true hP;subst hT;obtain⟨n,k,h1,h2,h3,-⟩:=right_of hA;exact⟨progT es n k,Or.inr ⟨n,k,h1,h2,h3,hA,hI,hP,rfl⟩,
     fun X hX=>implText_yes hce hae (Le hbe hX.size) (Le hb hX.size) (hEA.below hX hbe) hsh (hNA.below hX hb) hns (hL.stays hX) hA hI hP h1 h2 h3,
     fun X hX=>(progText_calls (cn:=cap) (hE.below hX) yf (Le hb hX.size) (hNA.below hX hb) hl.2 hA).2 hP n k h1 h2 h3,hok⟩
 .have hl':(ns.length:Int)<1\/(300:Int)<(ns.length:Int):=by omega
  obtain⟨av,cv,rfl⟩:∃av cv,v=.slice av ns.length cv:=by
   rcases hN with ⟨rfl,rfl⟩|⟨b,cap,h,-⟩
   .exact⟨none,0,rfl⟩
   .exact⟨_,_,h⟩
  have hno:∀T,SpecAns ns T->progZ es ns T=false:=fun T hT=>by
   have hTf:T=false:=by
    rcases hT with ⟨-,h⟩|⟨h1,h2,-,h⟩|⟨h1,h2,-⟩
    .exact h
    .exact h
    .exact absurd ⟨h1,h2⟩ hl
   subst hTf;unfold progZ;simp
  refine⟨[],Or.inl ⟨rfl,hno⟩,fun X _=>implText_no (iprogBad yf hl'),fun X _=>textBad (progBad yf hl'),fun X _=>?_⟩;refine(progBad yf hl').mono ?_;rintro e X' ⟨rfl,h⟩;exact⟨⟨false,rfl,fun h=>qk,fun⟨T,h1,h2⟩=>(by rw[hno T h1]at h2;cases h2)⟩,h⟩
def DrawnP (W:World) (e:Ending) (W':World):Prop:=
 ∃ad cp v es ns,e=.returned (.agg #[.slice ad es.length cp,v])/\EffW W' ad cp es/\es.length<=5/\(∀e∈es,Brief e.name)/\NodeV W' v ns/\(∀n∈ns,Brief n.a/\Brief n.b/\Brief n.c)/\ns.length<=1000/\Below W.heap.size W W'
theorem spoilP:SpoilC:=fun _ _ _ _ _ _ _ _ _ hG h hp hE he hn hT=>spoil_calls hG h hp hE he hn hT
theorem drawProg_calls (a0:Option Addr) (len cap:Nat) (W:World) (hl:len<=1048576) (hc:len<=cap) (hB:BytesAt W a0 len):Calls prog 5 #[.slice a0 len cap] W (DrawnP W):=by
 have hb0:=(Below.refl W.heap.size W).alloc La (.cells #[.slice none 0 0,.slice none 0 0] 26);have hA:=(Ld W (.cells #[.slice none 0 0,.slice none 0 0] 26)).1;obtain⟨Y,hY⟩:∃Y,W.alloc (.cells #[.slice none 0 0,.slice none 0 0] 26)=Y:=⟨_,rfl⟩
 rw[hY]at hb0 hA;have hBY:BytesAt Y a0 len:=fun h0=>by
  obtain⟨b,off,ea,hb,hz⟩:=hB h0;exact⟨b,off,ea,Le hb hb0.size,fun i hi=>by
   obtain⟨z,hz,h1⟩:=hz i hi;exact⟨z,(hb0.cell (p:=⟨b,off+i,none⟩) hb).trans hz,h1⟩⟩
 have HO:=J (ropen_calls a0 len cap Y yf hc);have HB:=J hBY;have HY:=J hY;have HA:=J hA;have HB0:=J hb0;obtain⟨q0,hq0⟩:∃q,W.heap.size=q:=⟨_,rfl⟩
 have HQ:=J hq0;clear hB hBY hb0 hA hY;go_enter func5,ntmps5
 go_upto_region 1 with fail
 rw[HY.o];clear HY;go_wp2_with fail
 refine HO.o.mono ?_;rintro e W1 ⟨rfl,m,hm,rfl⟩;have HR:I (Rdr ⟨Y.heap.size,Y.heap.size,a0,m,cap⟩ (Y.alloc (.cells #[.slice a0 m cap,.int .i64 0] 79)) 0):=by
  have hh:=(Ld Y (.cells #[.slice a0 m cap,.int .i64 0] 79)).1;refine⟨hh,fun h0=>?_⟩;obtain⟨b,off,ea,hb,hz⟩:=HB.o (show 0<len by have:0<m:=h0;omega);refine⟨b,off,ea,⟨yk,by show b≠Y.heap.size;omega,by show b≠Y.heap.size;omega⟩,fun i hi=>?_⟩;obtain⟨z,hz,h1⟩:=hz i (by have:i<m:=hi;omega);exact⟨z,(((Below.refl Y.heap.size Y).alloc La _).cell (p:=⟨b,off+i,none⟩) hb).trans hz,h1⟩
 have HC:=J (any_calls spoilP (d:=⟨Y.heap.size,Y.heap.size,a0,m,cap⟩) rfl HR.o yf);have HW:I (Below Y.heap.size Y (Y.alloc (.cells #[.slice a0 m cap,.int .i64 0] 79))):=Lb.alloc La _;clear HO hm;go_wp2_with fail
 refine HC.o.mono ?_;rintro e W2 ⟨ad,n,cp,v,ns,q,rfl,hN,hlen,hr2,hq,hg,es,hEs,he5⟩;have hE5:=effW_ofD hEs;obtain⟨rfl,hEW⟩:=hE5;obtain⟨adv,cpv,rfl⟩:=hN.is;have HGW:=J (HB0.o.trans ((HW.o.trans ((hg.below (n:=Y.heap.size) yn La La))).mono HB0.o.size));have HG:=J (HW.o.trans ((hg.below (n:=Y.heap.size) yn La La)));have hA2:=(HG.o.block W.heap.size (z12 HA.o)).trans HA.o;rw[HQ.o]at hA2;have HN:=J hN;have HEs:=J hEs;have HL:=J (Lc hlen he5);have hf0:=z8 hA2 0;have hf1:=z8 hA2 1;have HA2:=J hA2;obtain⟨z0,z1⟩:=ffz2 hA2;clear hg HG HC hr2 HR HW hlen he5 hEW hA2 HA hN hEs;go_wp2_with fail
 have g1:=z28 (i:=0) (.slice ad es.length cp) HA2.o;have g2:=z28 (i:=1) (.slice adv ns.length cpv) g1;have l1:=lies_two (i:=1) (u:=.slice adv ns.length cpv) yh (lies_two (i:=0) (u:=.slice ad es.length cp) yh HEs.o.1 HA2.o) g1;have l2:=lies_two (i:=1) (u:=.slice adv ns.length cpv) yh (lies_two (i:=0) (u:=.slice ad es.length cp) yh HN.o.1 HA2.o) g1;have hbX:=(HGW.o.setCell (p:=⟨q0,0,none⟩) (by show W.heap.size<=q0;omega) (.slice ad es.length cp)).setCell (p:=⟨q0,1,none⟩) (by show W.heap.size<=q0;omega) (.slice adv ns.length cpv)
 generalize (W2.setCell ⟨q0,0,none⟩ (.slice ad es.length cp)).setCell ⟨q0,1,none⟩ (.slice adv ns.length cpv)=X at*;obtain⟨y0,y1⟩:=fcl2 g2;refine bodyPost_ret (v:=.agg #[.slice ad es.length cp,.slice adv ns.length cpv]) (by simp[results,results5,go_sem,y0,y1]) rfl ?_;have hE:EffsD _ X (.slice ad es.length cp) es:=⟨l1,HEs.o.2⟩
 have hN:NodesD _ X (.slice adv ns.length cpv) ns:=⟨l2,HN.o.2⟩
 exact⟨ad,cp,_,es,ns,rfl,(effW_ofD hE).2,HL.o.2,HEs.o.2,nodeV_ofD hN,HN.o.2,HL.o.1,hbX⟩
end
section
open Go.RowKit
section
variable {ws:List Wd}
def Fu {α:Type}(p:PI α) (q:Nat->PI α) (c:Nat):Prop:= ∀i r,p i=.ok r->i<=r.2/\ ∀F,16*(r.2-i)+c<=F->q F i=.ok r
def Fu1 {α:Type}(p:PI α) (q:Nat->PI α):Prop:= ∀i r,p i=.ok r->i+1<=r.2/\ ∀F,q F i=.ok r
theorem Fu.pure {α:Type}(a:α) (c:Nat):Fu (pureI a) (fun _=>pureI a) c:=fun i r h=>by
 cases h;exact⟨La,fun _ _=>rfl⟩
theorem bind_is {α β:Type}{p:PI α}{k:α->PI β}{i:Nat}{a:α}{j:Nat}(h:p i=.ok (a,j)):bindI p k i=k a j:=by
 unfold bindI;rw[h]
theorem Fu.bind {α β:Type}{p:PI α}{q:Nat->PI α}{k:α->PI β}{k':Nat->α->PI β}(h:Fu p q c) (hk:∀a,Fu (k a) (fun F=>k' F a) d) (h1:c<=e) (h2:d<=e):Fu (bindI p k) (fun F=>bindI (q F) (k' F)) e:=fun i r hr=>by
 obtain⟨a,j,e1,e2⟩:=z22 hr;obtain⟨l1,g1⟩:=h _ _ e1;obtain⟨l2,g2⟩:=hk a _ _ e2;dsimp only at l1 g1;refine⟨yf,fun F hF=>?_⟩;show bindI (q F) (k' F) i=_;rw[bind_is (g1 F yf)];exact g2 F yf
theorem Fu1.bind {α β:Type}{p:PI α}{q:Nat->PI α}{k:α->PI β}{k':Nat->α->PI β}(h:Fu1 p q) (hk:∀a,Fu (k a) (fun F=>k' F a) d) (h2:d<=e+16):Fu (bindI p k) (fun F=>bindI (q F) (k' F)) e:=fun i r hr=>by
 obtain⟨a,j,e1,e2⟩:=z22 hr;obtain⟨l1,g1⟩:=h _ _ e1;obtain⟨l2,g2⟩:=hk a _ _ e2;dsimp only at l1 g1;refine⟨yf,fun F hF=>?_⟩;show bindI (q F) (k' F) i=_;rw[bind_is (g1 F)];exact g2 F yf
theorem Fu.or {α:Type}{l:List UInt8}{p p':PI α}{q q':Nat->PI α}(h:Fu p q c) (h':Fu p' q' d) (h1:c<=e+16) (h2:d<=e):Fu (orI ws l p p') (fun F=>orI ws l (q F) (q' F)) e:=fun i r hr=>by
 unfold orI at hr;split at hr
 .rename_i hs;obtain⟨l1,g1⟩:=h _ _ hr;refine⟨yf,fun F hF=>?_⟩;show orI ws l (q F) (q' F) i=_;unfold orI;rw[if_pos hs];exact g1 F yf
 .rename_i hs;obtain⟨l1,g1⟩:=h' _ _ hr;refine⟨l1,fun F hF=>?_⟩;show orI ws l (q F) (q' F) i=_;unfold orI;rw[if_neg hs];exact g1 F yf
theorem Fu1.take (l:List UInt8):Fu1 (takeI ws l) (fun _=>takeI ws l):=fun i r h=>⟨by rw[take_ok h];exact La,fun _=>h⟩
theorem Fu1.name:Fu1 (nameI ws) (fun _=>nameI ws):=fun i r h=>⟨by rw[name_ok h];exact La,fun _=>h⟩
theorem Fu.mono {α:Type}{p:PI α}{q:Nat->PI α}(h:Fu p q c) (hc:c<=d):Fu p q d:=fun i r hr=>⟨(h i r hr).1,fun F hF=>(h i r hr).2 F yf⟩
def wN:Nt Tr->Nat
 |.expr=>10
 |.cons=>9
 |.comp=>8
 |.sum=>7
 |.prod=>6
 |.call=>5
 |.atom=>2
 |.sumL _=>1
 |.prodL _=>1
 |.callL _=>3
 |.hand _=>12
 |.opsL _ _=>1
theorem step_fu {go:Nt Tr->PI Tr}{g:Nat->Nt Tr->PI Tr}(H:∀nt,Fu (go nt) (fun F=>g F nt) (wN nt)) (Ha:∀i r,go .atom i=.ok r->i+1<=r.2):∀nt,Fu (stepI ws go nt) (fun F=>stepI ws (g F) nt) (wN nt-1):=by
 have ex:=H .expr;have at':= H .atom;have cl:=H .call;have pr:=H .prod;have sm:=H .sum;simp only[wN]at ex at' cl pr sm;have tk:=fun l=>Fu1.take (ws:=ws) l
 have nm:=Fu1.name (ws:=ws);intro nt
 cases nt with
 | expr=>
   refine Fu.or (c:=20) (d:=9) (e:=9) (Fu.or (c:=20) (d:=20) ?_ ?_ yf yf) (Fu.or (c:=20) (d:=9) ?_ (Fu.or (c:=20) (d:=9) ?_ (Fu.or (c:=20) (d:=9) ?_ ((H .cons).mono La) yf yf) yf yf) yf yf) yh yh
   .exact nm.bind (d:=20) (fun _=>nm.bind (d:=20) (fun _=>(tk _).bind (d:=20) (fun _=>ex.bind (d:=20) (fun _=>(tk _).bind (d:=20) (fun _=>ex.bind (d:=20) (fun _=>Fu.pure _ _) yf yf) yf) yf yf) yf) yf) yf
   .exact nm.bind (d:=20) (fun _=>(tk _).bind (d:=20) (fun _=>ex.bind (d:=20) (fun _=>(tk _).bind (d:=20) (fun _=>ex.bind (d:=20) (fun _=>Fu.pure _ _) yf yf) yf) yf yf) yf) yf
   .exact ex.bind (d:=20) (fun _=>(tk _).bind (d:=20) (fun _=>ex.bind (d:=20) (fun _=>(tk _).bind (d:=20) (fun _=>ex.bind (d:=20) (fun _=>Fu.pure _ _) yf yf) yf) yf yf) yf) yf yf
   .exact nm.bind (d:=20) (fun _=>(tk _).bind (d:=20) (fun _=>ex.bind (d:=20) (fun _=>Fu.pure _ _) yf yf) yf) yf
   .exact ex.bind (d:=20) (fun _=>(tk _).bind (d:=20) (fun _=>(tk _).bind (d:=20) (fun _=>(tk _).bind (d:=20) (fun _=>ex.bind (d:=20) (fun _=>(tk _).bind (d:=20) (fun _=>nm.bind (d:=20) (fun _=>(tk _).bind (d:=20) (fun _=>nm.bind (d:=20) (fun _=>(tk _).bind (d:=20) (fun _=>ex.bind (d:=20) (fun _=>Fu.pure _ _) yf yf) yf) yf) yf) yf) yf) yf yf) yf) yf) yf) yf yf
 | cons=>
   show Fu (bindI (go .comp) fun a=>orI ws gCons (bindI (go .cons) fun b=>pureI (mkT (nd0 19) [a,b])) (pureI a)) (fun F=>bindI (g F .comp) ((fun F a=>orI ws gCons (bindI (g F .cons) fun b=>pureI (mkT (nd0 19) [a,b])) (pureI a)) F)) 8;refine Fu.bind (c:=8) (d:=8) (e:=8) (H .comp) (fun a=>?_) La La;exact Fu.or (c:=9) (d:=8) (Fu.bind (c:=9) (d:=9) (H .cons) (fun b=>Fu.pure _ _) La La) (Fu.pure _ _) yf yf
 | comp=>
   show Fu (bindI (go .sum) fun a=>orI ws gEq (bindI (go .sum) fun b=>pureI (mkT (nd0 14) [a,b])) (orI ws gLt (bindI (go .sum) fun b=>pureI (mkT (nd0 15) [a,b])) (pureI a))) (fun F=>bindI (g F .sum) ((fun F a=>orI ws gEq (bindI (g F .sum) fun b=>pureI (mkT (nd0 14) [a,b])) (orI ws gLt (bindI (g F .sum) fun b=>pureI (mkT (nd0 15) [a,b])) (pureI a))) F)) 7;refine Fu.bind (c:=7) (d:=7) (e:=7) sm (fun a=>?_) La La;exact Fu.or (c:=7) (d:=7) (Fu.bind (c:=7) (d:=7) sm (fun b=>Fu.pure _ _) yf yf) (Fu.or (c:=7) (d:=7) (Fu.bind (c:=7) (d:=7) sm (fun b=>Fu.pure _ _) yf yf) (Fu.pure _ _) yf yf) yf yf
 |sum=>exact pr.bind (d:=1) (fun a=>(H (.sumL a))) yh yh
 |prod=>exact cl.bind (d:=1) (fun a=>(H (.prodL a))) yh yh
 |sumL a=>exact Fu.or (c:=6) (d:=0) (e:=0) (pr.bind (d:=6) (fun b=>(H (.sumL _)).mono gw) yf yf) (Fu.or (c:=6) (d:=0) (pr.bind (d:=6) (fun b=>(H (.sumL _)).mono gw) yf yf) (Fu.pure _ _) yf yf) yh yh
 |prodL a=>exact Fu.or (c:=6) (d:=0) (e:=0) (cl.bind (d:=6) (fun b=>(H (.prodL _)).mono gw) yf yf) (Fu.pure _ _) yh yh
 | call=>
   refine Fu.bind (c:=2) (d:=3) ?_ (fun a=>H (.callL a)) yh yh;have one:∀n:Nd,Fu (bindI (go .atom) (fun a=>pureI (mkT n [a]))) (fun F=>bindI (g F .atom) (fun a=>pureI (mkT n [a]))) 2:=fun n=>at'.bind (d:=2) (fun _=>Fu.pure _ _) yf yf
   exact Fu.or (one _) (Fu.or (one _) (Fu.or (one _) (Fu.or (nm.bind (d:=2) (fun x=>one _) (e:=2) yf) at' (e:=2) yf yf) (e:=2) yf yf) (e:=2) yf yf) yf yf
 | callL a=>
   intro i r hr;simp only[stepI,callLI]at hr;split at hr
   .rename_i hs;obtain⟨b,j,e1,e2⟩:=z22 hr;have h1:=Ha _ _ e1;obtain⟨-,g1⟩:=at' _ _ e1;obtain⟨l2,g2⟩:=H (.callL _) _ _ e2;simp only[wN]at g2;dsimp only at h1 g1;refine⟨yf,fun F hF=>?_⟩;simp only[wN]at hF;simp only[stepI,callLI,if_pos hs];rw[bind_is (g1 F yf)];exact g2 F yf
   .rename_i hs
    cases hr;refine⟨La,fun F hF=>?_⟩;simp only[stepI,callLI,if_neg hs];rfl
 | atom=>
   have hb:Fu (brackI ws go) (fun F=>brackI ws (g F)) 12:=Fu.or (c:=12) (d:=12) (Fu.pure _ _) (ex.bind (d:=12) (fun a=>Fu.or (c:=12) (d:=12) (ex.bind (d:=12) (fun b=>(tk _).bind (d:=12) (fun _=>Fu.pure _ _) yf) yf yf) ((tk _).bind (d:=12) (fun _=>Fu.pure _ _) yf) yf yf) yf yf) yf yf;have hw:∀w,Fu (wordI ws go w) (fun F=>wordI ws (g F) w) 12:=fun w=>by
    unfold wordI;split
    .exact Fu.pure _ _
    split
    .exact Fu.pure _ _
    split
    .exact Fu.pure _ _
    split
    .exact Fu.pure _ _
    split
    .exact Fu.pure _ _
    split
    .exact H (.hand 23)
    split
    .exact H (.hand 24)
    .exact hb
   intro i r hr;simp only[stepI,atomI]at hr;split at hr
   .rename_i hs;obtain⟨l,f⟩:=hw _ _ _ hr;refine⟨yf,fun F hF=>?_⟩;simp only[wN]at hF;simp only[stepI,atomI,if_pos hs];exact f F yf
   .cases hr
 | hand k=>
   show Fu (bindI (go .expr) fun a=>bindI (takeI ws kWith) fun _=>bindI (takeI ws kRet) fun _=>bindI (nameI ws) fun x=>bindI (takeI ws gTo) fun _=>bindI (go .expr) fun b=>go (.opsL k [a,mkT (nd1 25 x) [b]])) (fun F=>bindI (g F .expr) ((fun F a=>bindI (takeI ws kWith) fun _=>bindI (takeI ws kRet) fun _=>bindI (nameI ws) fun x=>bindI (takeI ws gTo) fun _=>bindI (g F .expr) fun b=>g F (.opsL k [a,mkT (nd1 25 x) [b]])) F)) 11;refine Fu.bind (c:=10) (d:=11) (e:=11) ex (fun a=>?_) yf yf
   exact(tk _).bind (d:=11) (fun _=>(tk _).bind (d:=11) (fun _=>nm.bind (d:=11) (fun x=>(tk _).bind (d:=11) (fun _=>ex.bind (d:=11) (fun b=>(H (.opsL k _)).mono gw) yf yf) yf) yf) yf) yf
 | opsL k ks=>
   exact Fu.or (c:=10) (d:=0) (e:=0) (nm.bind (d:=10) (fun a=>nm.bind (d:=10) (fun b=>nm.bind (d:=10) (fun c=>(tk _).bind (d:=10) (fun _=>ex.bind (d:=10) (fun e=>(H (.opsL k _)).mono gw) yf yf) yf) yf) yf) yf) ((tk _).bind (d:=0) (fun _=>Fu.pure _ _) yf) yf yf
end
theorem atom_word (ws:List Wd) (F:Nat) {i:Nat}(h:ipz ws F .atom i=.ok r):i+1<=r.2:=by
 cases F with
 |zero=>cases h
 | succ F=>
   have H:=parts_all ws F;simp only[ipz,stepI,atomI]at h;split at h
   .unfold wordI at h;split at h
    .cases h;exact La
    split at h
    .cases h;exact La
    split at h
    .cases h;exact La
    split at h
    .cases h;exact La
    split at h
    .cases h;exact La
    split at h
    .exact(H (.hand 23) (Or.inl rfl) _ _ h).1
    split at h
    .exact(H (.hand 24) (Or.inr rfl) _ _ h).1
    .exact(brack_took H h).1
   .cases h
theorem fuel_enough (ws:List Wd):∀(F:Nat) (nt:Nt Tr),Fu (ipz ws F nt) (fun F'=> ipz ws F' nt) (wN nt)
 |0,_=>fun i r h=>qk
 | F+1,nt=>fun i r h=>by
   obtain⟨l,f⟩:=step_fu (g:=fun F'=> ipz ws F') (fun nt=>fuel_enough ws F nt) (fun i r h=>atom_word ws F h) nt i r h;refine⟨l,fun F' hF=>?_⟩;have hw:1<=wN nt:=by cases nt<;>simp[wN]
   obtain⟨F'',rfl⟩:∃x,F'= x+1:=⟨F'-1,yf⟩
   exact f F'' yf
end
section
open Go.RowKit Go.Deep
abbrev Tok:=Int×ByteArray
def wt (w:Wd):Tok:=(w.kind,w.text)
def bs (l:List UInt8):ByteArray:=⟨l.toArray⟩
def kw (l:List UInt8):Tok:=(3,bs l)
def sg (l:List UInt8):Tok:=(4,bs l)
def nmT (a:ByteArray):Tok:=(2,a)
def nuT (n:Int):Tok:=(1,bs (Lib.itoa n))
theorem z58 (l:List UInt8):(bs l).toList=l:=by
 rw[z67];rfl
def X (ws:List Wd) (i:Nat) (l:List Tok):Prop:=(ws.drop i).map wt=l
def beginsT (x:Tok):Bool:=begins ⟨x.1,x.2,0⟩
def hd:List Tok->List UInt8->Bool
 |[],_=>false
 |x::_,k=>x.2.toList==k
def hdB:List Tok->Bool
 |[]=>false
 |x::_=>beginsT x
section
variable {ws:List Wd}{i:Nat}
theorem X.lt {x:Tok}{l:List Tok}(h:X ws i (x::l)):i<ws.length:=by
 refine Nat.lt_of_not_le fun hle=>?_
 unfold X at h;rw[List.drop_of_length_le hle]at h
 cases h
theorem X.is {x:Tok}{l:List Tok}(h:X ws i (x::l)):wt (curW ws i)=x/\X ws (i+1) l:=by
 have hi:=h.lt;unfold X at h;rw[List.drop_eq_getElem_cons hi,List.map_cons]at h;have e:curW ws i=ws[i]:=by
  unfold curW;rw[List.getD_eq_getElem?_getD,List.getElem?_eq_getElem hi];rfl
 rw[e];exact⟨(List.cons.inj h).1,(List.cons.inj h).2⟩
theorem X.none (h:X ws i []):¬ i<ws.length:=fun hi=>by
 unfold X at h;rw[List.drop_eq_getElem_cons hi]at h
 cases h
theorem X.app {a b:List Tok}(h:X ws i (a++b)):X ws (i+a.length) b:=by
 unfold X at h |-;rw[<-List.drop_drop,List.map_drop,h];exact List.drop_left' rfl
theorem X.sees {l:List Tok}(h:X ws i l) (k:List UInt8):seesI ws i k=hd l k:=by
 unfold seesI
 cases l with
 |nil=>rw[decide_eq_false h.none];rfl
 | cons x l=>
   rw[decide_eq_true h.lt,Bool.true_and];have:=h.is.1;rw[<-this];rfl
theorem X.starts {l:List Tok}(h:X ws i l):startsI ws i=hdB l:=by
 unfold startsI
 cases l with
 |nil=>rw[decide_eq_false h.none];rfl
 | cons x l=>
   rw[decide_eq_true h.lt,Bool.true_and];have:=h.is.1;rw[<-this];rfl
theorem X.take {x:Tok}{l:List Tok}(h:X ws i (x::l)) (hk:(x.2.toList==k)=true):takeI ws k i=.ok ((),i+1):=by
 unfold takeI;rw[h.sees k,show hd (x::l) k=(x.2.toList==k) from rfl,hk];rfl
theorem X.name {a:ByteArray}{l:List Tok}(h:X ws i (nmT a::l)):nameI ws i=.ok (a,i+1):=by
 have e:=h.is.1;have e1:(curW ws i).kind=2:=congrArg Prod.fst e;have e2:(curW ws i).text=a:=congrArg Prod.snd e;unfold nameI;rw[if_pos ⟨h.lt,e1⟩,e2]
theorem X.plain {x:Tok}{l:List Tok}(hw:WordsOk ws) (h:X ws i (x::l)) (hk:x.1<3):∀k∈keysZ,(x.2.toList==k)=false:=fun k hm=>by
 have e:=h.is.1;have hmem:curW ws i∈ws:=by
  unfold curW;rw[List.getD_eq_getElem?_getD,List.getElem?_eq_getElem h.lt];exact List.getElem_mem _
 have:=hw.plain _ hmem (by rw[show(curW ws i).kind=x.1 from congrArg Prod.fst e];exact hk) k hm;rw[show(curW ws i).text=x.2 from congrArg Prod.snd e]at this;simpa using this
end
def Ev {α:Type}(p:Nat->PI α) (i:Nat) (r:α×Nat):Prop:= ∃F0,∀F,F0<=F->p F i=.ok r
section
variable {ws:List Wd}{i:Nat}
theorem Ev.const {α:Type}{p:PI α}{r:α×Nat}(h:p i=.ok r):Ev (fun _=>p) i r:=⟨0,fun _ _=>h⟩
theorem Ev.bind {α β:Type}{p:Nat->PI α}{k:Nat->α->PI β}{a:α}{j:Nat}{r:β×Nat}(h:Ev p i (a,j)) (h':Ev (fun F=>k F a) j r):Ev (fun F=>bindI (p F) (k F)) i r:=by
 obtain⟨F1,h1⟩:=h;obtain⟨F2,h2⟩:=h';refine⟨max F1 F2,fun F hF=>?_⟩;show bindI (p F) (k F) i=_;rw[bind_is (h1 F yf)];exact h2 F yf
theorem Ev.seen {α:Type}{l:List Tok}{p q:Nat->PI α}{r:α×Nat}(hX:X ws i l) (hh:hd l k=true) (h:Ev p (i+1) r):Ev (fun F=>orI ws k (p F) (q F)) i r:=by
 obtain⟨F1,h1⟩:=h;refine⟨F1,fun F hF=>?_⟩;show orI ws k (p F) (q F) i=_;unfold orI;rw[hX.sees k,hh,if_pos rfl];exact h1 F hF
theorem Ev.unseen {α:Type}{l:List Tok}{p q:Nat->PI α}{r:α×Nat}(hX:X ws i l) (hh:hd l k=false) (h:Ev q i r):Ev (fun F=>orI ws k (p F) (q F)) i r:=by
 obtain⟨F1,h1⟩:=h;refine⟨F1,fun F hF=>?_⟩;show orI ws k (p F) (q F) i=_;unfold orI;rw[hX.sees k,hh,if_neg yh];exact h1 F hF
theorem Ev.step {nt:Nt Tr}(h:Ev (fun F=>stepI ws (ipz ws F) nt) i r):Ev (fun F=>ipz ws F nt) i r:=by
 obtain⟨F1,h1⟩:=h;refine⟨F1+1,fun F hF=>?_⟩;obtain⟨G,rfl⟩:∃G,F=G+1:=⟨F-1,yf⟩
 exact h1 G yf
theorem Ev.take {α:Type}{x:Tok}{l:List Tok}{key:List UInt8}{k:Nat->Unit->PI α}{r:α×Nat}(hX:X ws i (x::l)) (hk:(x.2.toList==key)=true) (h:Ev (fun F=>k F ()) (i+1) r):Ev (fun F=>bindI (takeI ws key) (k F)) i r:=Ev.bind (p:=fun _=>takeI ws key) (Ev.const (hX.take hk)) h
theorem Ev.name {α:Type}{a:ByteArray}{l:List Tok}{k:Nat->ByteArray->PI α}{r:α×Nat}(hX:X ws i (nmT a::l)) (h:Ev (fun F=>k F a) (i+1) r):Ev (fun F=>bindI (nameI ws) (k F)) i r:=Ev.bind (p:=fun _=>nameI ws) (Ev.const hX.name) h
theorem Ev.fuel {nt:Nt Tr}(h:Ev (fun F=>ipz ws F nt) i r) {F:Nat}(hF:16*(r.2-i)+wN nt<=F):ipz ws F nt i=.ok r:=by
 obtain⟨F0,h0⟩:=h;exact(fuel_enough ws F0 nt i r (h0 F0 La)).2 F hF
end
def Tp.tr (t:Tp):Tr:=(t.n,t.k)
theorem foL_kids:∀(f:Fo) (p:Nat),foL ((kidsAt f p).map Tp.tr)=f
 |.none,_=>rfl
 | .tree n k r,p=>by
   rw[kidsAt,List.map_cons];show Fo.tree n k (foL _)=_;rw[foL_kids r]
theorem tr_mk {t:Tp}{n:Nd}(h:t.n=n.with_ t.kids.length):t.tr=mkT n (t.kids.map Tp.tr):=by
 unfold mkT Tp.tr;rw[List.length_map,<-h];congr 1
 exact(foL_kids t.k _).symm
theorem no_text {s:ByteArray}(h:(s.toList== [])=true):s=⟨#[]⟩:=by
 have h1:s.toList= []:=zn;rw[z67]at h1
 cases s with
 | mk d=>
   congr 1
   exact Array.toList_inj.1 h1
end
end Go.Proofs.YtfbojelpdccjaaaGreatDoor
