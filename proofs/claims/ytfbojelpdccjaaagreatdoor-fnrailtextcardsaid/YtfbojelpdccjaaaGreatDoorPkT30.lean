import Derived.Test.YtfbojelpdccjaaaGreatDoorPkT29
import Derived.WalkLawsBesides
open Go.Proofs.Tryz
set_option maxHeartbeats 4000000
set_option maxRecDepth 100000
namespace Go.Proofs.YtfbojelpdccjaaaGreatDoor
open Go.RowKit Go.Deep
variable {s:ByteArray}{l:List UInt8}{F hi lo:Nat}{n:Nd}{t:Tr}{v:Value}
section
open Go.RowKit Go.Deep
theorem read_whole {T:List Nd->Bool}{x:List Ef×Tr}(h:readZ s T=.ok x):TrOk x.2:=by
 unfold readZ at h;split at h
 .cases h
 split at h
 .cases h
 rename_i r hr;repeat(split at h;· cases h)
 split at h
 .cases h;exact whole_ok hr
 .cases h
def baseTz (k:Int):List UInt8:=if k=1 then [105,110,116] else if k=2 then [98,111,111,108] else if k=3 then [117,110,105,116] else [108,105,115,116]
def effTz (e:Ef):List UInt8:= [101,102,102,101,99,116,32]++e.name.data.toList++ [32,58,32]++baseTz e.arg++ [32,61,62,32]++baseTz e.res++ [32,59,32]
def baseK (k:Int):List UInt8:=if k=1 then kInt else if k=2 then kBool else if k=3 then kUnit else kList
def effK (e:Ef):List Tok:=kw kEffect::nmT e.name::sg gColon::kw (baseK e.arg)::sg gGives::kw (baseK e.res)::sg gSemi:: []
structure EfOk (e:Ef):Prop where
 name:nameOk e.name=true
 arg:1<=e.arg/\e.arg<=4
 res:1<=e.res/\e.res<=4
theorem base_lx (k:Int):Lx (baseTz k) [kw (baseK k)]:=by
 unfold baseTz baseK;split
 .exact Lx.key (k:=kInt) yh
 split
 .exact Lx.key (k:=kBool) yh
 split
 .exact Lx.key (k:=kUnit) yh
 .exact Lx.key (k:=kList) yh
theorem eff_lx {e:Ef}(h:EfOk e):LxA (effTz e) (effK e):=by
 have e1:effTz e= [101,102,102,101,99,116,32]++((e.name.data.toList++ [32])++([58,32]++((baseTz e.arg++ [32])++([61,62,32]++((baseTz e.res++ [32])++ [59,32]))))):=by simp[effTz]
 have e2:effK e= [kw kEffect]++(([nmT e.name]++ [])++([sg gColon]++(([kw (baseK e.arg)]++ [])++([sg gGives]++(([kw (baseK e.res)]++ [])++ [sg gSemi]))))):=rfl;rw[e1,e2];exact LxA.appA (LxA.keyB (k:=kEffect) yh) (LxA.appA (Lx.appA (Lx.name h.name) LxA.blank yh rfl) (LxA.appA (LxA.signB (g:=gColon) yh) (LxA.appA (Lx.appA (base_lx _) LxA.blank yh rfl) (LxA.appA (LxA.signB (g:=gGives) yh) (LxA.appA (Lx.appA (base_lx _) LxA.blank yh rfl) (LxA.signB (g:=gSemi) yh))))))
theorem LxA.nil:LxA [] []:=fun s p ws f rest _ _=>⟨[],f,by rw[List.append_nil];rfl,rfl,yn⟩
theorem effs_lx:∀es:List Ef,(∀e∈es,EfOk e)->LxA (es.flatMap effTz) (es.flatMap effK)
 |[],_=>LxA.nil
 | e::es,h=>by
   rw[List.flatMap_cons,List.flatMap_cons];exact LxA.appA (eff_lx (h e List.mem_cons_self)) (effs_lx es (fun x hx=>h x (List.mem_cons_of_mem _ hx)))
section
variable {ws:List Wd}
theorem base_back {k:Int}(h:1<=k/\k<=4) {i:Nat}{l:List Tok}(hX:X ws i (kw (baseK k)::l)):baseI ws i=.ok (k,i+1):=by
 have hk:k=1\/k=2\/k=3\/k=4:=yf;have hs:∀key,seesI ws i key=(baseK k==key):=fun key=>by rw[hX.sees key];exact hd_is 3 _ _ _
 unfold baseI orI;rw[hs,hs,hs,hs];rcases hk with rfl|rfl|rfl|rfl<;>rfl
theorem effs_back:∀(es acc:List Ef) (i f:Nat) (rest:List Tok),(∀e∈es,EfOk e)->X ws i (es.flatMap effK++rest)->hd rest kEffect=false->es.length+1<=f->effsI ws f acc i=.ok (acc++es,i+(es.flatMap effK).length)
 | [],acc,i,f,rest,_,hX,hh,hf=>by
   obtain⟨g,rfl⟩:∃g,f=g+1:=⟨f-1,ng⟩
   rw[effsI];unfold orI;have hX':X ws i rest:=hX;rw[hX'.sees,hh,if_neg yh,List.append_nil];rfl
 | e::es,acc,i,f,rest,h,hX,hh,hf=>by
   obtain⟨g,rfl⟩:∃g,f=g+1:=⟨f-1,ng⟩
   obtain⟨h1,h2,h3⟩:=h e List.mem_cons_self;have hX0:X ws i (kw kEffect::nmT e.name::sg gColon::kw (baseK e.arg)::sg gGives::kw (baseK e.res)::sg gSemi::(es.flatMap effK++rest)):=hX;have hX1:=hX0.is.2;have hX2:=hX1.is.2;have hX3:=hX2.is.2;have hX4:=hX3.is.2;have hX5:=hX4.is.2;have hX6:=hX5.is.2;have hX7:=hX6.is.2;have ih:=effs_back es (acc++ [e]) _ g rest (fun x hx=>h x (List.mem_cons_of_mem _ hx)) hX7 hh ng;rw[effsI];unfold orI
   rw[hX0.sees,show hd (kw kEffect::nmT e.name::sg gColon::kw (baseK e.arg)::sg gGives::kw (baseK e.res)::sg gSemi::(es.flatMap effK++rest)) kEffect=true from tk_eq 3 kEffect,if_pos rfl];rw[bind_is hX1.name,bind_is (hX2.take (tk_eq 4 gColon)),bind_is (base_back h2 hX3),bind_is (hX4.take (tk_eq 4 gGives)),bind_is (base_back h3 hX5),bind_is (hX6.take (tk_eq 4 gSemi))];have e1:acc++ [e]++es=acc++e::es:=yn;have e2:i+1+1+1+1+1+1+1+(es.flatMap effK).length=i+((e::es).flatMap effK).length:=by
    rw[List.flatMap_cons,List.length_append];simp only[effK,List.length_cons,List.length_nil];omega
   rw[e1,e2]at ih;exact ih
end
theorem no_effect {ws:List Wd}(hw:WordsOk ws) {t:Tp}(hf:Full ws F t) (hF:1<=F) {i:Nat}(hX:X ws i (tkS F t 0)):hd (tkS F t 0) kEffect=false:=by
 obtain⟨G,rfl⟩:∃G,F=G+1:=⟨F-1,yf⟩
 have hX':X ws i (tkS (G+1) t 0++ []):=by rw[List.append_nil];exact hX
 by_cases h:lvK t.n.kind<1
 ·have hk:t.n.kind=6\/t.n.kind=8\/t.n.kind=9\/t.n.kind=10\/t.n.kind=20:=by
   unfold lvK at h;split at h
   .omega
   .repeat(split at h;· omega)
    omega
  have e:tkS (G+1) t 0=tkB (G+1) t:=by
   unfold tkS tkBr;rw[if_neg (by have:=lvK_pos t.n.kind;omega)]
  rw[e];rcases hk with k|k|k|k|k
  .rw[tkB6 k];exact(hd_is 3 kFn _ _).trans yh
  .rw[tkB8 k];exact(hd_is 3 kLet _ _).trans yh
  .rw[tkB9 k];exact(hd_is 3 kLet _ _).trans yh
  .rw[tkB10 k];exact(hd_is 3 kIf _ _).trans yh
  .rw[tkB20 k];exact(hd_is 3 kCase _ _).trans yh
 ·have e:tkS (G+1) t 0=tkS (G+1) t 1:=by
   unfold tkS tkBr;rw[if_neg (by have:=lvK_pos t.n.kind;omega),if_neg yf]
  have h1':= hf.b1 1 La yh;rw[<-e]at h1';have:=h1_not (rest:= []) hw h1' hX' (k:=kEffect) yh yh yh;rwa[List.append_nil]at this
theorem text_words {es:List Ef}{ns:List Nd}{t:Tp}(he:∀e∈es,EfOk e) (hn:∀m∈ns,ownOk m=true) (hF:t.size<=F) (hs:Stands ns t) (hx:Ex t) (htx:s.data.toList=es.flatMap effTz++showZ F t 0) (hsz:s.size<=1500):(lexAll s).2.1=0/\X (lexAll s).1 0 (es.flatMap effK++tkS F t 0):=by
 have h:=LxA.app (effs_lx es he) ((lex_all hn F).1 t 0 hF hs hx);have hd:s.data.toList.drop 0=es.flatMap effTz++showZ F t ((0:Nat):Int)++ []:=by rw[List.drop_zero,List.append_nil];exact htx
 have hl:=size_of hd (Li _);rw[List.append_nil,Nat.zero_add]at hl;obtain⟨ds,f',e1,e2,-⟩:=h s 0 [] s.size [] hd rfl yf;have e3:lexAll s=(ds,0,0):=by
  unfold lexAll;rw[if_neg yf,e1,List.nil_append,lexGo_end yf]
 rw[e3];exact⟨rfl,by unfold X;rw[List.drop_zero];exact e2⟩
theorem text_read {T:List Nd->Bool}{es:List Ef}{k:Fo}(he:∀e∈es,EfOk e) (hn:∀m∈n::k.flat,ownOk m=true) (hF:k.flat.length+1<=F) (hs:Stands (n::k.flat) ⟨n,k,0⟩) (hx:Ex ⟨n,k,0⟩) (htx:s.data.toList=es.flatMap effTz++showZ F ⟨n,k,0⟩ 0) (hsz:s.size<=1500) (hlen:(n::k.flat).length<=300) (hel:es.length<=8) (hdeep:k.deep+1<=40) (hP:progZ es (n::k.flat) (T (n::k.flat))=true):readZ s T=.ok (es,(n,k)):=by
 obtain⟨h0,hX⟩:=text_words he hn (t:=⟨n,k,0⟩) hF hs hx htx hsz;have hw:=lexAll_words s;have hX2:X (lexAll s).1 (0+(es.flatMap effK).length) (tkS F ⟨n,k,0⟩ 0):=hX.app;have hfull:=back_all hw hn F ⟨n,k,0⟩ hF hs hx;have hne:=no_effect hw hfull yf hX2;have hlw:(lexAll s).1.length=(es.flatMap effK).length+(tkS F ⟨n,k,0⟩ 0).length:=by
  have:=congrArg List.length hX;rw[List.length_map,List.drop_zero,List.length_append]at this;exact this
 have hmany:es.length<=(es.flatMap effK).length:=by
  clear hX hX2 hne hlw hfull htx hP hel he;induction es with
  |nil=>exact Li _
  | cons e es ih=>
    rw[List.flatMap_cons,List.length_append];simp only[effK,List.length_cons,List.length_nil];omega
 have e1:=effs_back es [] 0 ((lexAll s).1.length+1) (tkS F ⟨n,k,0⟩ 0) he hX hne yf;have e2:=tree_back hw hn (t:=⟨n,k,0⟩) (F:=F) hF hs hx hX2;have hwh:wholeI (lexAll s).1=.ok ((es,(n,k)),(lexAll s).1.length):=by
  unfold wholeI;rw[bind_is e1,List.nil_append,bind_is e2];show Except.ok _=Except.ok _;rw[hlw,Nat.zero_add];rfl
 unfold readZ;rw[if_neg (by rw[h0];decide),hwh];dsimp only;rw[if_neg (Nat.lt_irrefl _)];have e3:Tr.flat ((n,k):Tr)=n::k.flat:=rfl;rw[e3,if_neg yf,if_neg yf,if_pos hP]
def curI (ws:List Wd) (sz i:Nat):Wd:=if i<ws.length then curW ws i else ⟨0,⟨#[]⟩,sz⟩
def wdV (w:Wd):Value:=.agg #[.int .i64 w.kind,.string w.text,.int .i64 (w.at_:Int)]
structure RdAt (d:Dr) (ws:List Wd) (ad:Option Addr) (cp sz:Nat) (i:Nat) (W:World):Prop where
 blk:W.heap[d.B]?=some (.cells #[.slice ad ws.length cp,.int .i64 (i:Int),.int .i64 (sz:Int)] 95)
 eq:d.G=d.B
 lt:i<=ws.length
 few:ws.length<=1500
 words:Lies d W (.slice ad ws.length cp) ws.length 3 (fun i=>wdC (ws.getD (i/3) default) (i % 3))
section
variable {d:Dr}{ws:List Wd}{ad:Option Addr}{cp sz:Nat}
theorem RdAt.below {i:Nat}{W W':World}(h:RdAt d ws ad cp sz i W) (hb:Below W.heap.size W W'):RdAt d ws ad cp sz i W':=
 ⟨(hb.block _ (z12 h.blk)).trans h.blk,h.eq,h.lt,h.few,h.words.grew (Grew.of_below hb)⟩
theorem RdAt.lies {i:Nat}{W:World}(h:RdAt d ws ad cp sz i W) (hi:0<ws.length):∃b,ad=some ⟨b,0,none⟩/\ ∀i,i<ws.length->W.cell? ⟨b,i*3,none⟩=some (.int .i64 (curW ws i).kind)/\W.cell? ⟨b,i*3+1,none⟩=some (.string (curW ws i).text)/\W.cell? ⟨b,i*3+2,none⟩=some (.int .i64 (curW ws i).at_):=by
 rcases h.words with ⟨-,h0⟩|⟨b,off,cap,e,-,rfl,-,hc⟩
 .omega
 cases e;refine⟨b,rfl,fun i hi=>?_⟩;have e:∀c,c<3->W.cell? ⟨b,i*3+c,none⟩=some (wdC (ws.getD i default) c):=fun c hc'=> by
  have:=hc (i*3+c) yf;rw[Nat.zero_add]at this;rw[this];exact congrArg some (cell_div ws wdC 3 i c hc')
 exact⟨e 0 yf,e 1 yf,e 2 yf⟩
theorem RdAt.move {i:Nat}{W:World}(h:RdAt d ws ad cp sz i W) {k:Nat}(hk:k<=ws.length):RdAt d ws ad cp sz k (W.setCell ⟨d.B,1,none⟩ (.int .i64 (k:Int))):=
 ⟨z28 _ h.blk,h.eq,hk,h.few,h.words.grew (z42 W 1 _)⟩
theorem RdAt.other {i:Nat}{W:World}(h:RdAt d ws ad cp sz i W) {q:Nat}(hq:q≠d.B) (j:Nat) (v:Value) (g:∀b,ad=some ⟨b,0,none⟩->b≠q):RdAt d ws ad cp sz i (W.setCell ⟨q,j,none⟩ v):=by
 refine⟨(Lg W ⟨q,j,none⟩ v d.B (fun e=>hq e.symm)).trans h.blk,h.eq,h.lt,h.few,?_⟩;rcases h.words with h1|⟨b,off,cap,e,hn,rfl,hqb,hc⟩
 .exact Or.inl h1
 .refine Or.inr ⟨b,0,cap,e,hn,rfl,⟨by simpa[World.setCell]using hqb.1,hqb.2⟩,fun i hi=>?_⟩
  cases e;rw[<-hc i hi];exact Lj (Lg W ⟨q,j,none⟩ v _ (g b rfl))
theorem RdAt.row {i:Nat}{W:World}(h:RdAt d ws ad cp sz i W):∀b,ad=some ⟨b,0,none⟩->b<W.heap.size:=fun b hb=>by
 subst hb;rcases h.words with ⟨e0,-⟩|⟨b',off,cap,e1,-,-,hqb,-⟩
 .cases e0
 .cases e1;exact hqb.1
theorem peek_calls (i:Nat) (W:World) (h:RdAt d ws ad cp sz i W) :
 Calls prog 94 #[.pointer (some ⟨d.B,0,none⟩)] W fun e W'=> e=.returned (wdV (curI ws sz i))/\Below W.heap.size W W':= by
 have H0:=J h;have hdB:=z12 h.blk;obtain⟨cw,hcw⟩:∃c,curI ws sz i=c:=⟨_,rfl⟩
 rw[hcw];have HC:=J hcw;clear h hcw;go_enter func94,ntmps94
 go_wp2_with fail
 have hb:=(Below.refl W.heap.size W).alloc La (.cells #[.int .i64 0,.string ⟨#[]⟩,.int .i64 0] 76);have hg:=(Ld W (.cells #[.int .i64 0,.string ⟨#[]⟩,.int .i64 0] 76)).1;have H:=J (H0.o.below hb);have HB:=J hb;obtain⟨Y,hY⟩:∃Y,W.alloc (.cells #[.int .i64 0,.string ⟨#[]⟩,.int .i64 0] 76)=Y:=⟨_,rfl⟩
 rw[hY]at hg H HB |-;obtain⟨g,hgg⟩:∃g,W.heap.size=g:=⟨_,rfl⟩
 rw[hgg]at hg hdB HB |-;have HG:=J hg;have hne:d.B≠g:=yf;have p0:=z8 H.o.blk 0;have p1:=z8 H.o.blk 1;have p2:=z8 H.o.blk 2;have g0:=z8 hg 0;have g1:=z8 hg 1;have g2:=z8 hg 2;have z0:=z11 hg 0;have z1:=z11 hg 1;have z2:=z11 hg 2;simp at p0 p1 p2 g0 g1 g2;obtain⟨L,hL⟩:∃L,ws.length=L:=⟨_,rfl⟩
 have HL:=J hL;have hle:i<=L:=by rw[<-hL];exact H.o.lt
 rw[hL]at p0;have HF:=J hgg;clear hL hb hg hY hgg hdB;by_cases hi:i<L
 .have hlt:i<ws.length:=by have:=HL.o;omega
  obtain⟨b,rfl,hw⟩:=H.o.lies yf;obtain⟨w0,w1,w2⟩:=hw i hlt;have hi0:(0:Int)<=(i:Int):=yf;have hd:decide (i<L)=true:=decide_eq_true hi;have ht:curI ws sz i=curW ws i:=by unfold curI;rw[if_pos hlt]
  obtain⟨kd,tx,wa⟩:=cw;rw[<-ht,HC.o]at w0 w1 w2;dsimp only at w0 w1 w2;have hbg:b≠g:=by have:=H0.o.row b rfl;have:=HF.o;omega
  clear hw hlt ht hle;go_region
  go_wp2_with fail
  go_region
  go_wp2_with fail
  obtain⟨hl1,hl2⟩:=lay3_is (.int .i64 kd) (.string tx) (.int .i64 (wa:Int)) HG.o;have hl2:=HB.o.trans (hl2 g La);unfold lay3 at hl1 hl2;obtain⟨k0,k1,k2⟩:=fcl3 hl1;refine bodyPost_ret (v:=wdV ⟨kd,tx,wa⟩) yav rfl ⟨rfl,?_⟩;rw[HF.o];exact⟨hl2.os,hl2.tape,hl2.output,hl2.size,hl2.block⟩
 .have ht:curI ws sz i=⟨0,⟨#[]⟩,sz⟩:=by unfold curI;rw[if_neg zy]
  have hcw:cw=⟨0,⟨#[]⟩,sz⟩:=HC.o.symm.trans ht;subst hcw;have hd:decide (i<L)=false:=decide_eq_false hi;clear ht;go_region
  go_wp2_with fail
  obtain⟨hl1,hl2⟩:=lay3_is (.int .i64 0) (.string ⟨#[]⟩) (.int .i64 (sz:Int)) HG.o;have hl2:=HB.o.trans (hl2 g La);unfold lay3 at hl1 hl2;obtain⟨k0,k1,k2⟩:=fcl3 hl1;refine bodyPost_ret (v:=wdV ⟨0,⟨#[]⟩,sz⟩) yav rfl ⟨rfl,?_⟩;rw[HF.o];exact⟨hl2.os,hl2.tape,hl2.output,hl2.size,hl2.block⟩
end
def FmAt (lo hi:Nat) (W:World) (t:Tr) (v:Value):Prop:=
 ∃W0:World,Forms lo W0 (.tree t.1 t.2 .none) [v]/\W0.heap.size=hi/\hi<=W.heap.size/\ ∀a:Addr,lo<=a.block->a.block<hi->W.cell? a=W0.cell? a
theorem FmAt.forms {W:World}(h:FmAt lo hi W t v):Forms lo W (.tree t.1 t.2 .none) [v]:=by
 obtain⟨W0,h1,rfl,h2,h3⟩:=h;exact Forms.kept La h2 h3 h1
theorem FmAt.top {W:World}(h:FmAt lo hi W t v):hi<=W.heap.size:=by
 obtain⟨W0,h1,rfl,h2,h3⟩:=h;exact h2
theorem FmAt.keep {W W':World}(h:FmAt lo hi W t v) (hs:hi<=W'.heap.size) (hk:∀q,lo<=q->q<hi->W'.heap[q]?=W.heap[q]?):FmAt lo hi W' t v:=by
 obtain⟨W0,h1,h2,h3,h4⟩:=h;exact⟨W0,h1,h2,hs,fun a ha hb=>(Lj (hk _ ha hb)).trans (h4 a ha hb)⟩
theorem FmAt.of {X:World}(h:Forms lo X (.tree t.1 t.2 .none) [v]):FmAt lo X.heap.size X t v:=⟨X,h,rfl,La,fun _ _ _=>rfl⟩
structure Fr where
 lo:Nat
 hi:Nat
 t:Tr
 v:Value
theorem forms_list {lo:Nat}{X:World}:∀(l:List Fr),(∀x∈l,FmAt x.lo x.hi X x.t x.v/\lo<=x.lo)->Forms lo X (foL (l.map Fr.t)) (l.map Fr.v)
 |[],_=>rfl
 | x::r,h=>by
   obtain⟨v,us,rest,e,h1,h2,h3⟩:=(h x yn).1.forms;obtain⟨rfl,rfl⟩:x.v=v/\rest= []:=by simp at e;exact e
   have hl:=(h x yn).2;exact⟨x.v,us,r.map Fr.v,rfl,Forms.kept hl La (fun _ _ _=>rfl) h1,h2.kept hl La (fun _ _ _=>rfl),forms_list r (fun y hy=>h y (by simp[hy]))⟩
structure St (d:Dr) (ws:List Wd) (ad:Option Addr) (cp sz:Nat) (W:World) (bx:List (Nat×Array Value×TypeId)) (fs:List Fr) (i:Nat) (X:World):Prop where
 rd:RdAt d ws ad cp sz i X
 gr:Grew d W X
 hB:d.B<W.heap.size
 wd:∀b,ad=some ⟨b,0,none⟩->b<W.heap.size
 bxs:∀b∈bx,X.heap[b.1]?=some (.cells b.2.1 b.2.2)/\W.heap.size<=b.1
 nd:(bx.map Prod.fst).Nodup
 fss:∀x∈fs,FmAt x.lo x.hi X x.t x.v/\W.heap.size<=x.lo/\ ∀b∈bx,b.1<x.lo\/x.hi<=b.1
def faultV (ws:List Wd) (sz j:Nat):Value:=.agg #[.int .i64 5,.int .i64 (curI ws sz j).at_]
def faultAt (ws:List Wd) (sz j:Nat):PanicEntry:= { v:=.iface 31 (faultV ws sz j),recovered:=false }
def PostX {α:Type}(d:Dr) (ws:List Wd) (ad:Option Addr) (cp sz:Nat) (Q:α->Ending->World->Prop) (r:Except Nat (α×Nat)) (W:World) (e:Ending) (W':World):Prop:=match r with
 |.error j=>e=.panicked [faultAt ws sz j]/\Grew d W W'
 |.ok x=>Q x.1 e W'/\RdAt d ws ad cp sz x.2 W'/\Grew d W W'
def QT (W:World) (t:Tr) (e:Ending) (W':World):Prop:= ∃T p,e=.returned (.iface T p)/\FmAt W.heap.size W'.heap.size W' t (.iface T p)
abbrev PostT (d:Dr) (ws:List Wd) (ad:Option Addr) (cp sz:Nat) (r:Except Nat (Tr×Nat)) (W:World):Ending->World->Prop:=PostX d ws ad cp sz (QT W) r W
abbrev PostS (d:Dr) (ws:List Wd) (ad:Option Addr) (cp sz:Nat) (r:Except Nat (ByteArray×Nat)) (W:World):Ending->World->Prop:=PostX d ws ad cp sz (fun t e _=>e=.returned (.string t)) r W
abbrev PostU (d:Dr) (ws:List Wd) (ad:Option Addr) (cp sz:Nat) (r:Except Nat (Unit×Nat)) (W:World):Ending->World->Prop:=PostX d ws ad cp sz (fun _ e _=> ∃v,e=.returned v) r W
abbrev PostN' (d:Dr) (ws:List Wd) (ad:Option Addr) (cp sz:Nat) (r:Except Nat (Int×Nat)) (W:World):Ending->World->Prop:=PostX d ws ad cp sz (fun n e _=>e=.returned (.int .i64 n)) r W
section
variable {d:Dr}{ws:List Wd}{ad:Option Addr}{cp sz:Nat}{W X X':World}{bx:List (Nat×Array Value×TypeId)}{fs:List Fr}{i k:Nat}
theorem post_x {α:Type}{Q:α->Ending->World->Prop}{r:Except Nat (α×Nat)}{e:Ending}(h:PostX d ws ad cp sz Q r W e X):(∃j,r=.error j/\e=.panicked [faultAt ws sz j]/\Grew d W X)\/ ∃a k,r=.ok (a,k)/\Q a e X/\RdAt d ws ad cp sz k X/\Grew d W X:=by
 unfold PostX at h
 cases r with
 |error j=>exact Or.inl ⟨j,rfl,h.1,h.2⟩
 |ok x=>exact Or.inr ⟨x.1,x.2,rfl,h.1,h.2.1,h.2.2⟩
theorem St.start (h:RdAt d ws ad cp sz i W):St d ws ad cp sz W [] [] i W:=
 ⟨h,Grew.refl d W,z12 h.blk,h.row,fun b hb=>(by cases hb),List.nodup_nil,fun x hx=>mt⟩
theorem St.go (h:St d ws ad cp sz W bx fs i X) (hr:RdAt d ws ad cp sz k X') (hg:Grew d X X'):St d ws ad cp sz W bx fs k X':= by
 have hB:=h.hB;refine⟨hr,h.gr.trans hg,hB,h.wd,fun b hb=>?_,h.nd,fun x hx=>?_⟩
 .obtain⟨h1,h2⟩:=h.bxs b hb;exact⟨(hg.block _ ⟨z12 h1,yf,by rw[hr.eq];omega⟩).trans h1,h2⟩
 .obtain⟨h1,h2,h3⟩:=h.fss x hx;have:=h1.top;have:=hg.size;exact⟨h1.keep yf (fun q hq hq'=> hg.block q ⟨yf,yf,by rw[hr.eq];omega⟩),h2,h3⟩
theorem St.below (h:St d ws ad cp sz W bx fs i X) (hb:Below X.heap.size X X'):St d ws ad cp sz W bx fs i X':= h.go (h.rd.below hb) (Grew.of_below hb)
theorem St.form (h:St d ws ad cp sz W bx fs i X) (hr:RdAt d ws ad cp sz k X') (hg:Grew d X X') (hf:FmAt X.heap.size X'.heap.size X' t v):St d ws ad cp sz W bx (⟨X.heap.size,X'.heap.size,t,v⟩::fs) k X':= by
 have h':= h.go hr hg;refine⟨h'.rd,h'.gr,h'.hB,h'.wd,h'.bxs,h'.nd,fun x hx=>?_⟩;rcases List.mem_cons.1 hx with rfl|hx
 .exact⟨hf,h.gr.size,fun b hb=>Or.inl (z12 (h.bxs b hb).1)⟩
 .exact h'.fss x hx
theorem St.alloc (h:St d ws ad cp sz W bx fs i X) (c:Array Value) (t:TypeId):St d ws ad cp sz W ((X.heap.size,c,t)::bx) fs i (X.alloc (.cells c t)):=by
 have h':= h.below (Lb.alloc La (.cells c t));refine⟨h'.rd,h'.gr,h'.hB,h'.wd,fun b hb=>?_,List.nodup_cons.2 ⟨fun hm=>?_,h'.nd⟩,fun x hx=>?_⟩
 .rcases List.mem_cons.1 hb with rfl|hb
  .exact⟨(Ld X _).1,h.gr.size⟩
  .exact h'.bxs b hb
 .obtain⟨b,hb,e⟩:=List.mem_map.1 hm;have:=z12 (h.bxs b hb).1;have e':b.1=X.heap.size:=e;omega
 .obtain⟨h1,h2,h3⟩:=h'.fss x hx;refine⟨h1,h2,fun b hb=>?_⟩;rcases List.mem_cons.1 hb with rfl|hb
  .exact Or.inr (h.fss x hx).1.top
  .exact h3 b hb
theorem St.put {g:Nat}{c:Array Value}{t:TypeId}(h:St d ws ad cp sz W ((g,c,t)::bx) fs i X) (j:Nat) (v:Value):St d ws ad cp sz W ((g,c.setIfInBounds j v,t)::bx) fs i (X.setCell ⟨g,j,none⟩ v):=by
 obtain⟨hg,hW⟩:=h.bxs _ (List.mem_cons_self ..);have hB:=h.hB;dsimp only at hg hW;have hne:g≠d.B:=yf;have hblk:∀q,q≠g->(X.setCell ⟨g,j,none⟩ v).heap[q]?=X.heap[q]? :=fun q hq=>Lg X ⟨g,j,none⟩ v q hq
 have hs:(X.setCell ⟨g,j,none⟩ v).heap.size=X.heap.size:=vh;have hgr:Grew d W (X.setCell ⟨g,j,none⟩ v):=by
  refine⟨h.gr.os,h.gr.tape,h.gr.output,ka,fun q hq=>(hblk q xl).trans (h.gr.block q hq)⟩
 have hbx:=h.nd;rw[List.map_cons,List.nodup_cons]at hbx;refine⟨h.rd.other hne j v (fun b e=>by have:=h.wd b e;omega),hgr,hB,h.wd,fun b hb=>?_,?_,fun x hx=>?_⟩
 .rcases List.mem_cons.1 hb with rfl|hb
  .exact⟨z28 v hg,hW⟩
  .obtain⟨h1,h2⟩:=h.bxs b (List.mem_cons_of_mem _ hb);exact⟨(hblk _ (fun e=>hbx.1 (List.mem_map.2 ⟨b,hb,e⟩))).trans h1,h2⟩
 .rw[List.map_cons,List.nodup_cons];exact hbx
 .obtain⟨h1,h2,h3⟩:=h.fss x hx;have h4:=h3 _ (List.mem_cons_self ..);dsimp only at h4;refine⟨h1.keep (by rw[hs];exact h1.top) (fun q hq hq'=> hblk q yf),h2,fun b hb=>?_⟩;rcases List.mem_cons.1 hb with rfl|hb
  .exact h4
  .exact h3 b (List.mem_cons_of_mem _ hb)
theorem put_size (X:World) (g j:Nat) (v:Value):X.heap.size=(X.setCell ⟨g,j,none⟩ v).heap.size:=vh
theorem St.drop {b:Nat×Array Value×TypeId}(h:St d ws ad cp sz W (b::bx) fs i X):St d ws ad cp sz W bx fs i X:=by
 have hn:=h.nd;rw[List.map_cons,List.nodup_cons]at hn;exact⟨h.rd,h.gr,h.hB,h.wd,fun x hx=>h.bxs x (List.mem_cons_of_mem _ hx),hn.2,fun x hx=>⟨(h.fss x hx).1,(h.fss x hx).2.1,fun y hy=>(h.fss x hx).2.2 y (List.mem_cons_of_mem _ hy)⟩⟩
theorem St.box {g:Nat}{c:Array Value}{t:TypeId}(h:St d ws ad cp sz W ((g,c,t)::bx) fs i X):X.heap[g]?=some (.cells c t):=(h.bxs _ (List.mem_cons_self ..)).1
theorem St.node (h:St d ws ad cp sz W bx fs i X) (l:List Fr) (hl:∀x∈l,x∈fs) (hs:Shape W.heap.size X (n.with_ (l.map Fr.t).length) (l.map Fr.v) v):FmAt W.heap.size X.heap.size X (mkT n (l.map Fr.t)) v:=
 FmAt.of ⟨v,l.map Fr.v,[],rfl,forms_list l (fun x hx=>⟨(h.fss x (hl x hx)).1,(h.fss x (hl x hx)).2.1⟩),hs,rfl⟩
theorem St.mk0 (h:St d ws ad cp sz W bx fs i X) (hs:Shape W.heap.size X (n.with_ 0) [] v):FmAt W.heap.size X.heap.size X (mkT n []) v:=
 h.node [] (fun x hx=>mt) hs
theorem St.mk1 (h:St d ws ad cp sz W bx fs i X) {a:Fr}(ha:a∈fs) (hs:Shape W.heap.size X (n.with_ 1) [a.v] v):FmAt W.heap.size X.heap.size X (mkT n [a.t]) v:=
 h.node [a] (fun x hx=>by simp at hx;subst hx;exact ha) hs
theorem St.mk2 (h:St d ws ad cp sz W bx fs i X) {a b:Fr}(ha:a∈fs) (hb:b∈fs) (hs:Shape W.heap.size X (n.with_ 2) [a.v,b.v] v):FmAt W.heap.size X.heap.size X (mkT n [a.t,b.t]) v:=
 h.node [a,b] (fun x hx=>by simp at hx;rcases hx with rfl|rfl;exact ha;exact hb) hs
theorem St.mk3 (h:St d ws ad cp sz W bx fs i X) {a b c:Fr}(ha:a∈fs) (hb:b∈fs) (hc:c∈fs) (hs:Shape W.heap.size X (n.with_ 3) [a.v,b.v,c.v] v):FmAt W.heap.size X.heap.size X (mkT n [a.t,b.t,c.t]) v:=
 h.node [a,b,c] (fun x hx=>by simp at hx;rcases hx with rfl|rfl|rfl;exact ha;exact hb;exact hc) hs
theorem St.same (h:St d ws ad cp sz W bx fs i X) {a:Fr}(ha:a∈fs):FmAt W.heap.size X.heap.size X a.t a.v:=
 FmAt.of (Forms.kept (h.fss a ha).2.1 La (fun _ _ _=>rfl) (h.fss a ha).1.forms)
theorem St.err (h:St d ws ad cp sz W bx fs i X) {α:Type}{Q:α->Ending->World->Prop}{R:Except Nat (α×Nat)}{j:Nat}(hR:.error j=R) (hg:Grew d X X'):PostX d ws ad cp sz Q R W (.panicked [faultAt ws sz j]) X':= by
 subst hR;exact⟨rfl,h.gr.trans hg⟩
theorem St.fin (h:St d ws ad cp sz W bx fs i X) {R:Except Nat (Tr×Nat)}{T:TypeId}{p:Value}(hR:.ok (t,i)=R) (hf:FmAt W.heap.size X.heap.size X t (.iface T p)):PostT d ws ad cp sz R W (.returned (.iface T p)) X:=by
 subst hR;exact⟨⟨T,p,rfl,hf⟩,h.rd,h.gr⟩
theorem St.fold (h:St d ws ad cp sz W bx fs i X) (hf:FmAt W.heap.size X.heap.size X t v):St d ws ad cp sz W [] [⟨W.heap.size,X.heap.size,t,v⟩] i X:=
 ⟨h.rd,h.gr,h.hB,h.wd,fun b hb=>(by cases hb),List.nodup_nil,fun x hx=>(by
  simp at hx;subst hx;exact⟨hf,La,fun b hb=>(by cases hb)⟩)⟩
end
section
variable {α β:Type}{ws:List Wd}{p q:PI α}{k:α->PI β}{i j:Nat}{a:α}
theorem bi_ok {R:Except Nat (β×Nat)}(h:bindI p k i=R) (hq:p i=.ok (a,j)):k a j=R:=by
 unfold bindI at h;rw[hq]at h;exact h
theorem bi_er {R:Except Nat (β×Nat)}(h:bindI p k i=R) (hq:p i=.error j):.error j=R:=by
 unfold bindI at h;rw[hq]at h;exact h
theorem oi_t {R:Except Nat (α×Nat)}(h:orI ws l p q i=R) (hz:seesI ws i l=true):p (i+1)=R:=by
 unfold orI at h;rw[hz]at h;exact h
theorem oi_f {R:Except Nat (α×Nat)}(h:orI ws l p q i=R) (hz:seesI ws i l=false):q i=R:=by
 unfold orI at h;rw[hz]at h;exact h
end
theorem ip_goes {ws:List Wd}(hw:BriefW ws) (ho:WordsOk ws) (f:Nat) {nt:Nt Tr}{nt':Nt (List Nd)}(hn:NtR nt' nt) (hb:NtB nt') {i k:Nat}(hi:i<=ws.length) (h:ipz ws f nt i=.ok (t,k)):i<=k/\k<=ws.length:=by
 have ha:=(parse_alike ho f hn).same i;rw[h]at ha;obtain⟨a,h1,-⟩:=ha;have hg:=goes_at hw f nt' hb (s:=⟨i,false⟩) hi;rw[h1]at hg;exact⟨hg.on,hg.lt⟩
theorem ip_atom {ws:List Wd}(hw:BriefW ws) (ho:WordsOk ws) (f:Nat) {i k:Nat}(hi:i<=ws.length) (h:ipz ws f .atom i=.ok (t,k)):i<k:=by
 cases f with
 |zero=>cases h
 | succ f=>
   have h':atomI ws (ipz ws f) i=.ok (t,k):=h;unfold atomI at h';by_cases hs:startsI ws i=true
   .have ha:=(parse_alike ho (f+1) NtR.atom).same i;rw[h]at ha;obtain⟨a,h1,-⟩:=ha;obtain⟨c,h2,h3,-,h5⟩:=atom_m hw (part_m hw f) ⟨i,false⟩ hi;have h6:=h5 hs;have h7:atomS ws (spz ws f) ⟨i,false⟩=(a,⟨k,false⟩):=h1;rw[h7]at h2;dsimp only at h2;omega
   .rw[if_neg hs]at h'
    cases h'
def mi (ws:List Wd) (n i:Nat):Nat:=16*(ws.length-i)+n
structure PiAll (d:Dr) (ws:List Wd) (ad:Option Addr) (cp sz:Nat) (f:Nat):Prop where
 expr:∀i W,RdAt d ws ad cp sz i W->mi ws 11 i<=f->Calls prog 57 #[.pointer (some ⟨d.B,0,none⟩)] W (PostT d ws ad cp sz (ipz ws f .expr i) W)
 cons:∀i W,RdAt d ws ad cp sz i W->mi ws 10 i<=f->Calls prog 102 #[.pointer (some ⟨d.B,0,none⟩)] W (PostT d ws ad cp sz (ipz ws f .cons i) W)
 comp:∀i W,RdAt d ws ad cp sz i W->mi ws 9 i<=f->Calls prog 124 #[.pointer (some ⟨d.B,0,none⟩)] W (PostT d ws ad cp sz (ipz ws f .comp i) W)
 sum:∀i W,RdAt d ws ad cp sz i W->mi ws 8 i<=f->Calls prog 135 #[.pointer (some ⟨d.B,0,none⟩)] W (PostT d ws ad cp sz (ipz ws f .sum i) W)
 prod:∀i W,RdAt d ws ad cp sz i W->mi ws 6 i<=f->Calls prog 142 #[.pointer (some ⟨d.B,0,none⟩)] W (PostT d ws ad cp sz (ipz ws f .prod i) W)
 call:∀i W,RdAt d ws ad cp sz i W->mi ws 4 i<=f->Calls prog 145 #[.pointer (some ⟨d.B,0,none⟩)] W (PostT d ws ad cp sz (ipz ws f .call i) W)
 atom:∀i W,RdAt d ws ad cp sz i W->mi ws 2 i<=f->Calls prog 151 #[.pointer (some ⟨d.B,0,none⟩)] W (PostT d ws ad cp sz (ipz ws f .atom i) W)
 hand:∀k i W,RdAt d ws ad cp sz i W->mi ws 12 i<=f->k=23\/k=24->Calls prog 156 #[.pointer (some ⟨d.B,0,none⟩),.int .i64 k] W (PostT d ws ad cp sz (ipz ws f (.hand k) i) W)
theorem fld_0 (a:Int) (b:ByteArray) (c:Int) (w:World):(Instr.field 76 (.agg #[.int .i64 a,.string b,.int .i64 c]) 0).run prog w=.ok (.int .i64 a) w:=yb
theorem fld_1 (a:Int) (b:ByteArray) (c:Int) (w:World):(Instr.field 76 (.agg #[.int .i64 a,.string b,.int .i64 c]) 1).run prog w=.ok (.string b) w:=yb
theorem fld_2 (a:Int) (b:ByteArray) (c:Int) (w:World):(Instr.field 76 (.agg #[.int .i64 a,.string b,.int .i64 c]) 2).run prog w=.ok (.int .i64 c) w:=yb
section
variable {d:Dr}{ws:List Wd}{ad:Option Addr}{cp sz:Nat}
theorem sees_cur {i:Nat}(hl:l≠ []):((curI ws sz i).text.toList==l)=seesI ws i l:=by
 unfold curI seesI;by_cases hi:i<ws.length
 .rw[if_pos hi,decide_eq_true hi,Bool.true_and]
 .rw[if_neg hi,decide_eq_false hi,Bool.false_and];have:=no_bytes;rw[this]
  cases l with
  |nil=>exact absurd rfl hl
  |cons a l=>rfl
theorem peek_at {i:Nat}{W:World}{kd:Int}{tx:ByteArray}{wa:Nat}(h:RdAt d ws ad cp sz i W) (hc:curI ws sz i=⟨kd,tx,wa⟩) :
 Calls prog 94 #[.pointer (some ⟨d.B,0,none⟩)] W fun e W'=> e=.returned (.agg #[.int .i64 kd,.string tx,.int .i64 (wa:Int)])/\Below W.heap.size W W':= by
 have hP:=peek_calls i W h;rw[hc]at hP;exact hP
theorem misfit_calls (i:Nat) (W:World) (h:RdAt d ws ad cp sz i W) :
 Calls prog 58 #[.pointer (some ⟨d.B,0,none⟩)] W fun e W'=> e=.returned (faultV ws sz i)/\Below W.heap.size W W':= by
 have H:=J h;unfold faultV;obtain⟨⟨kd,tx,wa⟩,hc⟩:∃c,curI ws sz i=c:=⟨_,rfl⟩
 rw[hc];have HC:=J hc;clear h hc;have hf:=fld_2 kd tx (wa:Int);go_enter func58,ntmps58
 go_wp2_with fail
 have hb:=(Below.refl W.heap.size W).alloc La (.cells #[.int .i64 0,.int .i64 0] 31);have hg:=(Ld W (.cells #[.int .i64 0,.int .i64 0] 31)).1;have HP:=J (peek_at (H.o.below hb) HC.o);have HB:=J hb;obtain⟨Y,hY⟩:∃Y,W.alloc (.cells #[.int .i64 0,.int .i64 0] 31)=Y:=⟨_,rfl⟩
 rw[hY]at hg HP HB |-;obtain⟨g,hgg⟩:∃g,W.heap.size=g:=⟨_,rfl⟩
 rw[hgg]at hg HB |-;have HF:=J hgg;have HG:=J hg;clear hb hg hY hgg;refine HP.o.mono ?_;rintro e X ⟨rfl,hb⟩;have HX:=J ((hb.block _ (z12 HG.o)).trans HG.o);have HB:=J (HB.o.trans (hb.mono (by have:=HB.o.size;have:=HF.o;omega)));clear hb HP;have g0:=z8 HX.o 0;have g1:=z8 HX.o 1;obtain⟨z0,z1⟩:=ffz2 HX.o;simp at g0 g1;go_wp2_with fail
 obtain⟨k0,k1⟩:=fcl2 (z28 (i:=1) (.int .i64 (wa:Int)) (z28 (i:=0) (.int .i64 5) HX.o));have hl:=(HB.o.setCell (p:=⟨g,0,none⟩) La (.int .i64 5)).setCell (p:=⟨g,1,none⟩) La (.int .i64 (wa:Int));refine bodyPost_ret (v:=.agg #[.int .i64 5,.int .i64 (wa:Int)]) (by simp[results,results58,go_sem,k0,k1]) rfl ⟨rfl,?_⟩;rw[HF.o];exact hl
theorem misfit_at {i:Nat}{W:World}(h:RdAt d ws ad cp sz i W) (hv:faultV ws sz i=v) :
 Calls prog 58 #[.pointer (some ⟨d.B,0,none⟩)] W fun e W'=> e=.returned v/\Below W.heap.size W W':= by
 subst hv;exact misfit_calls i W h
theorem sees_calls (i:Nat) (t:ByteArray) (l:List UInt8) (ht:t.toList=l) (hl:l≠ []) (W:World) (h:RdAt d ws ad cp sz i W) :
 Calls prog 55 #[.pointer (some ⟨d.B,0,none⟩),.string t] W fun e W'=> e=.returned (.bool (seesI ws i l))/\Below W.heap.size W W':= by
 have H:=J h;have hs:=sees_cur (ws:=ws) (sz:=sz) (i:=i) hl;obtain⟨⟨kd,tx,wa⟩,hc⟩:∃c,curI ws sz i=c:=⟨_,rfl⟩
 rw[hc]at hs;rw[<-hs];have HC:=J hc;clear h hc hs;have hf:=fld_1 kd tx (wa:Int);go_enter func55,ntmps55
 go_wp2_with fail
 refine(peek_at H.o HC.o).mono ?_;rintro e X ⟨rfl,hb⟩;go_wp2_with fail
 go_ret;exact⟨rfl,hb⟩
theorem skips_t {i:Nat}{t:ByteArray}{W:World}(h:RdAt d ws ad cp sz i W) (ht:t.toList=l) (hl:l≠ []) (hz:seesI ws i l=true) :
 Calls prog 98 #[.pointer (some ⟨d.B,0,none⟩),.string t] W fun e W'=> e=.returned (.bool true)/\RdAt d ws ad cp sz (i+1) W'/\Grew d W W':= by
 have hS:=sees_calls i t l ht hl W h;rw[hz]at hS;have HS:=J hS;have H:=J h;have hlt:i<ws.length:=yaw;have hw:wrap64 ((i:Int)+1)=((i+1:Nat):Int):=z18 (by have:=h.few;omega);have HW:=J (Lc hw hlt);clear h hS hz ht hl hw hlt;go_enter func98,ntmps98
 go_wp2_with fail
 refine HS.o.mono ?_;rintro e X ⟨rfl,hb⟩;have H1:=J (H.o.below hb);have G1:=J (Grew.of_below (d:=d) hb);have q1:=z8 H1.o.blk 1;have z1:=z11 H1.o.blk 1;simp at q1;clear hb;go_wp2_with fail
 go_ret;rw[HW.o.1];exact⟨rfl,H1.o.move (k:=i+1) HW.o.2,G1.o.trans (z42 X 1 _)⟩
theorem skips_f {i:Nat}{t:ByteArray}{W:World}(h:RdAt d ws ad cp sz i W) (ht:t.toList=l) (hl:l≠ []) (hz:seesI ws i l=false) :
 Calls prog 98 #[.pointer (some ⟨d.B,0,none⟩),.string t] W fun e W'=> e=.returned (.bool false)/\RdAt d ws ad cp sz i W'/\Grew d W W':= by
 have hS:=sees_calls i t l ht hl W h;rw[hz]at hS;have HS:=J hS;have H:=J h;clear h hS hz ht hl;go_enter func98,ntmps98
 go_wp2_with fail
 refine HS.o.mono ?_;rintro e X ⟨rfl,hb⟩;go_wp2_with fail
 go_ret;exact⟨rfl,H.o.below hb,Grew.of_below hb⟩
theorem rname_calls (i:Nat) (W:World) (h:RdAt d ws ad cp sz i W) :
 Calls prog 96 #[.pointer (some ⟨d.B,0,none⟩)] W (PostS d ws ad cp sz (nameI ws i) W):=by
 have H:=J h;obtain⟨⟨kd,tx,wa⟩,hc⟩:∃c,curI ws sz i=c:=⟨_,rfl⟩
 have HC:=J hc;clear h hc;by_cases hk:kd=2
 ·have hlt:i<ws.length:=by
   have:=HC.o;unfold curI at this;split at this
   .assumption
   .simp at this;omega
  have hn:nameI ws i=.ok (tx,i+1):=by
   have h1:=HC.o;unfold curI at h1;rw[if_pos hlt]at h1;unfold nameI;rw[h1,if_pos ⟨hlt,hk⟩]
  subst hk;rw[hn];have hw:wrap64 ((i:Int)+1)=((i+1:Nat):Int):=z18 (by have:=H.o.few;omega);have HW:=J (Lc hw hlt);clear hn hlt hw;go_enter func96,ntmps96
  go_wp2_with fail
  refine(peek_at H.o HC.o).mono ?_;rintro e X ⟨rfl,hb⟩;have H1:=J (H.o.below hb);have G1:=J (Grew.of_below (d:=d) hb);clear hb;have p1:=z8 H1.o.blk 1;have z1:=z11 H1.o.blk 1;have hl:=z12 H1.o.blk;simp at p1;go_wp2_with fail
  rw[HW.o.1];go_ret;have hm:=H1.o.move (k:=i+1) HW.o.2;have hb:=(Below.refl (X.setCell ⟨d.B,1,none⟩ (.int .i64 ((i+1:Nat):Int))).heap.size (X.setCell ⟨d.B,1,none⟩ (.int .i64 ((i+1:Nat):Int)))).alloc La (.cells #[.int .i64 2,.string tx,.int .i64 (wa:Int)] 76);exact⟨rfl,hm.below hb,(G1.o.trans (z42 X 1 _)).trans (Grew.of_below hb)⟩
 ·have hn:nameI ws i=.error i:=by
   unfold nameI;by_cases hlt:i<ws.length
   .have h1:=HC.o;unfold curI at h1;rw[if_pos hlt]at h1;rw[h1,if_neg (fun h=>hk h.2)]
   .rw[if_neg (fun h=>hlt h.1)]
  rw[hn];clear hn;obtain⟨fv,hfv⟩:∃v,faultV ws sz i=v:=⟨_,rfl⟩
  have HV:=J hfv;clear hfv;go_enter func96,ntmps96
  go_wp2_with fail
  refine(peek_at H.o HC.o).mono ?_;rintro e X ⟨rfl,hb⟩;have H1:=J (H.o.below hb);have G1:=J (Grew.of_below (d:=d) hb);clear hb;go_wp2_with fail
  have hb:=(Below.refl X.heap.size X).alloc La (.cells #[.int .i64 kd,.string tx,.int .i64 (wa:Int)] 76);refine(misfit_at (H1.o.below hb) HV.o).mono ?_;rintro e Y ⟨rfl,hb2⟩;have HG:=J (G1.o.trans ((Grew.of_below hb).trans (Grew.of_below hb2)));clear hb hb2;go_wp2_with fail
  rw[<-HV.o];exact⟨rfl,rfl,HG.o⟩
end
def mustI (ws:List Wd):List (List UInt8)->PI Unit
 |[]=>pureI ()
 |l::r=>bindI (takeI ws l) fun _=>mustI ws r
section
variable {d:Dr}{ws:List Wd}{ad:Option Addr}{cp sz:Nat}
theorem take_t {i:Nat}(hz:seesI ws i l=true):takeI ws l i=.ok ((),i+1):=by
 unfold takeI;rw[hz];rfl
theorem take_f {i:Nat}(hz:seesI ws i l=false):takeI ws l i=.error i:=by
 unfold takeI;rw[hz];rfl
theorem must_calls (ts:List ByteArray) (g:Nat) (t:TypeId) {i:Nat}{W:World}(h:RdAt d ws ad cp sz i W) (hg:W.heap[g]?=some (.cells (ts.map Value.string).toArray t)) (hB:g≠d.B) (hn:ts.length<=3) (hl:∀t∈ts,t.toList≠ []) :
 Calls prog 95 #[.pointer (some ⟨d.B,0,none⟩),.slice (some ⟨g,0,none⟩) ts.length ts.length] W (PostU d ws ad cp sz (mustI ws (ts.map ByteArray.toList) i) W):=by
 obtain⟨R,hR⟩:∃R,mustI ws (ts.map ByteArray.toList) i=R:=⟨_,rfl⟩
 rw[hR];obtain⟨n,hnn⟩:∃n,ts.length=n:=⟨_,rfl⟩
 rw[hnn];have H:=J h;have HR:=J hR;have HN:=J (Lc hnn (Lc hn hl));have HG:=J (Lc hg hB);clear h hR hnn hg hB hn hl;go_enter func95,ntmps95
 go_wp2_with fail
 go_loopw [8] (fun v wr=> ∃m:Nat,v=.int .i64 (m:Int)/\I (m<=n/\ ∃k,mustI ws ((ts.drop m).map ByteArray.toList) k=R/\RdAt d ws ad cp sz k wr/\Grew d W wr)) (fun v _=>n-(intOf v).toNat)
 case atStart=>exact⟨0,rfl,J ⟨Li _,i,HR.o,H.o,Grew.refl d W⟩⟩
 case round=>
  obtain⟨m,rfl,hm⟩:=hrel;have HM:=J hm.o;clear hm;by_cases hc:(m:Int)<(n:Int)
  .obtain⟨h1,k,h2,h3,h4⟩:=HM.o;have hml:m<ts.length:=by have:=HN.o.1;omega
   obtain⟨x,hx⟩:∃x,ts[m]?=some x:=⟨ts[m],List.getElem?_eq_getElem hml⟩
   have hdr:ts.drop m=x::ts.drop (m+1):=by
    rw[List.drop_eq_getElem_cons hml];rw[List.getElem?_eq_getElem hml]at hx;rw[Option.some.inj hx]
   have hxl:x.toList≠ []:=HN.o.2.2 x (Lh hx);have hcell:wr.cell? ⟨g,m,none⟩=some (.string x):=by
    have hb:=(h4.block g ⟨z12 HG.o.1,HG.o.2,by rw[h3.eq];exact HG.o.2⟩).trans HG.o.1;rw[z8 hb m];simp[hx]
   rw[hdr]at h2;have HR2:=J (show bindI (takeI ws x.toList) (fun _=>mustI ws ((ts.drop (m+1)).map ByteArray.toList)) k=R from h2);have H3:=J h3;have H4:=J h4;have HX:=J hxl;have h0:(0:Int)<=(m:Int):=yf;clear h1 h2 h3 h4 hdr hxl hx hml;go_wp2_with fail
   by_cases hz:seesI ws k x.toList=true
   .refine(skips_t H3.o rfl HX.o hz).mono ?_;rintro e X ⟨rfl,hr,hgr⟩;have HR3:=J (bi_ok HR2.o (take_t hz));have HX2:=J (Lc hr (H4.o.trans hgr));clear hr hgr hz;go_wp2_with fail
    rw[z18 (by have:=HN.o;omega)];exact⟨⟨m+1,rfl,J ⟨yf,k+1,HR3.o,HX2.o⟩⟩,z47 hc⟩
   .have hz':seesI ws k x.toList=false:=by simpa using hz
    refine(skips_f H3.o rfl HX.o hz').mono ?_;rintro e X ⟨rfl,hr,hgr⟩;have HE:=J (bi_er HR2.o (take_f hz'));have HX2:=J (Lc hr (H4.o.trans hgr));clear hr hgr hz hz';go_wp2_with fail
    refine(misfit_calls k X HX2.o.1).mono ?_;rintro e Y ⟨rfl,hb⟩;go_wp2_with fail
    rw[<-HE.o];exact⟨rfl,rfl,HX2.o.2.trans (Grew.of_below hb)⟩
  .obtain⟨h1,k,h2,h3,h4⟩:=HM.o;have hd:ts.drop m= []:=List.drop_eq_nil_of_le (by have:=HN.o.1;omega);rw[hd]at h2;have HE:=J (show Except.ok ((),k)=R from h2);have H3:=J h3;have H4:=J h4;clear h1 h2 h3 h4 hd;go_wp2_with fail
   first|go_end0|refine bodyPost_ret (results_none rfl _ _ _) rfl ?_
   rw[<-HE.o];exact⟨⟨_,rfl⟩,H3.o,H4.o⟩
theorem must_at {l:List (List UInt8)}(ts:List ByteArray) (cs:Array Value) (m:Nat) {i:Nat}{X:World}(h:RdAt d ws ad cp sz i X) (hc:cs=(ts.map Value.string).toArray) (hm:m=ts.length) (hts:ts.map ByteArray.toList=l) (hn:ts.length<=3) (hl:∀x∈l,x≠ []) :
 Calls prog 95 #[.pointer (some ⟨d.B,0,none⟩),.slice (some ⟨X.heap.size,0,none⟩) m m] (X.alloc (.cells cs 9)) (PostU d ws ad cp sz (mustI ws l i) X):=by
 subst hc hm hts;have hb:=(Below.refl X.heap.size X).alloc La (.cells (ts.map Value.string).toArray 9);have hB:=z12 h.blk;refine(must_calls ts X.heap.size 9 (h.below hb) (Ld X _).1 yf hn (fun t ht=>hl _ (List.mem_map_of_mem ht))).mono ?_;intro e W' hp;rcases post_x hp with ⟨j,hq,rfl,hg⟩|⟨u,k,hq,hv,hr,hg⟩
 .rw[hq];exact⟨rfl,(Grew.of_below hb).trans hg⟩
 .rw[hq];exact⟨hv,hr,(Grew.of_below hb).trans hg⟩
theorem must1 (t1:ByteArray) {l1:List UInt8}{i:Nat}{X:World}(h:RdAt d ws ad cp sz i X) (e1:t1.toList=l1) (h1:l1≠ []) :
 Calls prog 95 #[.pointer (some ⟨d.B,0,none⟩),.slice (some ⟨X.heap.size,0,none⟩) 1 1] (X.alloc (.cells #[.string t1] 9)) (PostU d ws ad cp sz (mustI ws [l1] i) X):=
 must_at [t1] _ 1 h rfl rfl (by rw[<-e1];rfl) yn (fun x hx=>ud)
theorem must2 (t1 t2:ByteArray) {l1 l2:List UInt8}{i:Nat}{X:World}(h:RdAt d ws ad cp sz i X) (e1:t1.toList=l1) (h1:l1≠ []) (e2:t2.toList=l2) (h2:l2≠ []) :
 Calls prog 95 #[.pointer (some ⟨d.B,0,none⟩),.slice (some ⟨X.heap.size,0,none⟩) 2 2] (X.alloc (.cells #[.string t1,.string t2] 9)) (PostU d ws ad cp sz (mustI ws [l1,l2] i) X):=
 must_at [t1,t2] _ 2 h rfl rfl (by rw[<-e1,<-e2];rfl) yn (fun x hx=>ue)
theorem must3 (t1 t2 t3:ByteArray) {l1 l2 l3:List UInt8}{i:Nat}{X:World}(h:RdAt d ws ad cp sz i X) (e1:t1.toList=l1) (h1:l1≠ []) (e2:t2.toList=l2) (h2:l2≠ []) (e3:t3.toList=l3) (h3:l3≠ []) :
 Calls prog 95 #[.pointer (some ⟨d.B,0,none⟩),.slice (some ⟨X.heap.size,0,none⟩) 3 3] (X.alloc (.cells #[.string t1,.string t2,.string t3] 9)) (PostU d ws ad cp sz (mustI ws [l1,l2,l3] i) X):=
 must_at [t1,t2,t3] _ 3 h rfl rfl (by rw[<-e1,<-e2,<-e3];rfl) yn (fun x hx=>ug)
end
section
variable {ws:List Wd}{β:Type}{i j:Nat}{u:Unit}{k:Unit->PI β}{R:Except Nat (β×Nat)}{l1 l2 l3:List UInt8}
theorem taken_on (hq:takeI ws l1 i=.ok (u,j)):j=i+1:=by
 unfold takeI at hq;split at hq
 .simp at hq;exact hq.symm
 .cases hq
theorem m1_ok (h:bindI (takeI ws l1) k i=R) (hq:mustI ws [l1] i=.ok (u,j)):k () j=R/\i+1<=j:=by
 unfold mustI bindI at hq;unfold bindI at h
 cases h1:takeI ws l1 i with
 |error e=>rw[h1]at hq;cases hq
 | ok r=>
   obtain⟨x,y⟩:=r;have e1:=taken_on h1;rw[h1]at hq h;simp only[mustI,pureI,Except.ok.injEq,Prod.mk.injEq]at hq;obtain⟨-,rfl⟩:=hq;exact⟨h,yf⟩
theorem m1_er (h:bindI (takeI ws l1) k i=R) (hq:mustI ws [l1] i=.error j):.error j=R:=by
 unfold mustI bindI at hq;unfold bindI at h
 cases h1:takeI ws l1 i with
 |error e=>rw[h1]at hq h;cases hq;exact h
 |ok r=>rw[h1]at hq;cases hq
theorem m2_ok (h:bindI (takeI ws l1) (fun _=>bindI (takeI ws l2) k) i=R) (hq:mustI ws [l1,l2] i=.ok (u,j)):k () j=R/\i+2<=j:=by
 unfold mustI bindI at hq;unfold bindI at h
 cases h1:takeI ws l1 i with
 |error e=>rw[h1]at hq;cases hq
 | ok r=>
   obtain⟨x,y⟩:=r;have e1:=taken_on h1;rw[h1]at hq h;obtain⟨a,b⟩:=m1_ok h hq;exact⟨a,yf⟩
theorem m2_er (h:bindI (takeI ws l1) (fun _=>bindI (takeI ws l2) k) i=R) (hq:mustI ws [l1,l2] i=.error j):.error j=R:=by
 unfold mustI bindI at hq;unfold bindI at h
 cases h1:takeI ws l1 i with
 |error e=>rw[h1]at hq h;cases hq;exact h
 |ok r=>rw[h1]at hq h;exact m1_er h hq
theorem m3_ok (h:bindI (takeI ws l1) (fun _=>bindI (takeI ws l2) (fun _=>bindI (takeI ws l3) k)) i=R) (hq:mustI ws [l1,l2,l3] i=.ok (u,j)):k () j=R/\i+3<=j:=by
 unfold mustI bindI at hq;unfold bindI at h
 cases h1:takeI ws l1 i with
 |error e=>rw[h1]at hq;cases hq
 | ok r=>
   obtain⟨x,y⟩:=r;have e1:=taken_on h1;rw[h1]at hq h;obtain⟨a,b⟩:=m2_ok h hq;exact⟨a,yf⟩
theorem m3_er (h:bindI (takeI ws l1) (fun _=>bindI (takeI ws l2) (fun _=>bindI (takeI ws l3) k)) i=R) (hq:mustI ws [l1,l2,l3] i=.error j):.error j=R:=by
 unfold mustI bindI at hq;unfold bindI at h
 cases h1:takeI ws l1 i with
 |error e=>rw[h1]at hq h;cases hq;exact h
 |ok r=>rw[h1]at hq h;exact m2_er h hq
theorem name_on {n:ByteArray}(hq:nameI ws i=.ok (n,j)):j=i+1:=by
 unfold nameI at hq;split at hq
 .simp at hq;exact hq.2.symm
 .cases hq
end
end
end Go.Proofs.YtfbojelpdccjaaaGreatDoor
