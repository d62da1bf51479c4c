import Derived.Test.YtfbojelpdccjaaaGreatDoorPkT31
open Go.Proofs.Tryz
set_option maxHeartbeats 8000000
set_option maxRecDepth 100000
namespace Go.Proofs.YtfbojelpdccjaaaGreatDoor
open Go.RowKit Go.Deep
variable {a':Act}{ls ls':Array Bool}{c f n:Nat}{o:Oper}{t:Tr}{v:Value}{w:World}
section
open Go.RowKit Go.Deep
def DiesIf (D:List PanicEntry->World->Prop) (Q:Exit->Act->World->Prop):Exit->Act->World->Prop
 |.panic c,a,w=>a.defers= []/\D c w
 |e,a,w=>Q e a w
section
variable {P:Program}{l0:List Oper}{Q:Exit->Act->World->Prop}{S:World->Prop}{D:List PanicEntry->World->Prop}
theorem dies_begin {id:Nat}{a:Act}(hQ:∀c a w,a.defers= []->D c w->Q (.panic c) a w) (hm:P.follows .mixedOrders=true) (hn:l0.length=n) (hl:Array.replicate l0.length false=ls) (h:wpTill P l0.toArray (DiesIf D Q) S c (wpAny P .any l0.toArray (DiesIf D Q)) n ls a w.drew):(Code.region id l0.toArray true).wp P Q a w:=by
 refine Code.wp_mono (Q:=DiesIf D Q) (fun e a w h=>?_) (wp_region_any hm ?_)
 .cases e<;>first|exact h|exact hQ _ _ _ h.1 h.2
 .subst hn;subst hl;have:=any_of_till _ _ _ _ h;simpa using this
theorem dies_op {k:Nat}{a:Act}(hls:ls=upTo l0.length k) (hk:k<=l0.length) (hsh:shutB l0 k=true) (hs:Region.noSelect l0.toArray=true) (ho:l0[k]?=some o) (hf:Region.free .any l0.toArray ls k=true) (hr:(Region.ready .any l0.toArray ls).contains k=true) (hc:waitsB l0.toArray 10 c k=true) (hkc:k≠c) (hl:ls.setIfInBounds k true=ls')
 (hw:Region.wanted o (yielded l0.toArray a.tmps)=true) (hy:∀w',S w'->(execOp a.eval o).run P w'=.ok (.value v) w') (hS:S w) (hput:a.put o.dst v=a') (hQ:∀c a w,DiesIf D Q (.panic c) (a.put o.dst v) w->DiesIf D Q (.panic c) a w) (h:wpTill P l0.toArray (DiesIf D Q) S c (wpAny P .any l0.toArray (DiesIf D Q)) n ls' a' w):wpTill P l0.toArray (DiesIf D Q) S c (wpAny P .any l0.toArray (DiesIf D Q)) (n+1) ls a w:=by
 subst hl;subst hput;have ho':l0.toArray[k]?=some o:=zf;exact till_first ho' hs hQ hc hkc n ls a w (hls ▸ shut_upTo hk hsh) (Region.free_spec ho' hf) zg (Or.inl ⟨hw,hy⟩) hS h
theorem dies_make {i:Nat}{a:Act}{w1:World}(ho:l0[i]?=some o) (hr:(Region.ready .any l0.toArray ls== [i])=true) (hic:i≠c) (hl:ls.setIfInBounds i true=ls')
 (hw:Region.wanted o (yielded l0.toArray a.tmps)=true) (hrun:(execOp a.eval o).run P w=.ok (.value v) w1) (hS:S w1) (hput:a.put o.dst v=a') (h:wpTill P l0.toArray (DiesIf D Q) S c (wpAny P .any l0.toArray (DiesIf D Q)) n ls' a' w1):wpTill P l0.toArray (DiesIf D Q) S c (wpAny P .any l0.toArray (DiesIf D Q)) (n+1) ls a w:=by
 subst hl;subst hput;have ho':l0.toArray[i]?=some o:=zf;have hr':Region.ready .any l0.toArray ls= [i]:=zg;refine⟨by rw[hr'];simp,fun j hj=>?_⟩;rw[hr',List.mem_singleton]at hj;subst hj;rw[if_neg hic];refine zb24 ?_;exact⟨hS,h⟩
theorem dies_enter {i:Nat}{f:FuncId}{args:Array Value}{a:Act}(ho:l0[i]?=some o) (hr:(Region.ready .any l0.toArray ls== [i])=true) (hic:i≠c) (hl:ls.setIfInBounds i true=ls') (hw:Region.wanted o (yielded l0.toArray a.tmps)=true)
 (hrun:(execOp a.eval o).run P w=.ok (.enter f args) w) (hd:a.defers= []) (h:Calls P f args w fun e w'=> (∃v,e=.returned v/\S w'/\wpTill P l0.toArray (DiesIf D Q) S c (wpAny P .any l0.toArray (DiesIf D Q)) n ls' (a.put o.dst v) w')\/ ∃c,e=.panicked c/\D c w'):wpTill P l0.toArray (DiesIf D Q) S c (wpAny P .any l0.toArray (DiesIf D Q)) (n+1) ls a w:=by
 subst hl;have ho':l0.toArray[i]?=some o:=zf;have hr':Region.ready .any l0.toArray ls= [i]:=zg;refine⟨by rw[hr'];simp,fun j hj=>?_⟩;rw[hr',List.mem_singleton]at hj;subst hj;rw[if_neg hic];refine zb24 ?_;refine Calls.mono h ?_;rintro e w3 (⟨v,rfl,hS,hn⟩|⟨c,rfl,hc⟩)
 .exact⟨hS,hn⟩
 .exact⟨hd,hc⟩
theorem dies_frame {a:Act}{K:Nat->Array Bool->Act->World->Prop}(ha:a=a') (h:wpTill P l0.toArray (DiesIf D Q) S c K n ls a' w):wpTill P l0.toArray (DiesIf D Q) S c K n ls a w:=by
 subst ha;exact h
theorem dies_last {a:Act}{w1:World}(hd:o.dst=none) (ho:l0[c]?=some o) (hr:(Region.ready .any l0.toArray ls== [c])=true) (hl:ls.setIfInBounds c true=ls') (hw:Region.wanted o (yielded l0.toArray a.tmps)=true)
 (hrun:(execOp a.eval o).run P w=.ok .skip w1) (hr2:(Region.ready .any l0.toArray ls').isEmpty=true) (h:Q .normal a w1):wpTill P l0.toArray (DiesIf D Q) S c (wpAny P .any l0.toArray (DiesIf D Q)) (n+1) ls a w:=by
 subst hl;have ho':l0.toArray[c]?=some o:=zf;have hr':Region.ready .any l0.toArray ls= [c]:=zg;refine⟨by rw[hr'];simp,fun j hj=>?_⟩;rw[hr',List.mem_singleton]at hj;subst hj;rw[if_pos rfl];unfold wpOp;rw[ho'];dsimp only;rw[if_pos hw];refine Or.inl ?_;have hp:a.put o.dst undef=a:=by rw[hd];rfl
 unfold Oper.wp;rw[hrun];show wpAny P .any l0.toArray (DiesIf D Q) n _ (a.put o.dst undef) w1;rw[hp];exact wpAny_of_held (S:=fun _=>True) _ _ _ _ (wpAnyH_done (Q:=DiesIf D Q) (by simpa using hr2) h n)
end
theorem wpList_append_run {P:Program}{ops:Array Oper}{rest:List Oper}{a:Act}{Q:Exit->Act->World->Prop}(hgd:o.guard=none) (s x:Operand) (t:TypeId)
 (ho:o.op=.call { callee:=.builtin .append,args:= #[s,x],argTypes:= #[t,t] }) (v xv:Value) (hs:a.eval s=v) (hx:a.eval x=xv) {v':Value} {w':World}
 (hr:(Builtin.append_ #[t,t] o.type #[v,xv]).run P w=.ok v' w') (h:wpList P ops Q rest (a.put o.dst v') w') :
 wpList P ops Q (o::rest) a w:=by
 refine wpList_plain hgd fun K hK=>?_
 unfold Oper.wp execOp;simp only[ho,resolve,invoke,builtin,Sem.run_bind,Sem.run_pure,Result.andThen_ok,List.map_toArray,List.map_cons,List.map_nil,hs,hx,hr];exact hK _ _ h
theorem FmAt.node1 {lo hi:Nat}{X:World}{n:Nd}{u:Value}(h:FmAt lo hi X t v) (hs:∀w,Shape lo w (n.with_ 1) [v] u):FmAt lo hi X (mkT n [t]) u:=by
 obtain⟨W0,h1,h2,h3,h4⟩:=h;obtain⟨v',us,rest,e,g1,g2,g3⟩:=h1;obtain⟨rfl,rfl⟩:v=v'/\rest= []:=by simp at e;exact e
 exact⟨W0,⟨u,[v],[],rfl,⟨v,us,[],rfl,g1,g2,rfl⟩,hs W0,rfl⟩,h2,h3,h4⟩
theorem bind_assoc {α β γ:Type}(p:PI α) (k:α->PI β) (m:β->PI γ):bindI (bindI p k) m=bindI p (fun a=>bindI (k a) m):=by
 funext i
 unfold bindI
 cases p i with
 |error j=>rfl
 |ok r=>rfl
theorem pure_bindI {α β:Type}(a:α) (m:α->PI β):bindI (pureI a) m=m a:=rfl
def opI' (ws:List Wd) (go:Nt Tr->PI Tr):PI Tr:=bindI (nameI ws) fun a=>bindI (nameI ws) fun b=>bindI (nameI ws) fun c=>bindI (takeI ws gTo) fun _=>bindI (go .expr) fun e=>pureI (mkT (nd3 26 a b c) [e])
theorem ops_split (ws:List Wd) (go:Nt Tr->PI Tr) (k:Int) (ks:List Tr):opsLI ws go k ks=orI ws gBar (bindI (opI' ws go) fun t=>go (.opsL k (ks++ [t]))) (bindI (takeI ws kEnd) fun _=>pureI (mkT (nd0 k) ks)):=by
 unfold opsLI opI';simp only[bind_assoc,pure_bindI]
section
variable {d:Dr}{ws:List Wd}{ad:Option Addr}{cp sz:Nat}
theorem iop_calls (hw:BriefW ws) (ho:WordsOk ws) (hc:PiAll d ws ad cp sz f) (i:Nat) (W:World) (h:RdAt d ws ad cp sz i W) (hm:mi ws 11 i<=f) :
 Calls prog 158 #[.pointer (some ⟨d.B,0,none⟩)] W (PostT d ws ad cp sz (opI' ws (ipz ws f) i) W):=by
 obtain⟨R,hR⟩:∃R,opI' ws (ipz ws f) i=R:=⟨_,rfl⟩
 refine zb20 ?_;intro HR S H M G;clear h hm hR hw ho hc;go_enter func158,ntmps158
 go_wp2_with fail
 refine name_x S.o HR.o G.o (fun _ _ h=>⟨rfl,h⟩) ?_;intro n1 i1 X1 S HR G;go_wp2_with fail
 obtain⟨Y2,g2,hY,hg,hs,S⟩:=open_x S.o #[.string n1,.string ⟨#[]⟩,.string ⟨#[]⟩,.nilIface] 181;try rw[hs]
 rw[hY,hg];clear hY hg hs;refine name_x S.o HR.o G.o (fun _ _ h=>⟨rfl,h⟩) ?_;intro n3 i3 X3 S HR G;have b:=z8 S.o.box 1;have z:=z11 S.o.box 1;simp at b;go_wp2_with fail
 obtain⟨Z4,hZ,hs,S⟩:=put_x S.o 1 (.string n3);try rw[hs]
 rw[hZ];clear hZ hs b z;refine name_x S.o HR.o G.o (fun _ _ h=>⟨rfl,h⟩) ?_;intro n5 i5 X5 S HR G;have b:=z8 S.o.box 2;have z:=z11 S.o.box 2;simp at b;go_wp2_with fail
 obtain⟨Z6,hZ,hs,S⟩:=put_x S.o 2 (.string n5);try rw[hs]
 rw[hZ];clear hZ hs b z;refine z71 (l1:=gTo) S.o HR.o G.o yb yh (fun _ _ h=>⟨rfl,h⟩) ?_;intro v i7 X7 S HR G;go_wp2_with fail
 refine go_i H.o.1 H.o.2.1 NtR.expr trivial (H.o.2.2.expr _ _ S.o.rd yw) S.o HR.o G.o (fun _ _ h=>⟨rfl,h⟩) ?_;intro t8 i8 T8 p8 X8 S HR G;have b0:=z8 S.o.box 0;have b1:=z8 S.o.box 1;have b2:=z8 S.o.box 2;have b3:=z8 S.o.box 3;have z:=z11 S.o.box 3;simp at b0 b1 b2 b3;go_wp2_with fail
 have S:=J (S.o.put 3 (.iface T8 p8));go_ret;exact S.o.fin HR.o (S.o.mk1 (.head _) .op)
theorem St.grown {W X X':World}{bx:List (Nat×Array Value×TypeId)}{fs:List Fr}{i:Nat}(h:St d ws ad cp sz W bx fs i X) {row:Option Nat}(hg:X.grownBy X' row) (hr:∀g,row=some g->W.heap.size<=g/\(∀b∈bx,b.1≠g)/\ ∀x∈fs,g<x.lo\/x.hi<=g):St d ws ad cp sz W bx fs i X':= by
 have hB:=h.hB;have hk:∀q,q<X.heap.size->(∀g,row=some g->q≠g)->X'.heap[q]?=X.heap[q]? :=fun q hq hn=>hg.block q hq (fun e=>hn q e.symm rfl)
 have hgr:Grew d W X':= ⟨hg.os.trans h.gr.os,hg.tape.trans h.gr.tape,hg.output.trans h.gr.output,Lf h.gr.size hg.size,fun q hq=>(hk q (Le hq.1 h.gr.size) (fun g hg'=> by have:=(hr g hg').1;have:=hq.1;omega)).trans (h.gr.block q hq)⟩
 have hblk:X'.heap[d.B]?=X.heap[d.B]? :=hk d.B (z12 h.rd.blk) (fun g hg'=> by have:=(hr g hg').1;omega);refine⟨⟨hblk.trans h.rd.blk,h.rd.eq,h.rd.lt,h.rd.few,?_⟩,hgr,hB,h.wd,fun b hb=>?_,h.nd,fun x hx=>?_⟩
 .rcases h.rd.words with h1|⟨b,off,cap,e,hn,rfl,hqb,hc⟩
  .exact Or.inl h1
  .refine Or.inr ⟨b,0,cap,e,hn,rfl,⟨Le hqb.1 hg.size,hqb.2⟩,fun j hj=>?_⟩
   cases e;have hbW:=h.wd b rfl;rw[<-hc j hj];exact Lj (hk b hqb.1 (fun g hg'=> by have:=(hr g hg').1;omega))
 .obtain⟨h1,h2⟩:=h.bxs b hb;exact⟨(hk _ (z12 h1) (fun g hg'=> (hr g hg').2.1 b hb)).trans h1,h2⟩
 .obtain⟨h1,h2,h3⟩:=h.fss x hx;have ht:=h1.top;exact⟨h1.keep (Lf ht hg.size) (fun q hq hq'=> hk q yf (fun g hg' e=>by have:=(hr g hg').2.2 x hx;omega)),h2,h3⟩
structure HSt (d:Dr) (ws:List Wd) (ad:Option Addr) (cp sz:Nat) (W:World) (gf:Nat) (kd:Int) (a:Fr) (l:List Fr) (cv:Value) (i:Nat) (X:World):Prop where
 st:St d ws ad cp sz W [(gf,#[.int .i64 kd,a.v,cv],178)] (a::l) i X
 own:X.ownsRow W.heap.size 52 1 cv l.length (l.map Fr.v)
 off:∀g,cv.ownBlock=some g->g≠gf/\ ∀x∈a::l,g<x.lo\/x.hi<=g
 few:l.length<=i
 ifc:∀x∈a::l,∃T p,x.v=.iface T p
section
variable {W X X':World}{gf i k:Nat}{kd:Int}{a:Fr}{l:List Fr}{cv:Value}
theorem HSt.go (h:HSt d ws ad cp sz W gf kd a l cv i X) (hr:RdAt d ws ad cp sz k X') (hg:Grew d X X') (hik:i<=k):HSt d ws ad cp sz W gf kd a l cv k X':= by
 have hB:=h.st.hB;exact⟨h.st.go hr hg,y_same h.own (fun g hg'=> hg.block g ⟨(h.own.lt g hg').2,by have:=(h.own.lt g hg').1;omega,by rw[hr.eq];have:=(h.own.lt g hg').1;omega⟩),h.off,Lf h.few hik,h.ifc⟩
theorem HSt.more (h:HSt d ws ad cp sz W gf kd a l cv i X) {lo hi:Nat}{T:TypeId}{p:Value}(hf:FmAt lo hi X t (.iface T p)) (hlo:W.heap.size<=lo) (hgf:gf<lo\/hi<=gf) (hro:∀g,cv.ownBlock=some g->g<lo\/hi<=g) (hl:l.length+1<=i) {cv':Value}{Z:World}(ho:Z.ownsRow W.heap.size 52 1 cv' (l.length+1) (l.map Fr.v++ [.iface T p])) (hgw:(X.alloc (.cells #[.iface T p] 52)).grownBy Z cv.ownBlock) (hb:cv'.ownBlock=cv.ownBlock\/cv'.ownBlock=some (X.alloc (.cells #[.iface T p] 52)).heap.size) :
 HSt d ws ad cp sz W gf kd a (l++ [⟨lo,hi,t,.iface T p⟩]) cv' i (Z.setCell ⟨gf,2,none⟩ cv'):=by
 have hbl:Below X.heap.size X (X.alloc (.cells #[.iface T p] 52)):=Lb.alloc La _;have hsz:(X.alloc (.cells #[.iface T p] 52)).heap.size=X.heap.size+1:=yn;have h1:=h.st.below hbl;have hft:=hf.top;have hfs:∀x∈a::(l++ [(⟨lo,hi,t,.iface T p⟩:Fr)]),FmAt x.lo x.hi (X.alloc (.cells #[.iface T p] 52)) x.t x.v/\W.heap.size<=x.lo/\ ∀b∈ [(gf,#[.int .i64 kd,a.v,cv],178)],b.1<x.lo\/x.hi<=b.1:=fun x hx=>by
  rw[<-List.cons_append,List.mem_append]at hx;rcases hx with hx|hx
  .exact h1.fss x hx
  .simp at hx;subst hx;exact⟨hf.keep (by rw[hsz];omega) (fun q _ hq'=> hbl.block q yf),hlo,fun b hb=>by simp at hb;subst hb;exact hgf⟩
 have h2:St d ws ad cp sz W [(gf,#[.int .i64 kd,a.v,cv],178)] (a::(l++ [(⟨lo,hi,t,.iface T p⟩:Fr)])) i (X.alloc (.cells #[.iface T p] 52)):=⟨h1.rd,h1.gr,h1.hB,h1.wd,h1.bxs,h1.nd,hfs⟩
 have hoffA:∀g,cv.ownBlock=some g->g≠gf/\ ∀x∈a::(l++ [(⟨lo,hi,t,.iface T p⟩:Fr)]),g<x.lo\/x.hi<=g:=fun g hg=>by
  refine⟨(h.off g hg).1,fun x hx=>?_⟩;rw[<-List.cons_append,List.mem_append]at hx;rcases hx with hx|hx
  .exact(h.off g hg).2 x hx
  .simp at hx;subst hx;exact hro g hg
 have h3:=(h2.grown hgw (fun g hg=>⟨(h.own.lt g hg).1,fun b hb=>by simp at hb;subst hb;exact fun e=>(hoffA g hg).1 e.symm,(hoffA g hg).2⟩)).put 2 cv';have hgfl:=z12 (h.st.box);have hne:∀g,cv'.ownBlock=some g->g≠gf/\ ∀x∈a::(l++ [(⟨lo,hi,t,.iface T p⟩:Fr)]),g<x.lo\/x.hi<=g:=fun g hg=>by
  rcases hb with hb|hb
  .exact hoffA g (hb.symm.trans hg)
  .rw[hb,hsz]at hg
   cases hg;refine⟨yf,fun x hx=>Or.inr ?_⟩;rw[<-List.cons_append,List.mem_append]at hx;rcases hx with hx|hx
   .have:=(h.st.fss x hx).1.top;omega
   .simp at hx;subst hx;dsimp only;omega
 refine⟨h3,?_,hne,by rw[List.length_append];exact hl,fun x hx=>?_⟩
 .rw[List.length_append,List.map_append];exact y_same ho (fun g hg=>Lg Z ⟨gf,2,none⟩ cv' g (hne g hg).1)
 .rw[<-List.cons_append,List.mem_append]at hx;rcases hx with hx|hx
  .exact h.ifc x hx
  .simp at hx;subst hx;exact⟨T,p,rfl⟩
theorem form_info:∃i,prog.info? 52=some i/\i.zero=some .nilIface/\i.size=1/\i.bytes=16:=by
 obtain⟨i0,h1,h2,h3,h4⟩:=info_parts info_form;exact⟨i0,h1,h2,h3,h4⟩
theorem form_append {B:Nat}{xs:List Value}(h:X.ownsRow B 52 1 cv n xs) (T:TypeId) (p:Value) (hB:B<=X.heap.size) (hn:n<=2000) :
 ∃cv' Z,(Builtin.append_ #[100,100] 100 #[cv,.slice (some ⟨X.heap.size,0,none⟩) 1 1]).run prog (X.alloc (.cells #[.iface T p] 52))=.ok cv' Z/\Z.ownsRow B 52 1 cv' (n+1) (xs++ [.iface T p])/\(X.alloc (.cells #[.iface T p] 52)).grownBy Z cv.ownBlock/\(cv'.ownBlock=cv.ownBlock\/cv'.ownBlock=some (X.alloc (.cells #[.iface T p] 52)).heap.size):=by
 obtain⟨i0,h1,h2,h3,h4⟩:=form_info;have hbl:Below X.heap.size X (X.alloc (.cells #[.iface T p] 52)):=Lb.alloc La _;have ho:=z33 h hbl;have hc:=(Ld X (.cells #[.iface T p] 52)).1;obtain⟨v',w',hr,g2,g3,-,g5⟩:=run_append_own_at (P:=prog) (X.alloc (.cells #[.iface T p] 52)) B 100 100 52 i0 .nilIface 1 16 underlying100 h1 h2 h3 h4 rfl yh cv n xs ho ⟨X.heap.size,0,none⟩ 1 1 [.iface T p] rfl (fun j u hj=>by
  have hj0:j=0:=by
   rcases j with _|j
   .rfl
   .simp at hj
  subst hj0;simp at hj;subst hj;rw[WideShapes.add_plain];exact z8 hc 0) (fun u hu=>by simp at hu;subst hu;rfl) zp yf (by have:=hbl.size;omega)
 exact⟨v',w',hr,g2,g3,g5⟩
end
theorem op_goes (hw:BriefW ws) (ho:WordsOk ws) {i k:Nat}(h:opI' ws (ipz ws f) i=.ok (t,k)):i+1<=k:=by
 have hn:∀ {i k:Nat} {n:ByteArray},nameI ws i=.ok (n,k)->k=i+1/\k<=ws.length:=fun {i k n} h1=>by
  have h2:=name_on h1;unfold nameI at h1;split at h1
  .rename_i hc;have:=hc.1;exact⟨h2,yf⟩
  .cases h1
 unfold opI' at h
 cases h1:nameI ws i with
 |error e=>exact absurd (bi_er h h1) yn
 | ok r=>
   obtain⟨a,b⟩:=r;have h:=bi_ok h h1
   cases h2:nameI ws b with
   |error e=>exact absurd (bi_er h h2) yn
   | ok r=>
     obtain⟨a2,b2⟩:=r;have h:=bi_ok h h2
     cases h3:nameI ws b2 with
     |error e=>exact absurd (bi_er h h3) yn
     | ok r=>
       obtain⟨a3,b3⟩:=r;have h:=bi_ok h h3
       cases h4:takeI ws gTo b3 with
       |error e=>exact absurd (bi_er h h4) yn
       | ok r=>
         obtain⟨a4,b4⟩:=r;have h:=bi_ok h h4;have e4:=taken_on h4;have e1:=hn h1;have e2:=hn h2;have e3:=hn h3;have h5:b4<=ws.length:=by
          unfold takeI seesI at h4;split at h4
          .rename_i hc;simp at hc;omega
          .cases h4
         cases h6:ipz ws f .expr b4 with
         |error e=>exact absurd (bi_er h h6) yn
         | ok r=>
           obtain⟨a6,b6⟩:=r;have h:=bi_ok h h6;have h7:=ip_goes hw ho f NtR.expr trivial h5 h6;simp only[pureI,Except.ok.injEq,Prod.mk.injEq]at h;omega
def LoopC (d:Dr) (ws:List Wd) (ad:Option Addr) (cp sz f:Nat) (gf:Nat) (kd:Int) (a:Fr) (R:Except Nat (Tr×Nat)) (W wr:World):Prop:=
 ∃(l:List Fr) (cv:Value) (g k:Nat),HSt d ws ad cp sz W gf kd a l cv k wr/\l≠ []/\ipz ws g (.opsL kd (a.t::l.map Fr.t)) k=R/\mi ws 11 k<=g/\g<=f
theorem ihand_calls (hw:BriefW ws) (ho:WordsOk ws) (ha:∀g,g<=f->PiAll d ws ad cp sz g) (i:Nat) (W:World) (h:RdAt d ws ad cp sz i W) (hm:mi ws 12 i<=f+1) (kd:Int) (hkd:kd=23\/kd=24) :
 Calls prog 156 #[.pointer (some ⟨d.B,0,none⟩),.int .i64 kd] W (PostT d ws ad cp sz (ipz ws (f+1) (.hand kd) i) W):=by
 obtain⟨R,hR⟩:∃R,ipz ws (f+1) (.hand kd) i=R:=⟨_,rfl⟩
 rw[hR];have HR:=J (show handI ws (ipz ws f) kd i=R from hR);have S:=J (St.start h);have H:=J (Lc hw (Lc ho (ha f (Nat.le_refl f))));have M:=J hm;have G:=J (show i+0<=i from La);have HA:=J ha;have HK:=J hkd;clear h hm hR hw ho ha hkd;go_enter func156,ntmps156
 go_wp2_with fail
 refine zb89 ?_;intro t1 i1 T1 p1 X1 S HR G;go_wp2_with fail
 obtain⟨Y2,g2,hY,hg,hs,S⟩:=open_x S.o #[.int .i64 kd,.iface T1 p1,.slice none 0 0] 178;try rw[hs]
 rw[hY,hg];clear hY hg hs;refine must2_x (l1:=kWith) (l2:=kRet) S.o HR.o G.o yb yh yb yh (fun _ _ h=>⟨rfl,h⟩) ?_;intro v i3 X3 S HR G;go_wp2_with fail
 refine name_x S.o HR.o G.o (fun _ _ h=>⟨rfl,h⟩) ?_;intro n4 i4 X4 S HR G;go_wp2_with fail
 obtain⟨Y5,g5,hY,hg,hs,S⟩:=open_x S.o #[.string n4,.nilIface] 179;try rw[hs]
 rw[hY,hg];clear hY hg hs;refine z71 (l1:=gTo) S.o HR.o G.o yb yh (fun _ _ h=>⟨rfl,h⟩) ?_;intro v i6 X6 S HR G;go_wp2_with fail
 refine go_i H.o.1 H.o.2.1 NtR.expr trivial (H.o.2.2.expr _ _ S.o.rd yw) S.o HR.o G.o (fun _ _ h=>⟨rfl,h⟩) ?_;intro t7 i7 T7 p7 X7 S HR G;have hb2:=S.o.box;have hb1:=S.o.drop.box;have hne:g2≠g5:=fun e=>by
  subst e;have:=S.o.nd;simp at this
 have r0:=z8 hb2 0;have r1:=z8 hb2 1;have c2:=z8 hb1 2;have zr:=z11 hb2 1;simp at r0 r1 c2;clear hb1 hb2;go_upto_region 6 with fail
 have S:=J (S.o.put 1 (.iface T7 p7));obtain⟨Z,hZ⟩:∃Z,X7.setCell ⟨g5,1,none⟩ (.iface T7 p7)=Z:=⟨_,rfl⟩
 rw[hZ]at S |-;clear hZ r0 r1 c2 zr;have hbx2:=S.o.box;have hbx1:=S.o.drop.box;have r0:=z8 hbx2 0;have r1:=z8 hbx2 1;have c2:=z8 hbx1 2;simp at r0 r1 c2;have hf1:=S.o.fss _ (.tail _ (.head _));have hf2:=S.o.fss _ (.head _);have hsf:St d ws ad cp sz W [(g2,#[.int .i64 kd,.iface T1 p1,.slice none 0 0],178)] [⟨_,_,t1,.iface T1 p1⟩] i7 Z:=⟨S.o.rd,S.o.gr,S.o.hB,S.o.wd,S.o.drop.bxs,S.o.drop.nd,fun x hx=>by simp at hx;subst hx;exact⟨hf1.1,hf1.2.1,fun b hb=>hf1.2.2 b (List.mem_cons_of_mem _ hb)⟩⟩
 have hH0:HSt d ws ad cp sz W g2 kd ⟨_,_,t1,.iface T1 p1⟩ [] (.slice none 0 0) i7 Z:=⟨hsf,⟨rfl,Or.inl ⟨rfl,rfl⟩⟩,fun g hg=>(by cases hg),Li _,fun x hx=>(by simp at hx;subst hx;exact⟨_,_,rfl⟩)⟩
 have hnode:=hf2.1.node1 (n:=nd1 25 n4) (u:=.iface 179 (.agg #[.string n4,.iface T7 p7])) (fun w=> .ret);obtain⟨cv,Y,hrun,hown,hgw,hblk⟩:=form_append hH0.own 179 (.agg #[.string n4,.iface T7 p7]) S.o.gr.size (Li _);have hM:=hH0.more hnode hf2.2.1 (hf2.2.2 _ (.tail _ (.head _))) (fun g hg=>(by cases hg)) (by have h1:=G.o;simp;omega) hown hgw hblk;have hbY:Y.heap[g2]?=some (.cells #[.int .i64 kd,.iface T1 p1,.slice none 0 0] 178):=(hgw.block g2 (by have:=z12 hbx1;simp;omega) qf).trans ((Lb.alloc La _:Below Z.heap.size Z _).block _ (z12 hbx1) |>.trans hbx1)
 obtain⟨av,cpv,nv,hcv⟩:∃av cpv nv,cv=.slice av nv cpv:=by
  obtain⟨x,y,z⟩:=y_is hown;exact⟨x,y,_,z⟩
 subst hcv;have HM:=J hM;have HRun:=J hrun;have HY:=J hbY;have HIf:=J hH0.ifc;clear hf1 hf2 hsf hH0 hnode hown hgw hblk hM hrun hbY hbx1 hbx2;have HR:=J HR.o;go_wp2_with (at_builtin;refine wpList_append_run rfl _ _ 100 rfl _ _ rfl rfl HRun.o ?_;have c2:=z8 HY.o 2;have z2:=z11 HY.o 2;simp at c2)
 have hex:∃(fa:Fr) (l:List Fr),HSt d ws ad cp sz W g2 kd fa l (.slice av nv cpv) i7 (Y.setCell ⟨g2,2,none⟩ (.slice av nv cpv))/\fa.v=.iface T1 p1/\fa.t=t1/\l≠ []/\l.map Fr.t= [mkT (nd1 25 n4) [t7]]:=⟨_,_,HM.o,rfl,rfl,yn,rfl⟩
 obtain⟨fa,l0,hH,hfv,hft,hl0,hlt⟩:=hex;have HM:=J hH;have HFv:=J (Lc hfv (Lc hft (Lc hl0 hlt)));obtain⟨Y0,hY0⟩:∃Y0,Y.setCell ⟨g2,2,none⟩ (.slice av nv cpv)=Y0:=⟨_,rfl⟩
 rw[hY0]at HM |-;clear hH hfv hft hl0 hlt hY0 c2 z2 HRun HY r0 r1;go_loopw [] (fun wr=>I (LoopC d ws ad cp sz f g2 kd fa R W wr)) (fun wr=>ws.length-posOf d wr)
 case atStart=>exact J ⟨l0,_,f,i7,HM.o,HFv.o.2.2.1,by rw[HFv.o.2.1,HFv.o.2.2.2];exact HR.o,yw,La⟩
 case round=>
  obtain⟨l,cl,g,k,hS,hl,hF,hm,hg⟩:=hrel.o;clear hrel;obtain⟨g,rfl⟩:∃x,g=x+1:=⟨g-1,yay⟩
  have HS:=J hS;have HL:=J hl;have HR:=J (show opsLI ws (ipz ws g) kd (fa.t::l.map Fr.t) k=R from hF);have HR:=J ((congrFun (ops_split ws (ipz ws g) kd (fa.t::l.map Fr.t)) k).symm.trans HR.o);have M:=J hm;have HG:=J hg;have HP:=J (rd_pos hS.st.rd);have H:=J (Lc H.o.1 (Lc H.o.2.1 (HA.o g yf)));obtain⟨acl,ncl,hcl⟩:=y_is hS.own;subst hcl;clear hS hl hF hm hg;go_wp2_with fail
  by_cases z:seesI ws k gBar=true
  .refine(skips_t HS.o.st.rd yb yh z).mono ?_;rintro e X1 ⟨rfl,hr,hg⟩;have HR:=J (oi_t HR.o z);have HS:=J (HS.o.go hr hg (Nat.le_succ _));clear hr hg z;go_wp2_with fail
   have hD:Below X1.heap.size X1 X1.drew:=Lb.drew;have HS:=J (HS.o.go (HS.o.st.rd.below hD) (Grew.of_below hD) La);have hS2:=z8 HS.o.st.box 2;simp at hS2;have hgfl:=z12 HS.o.st.box;refine dies_begin (S:=fun w'=> w'.cell? ⟨g2,2,none⟩=some (.slice acl l.length ncl)) (c:=7) (D:=fun c w=>PostT d ws ad cp sz R W (.panicked c) w) (fun c a w h1 h2=>⟨h1,h2⟩) yb rfl rfl ?_;obtain⟨Xd,hXd⟩:∃Y,X1.drew=Y:=⟨_,rfl⟩
   rw[hXd]at HS hgfl |-;have hS2:Xd.cell? ⟨g2,2,none⟩=some (.slice acl l.length ncl):=by rw[<-hXd];exact hS2
   clear hD hXd;refine dies_op (k:=0) (v:=.pointer (some ⟨g2,2,none⟩)) yb yh yb yb rfl yb yb yb yh rfl rfl (fun w' _=>yc) hS2 yd (fun c a w h=>h) ?_;refine dies_op (k:=1) (v:=.slice acl l.length ncl) yb yh yb yb rfl yb yb yb yh rfl rfl (fun w' h=>ju) hS2 yd (fun c a w h=>h) ?_;refine dies_op (k:=2) (v:=.pointer (some ⟨d.B,0,none⟩)) yb yh yb yb rfl yb yb yb yh rfl rfl (fun w' _=>yc) hS2 yd (fun c a w h=>h) ?_;refine dies_enter (i:=3) (f:=158) (args:= #[.pointer (some ⟨d.B,0,none⟩)]) rfl yb yh rfl rfl yc rfl ?_
   refine(iop_calls H.o.1 H.o.2.1 H.o.2.2 _ _ HS.o.st.rd (by have h2:=M.o;have h3:=HS.o.st.rd.lt;unfold mi at h2 ⊢;omega)).mono ?_;intro e X2 hp;rcases post_x hp with ⟨j,hq,rfl,hg⟩|⟨t2,k2,hq,⟨T2,p2,rfl,hf⟩,hr,hg⟩
   .exact Or.inr ⟨_,rfl,HS.o.st.err (bi_er HR.o hq) hg⟩
   have hk2:=op_goes H.o.1 H.o.2.1 hq;have HR:=J (bi_ok HR.o hq);have HS2:=HS.o.go hr hg yf;obtain⟨cv,Z,hrun,hown,hgw,hblk⟩:=form_append HS2.own T2 p2 HS2.st.gr.size (by have h1:=HS2.few;have h2:=HS2.st.rd.lt;have h3:=HS2.st.rd.few;omega);have hM:=HS2.more hf HS.o.st.gr.size (Or.inl hgfl) (fun g hg=>Or.inl (HS.o.own.lt g hg).2) (by have h1:=HS.o.few;omega) hown hgw hblk;have hb2:=HS2.st.box;have hbA:=((Lb.alloc La (.cells #[.iface T2 p2] 52):Below X2.heap.size X2 _).block _ (z12 hb2)).trans hb2;have hbZ:=(hgw.block g2 (z12 hbA) (fun e=>(HS2.off g2 e.symm).1 rfl)).trans hbA
   obtain⟨av,cpv,nv,hcv⟩:∃av cpv nv,cv=.slice av nv cpv:=by
    obtain⟨x,y,z⟩:=y_is hown;exact⟨x,y,_,z⟩
   subst hcv;have cA:=z8 hbA 2;have cZ:=z8 hbZ 2;have c2:=z8 hb2 2;have zZ:=z11 hbZ 2;simp at cZ c2;refine Or.inl ⟨_,rfl,c2,?_⟩;refine dies_frame yd ?_;refine dies_make (i:=4) (v:=.slice (some ⟨X2.heap.size,0,none⟩) 1 1) (w1:=X2.alloc (.cells #[.iface T2 p2] 52)) rfl yb yh rfl rfl yc cA yd ?_;refine dies_make (i:=5) (v:=.slice av nv cpv) (w1:=Z) rfl yb yh rfl rfl (append_runN (s:=.tmp 33) (x:=.tmp 36) (t:=100) rfl rfl rfl hrun) cZ yd ?_;refine dies_make (i:=6) (v:=.pointer (some ⟨g2,2,none⟩)) (w1:=Z) rfl yb yh rfl rfl yc cZ yd ?_
   refine dies_last (w1:=Z.setCell ⟨g2,2,none⟩ (.slice av nv cpv)) rfl rfl yb rfl rfl (by simp[go_sem,cZ,zZ]) yb ?_;have HM:=J hM;have HK2:=J hk2;have HP2:=J (rd_pos hM.st.rd);obtain⟨Y9,hY9⟩:∃Y9,Z.setCell ⟨g2,2,none⟩ (.slice av nv cpv)=Y9:=⟨_,rfl⟩
   rw[hY9]at HM HP2 |-;clear hM hk2 hY9 cA cZ c2 zZ hbA hbZ hb2 hrun hown hgw hblk HS2 hf hr hg hq hp hgfl hS2;go_wp2_with fail
   exact⟨J ⟨_,_,g,k2,HM.o,yn,by rw[List.map_append];exact HR.o,(by have h1:=HK2.o;have h2:=M.o;have h3:=HM.o.st.rd.lt;unfold mi at h2 |-;omega),gc⟩,by
    rw[HP.o,HP2.o];have h1:=HK2.o;have h2:=HM.o.st.rd.lt;omega⟩
  .refine(skips_f (l:=gBar) HS.o.st.rd yb yh yax).mono ?_;rintro e X1 ⟨rfl,hr,hg⟩;have HR:=J (oi_f HR.o yax);have HS:=J (HS.o.go hr hg La);clear hr hg z;go_wp2_with fail
   refine(must1 _ HS.o.st.rd (l1:=kEnd) yb yh).mono ?_;intro e X2 hp;rcases post_x hp with ⟨j,hq,rfl,hg⟩|⟨u,k2,hq,⟨v,rfl⟩,hr,hg⟩
   .exact⟨rfl,HS.o.st.err (m1_er HR.o hq) hg⟩
   have HQ:=m1_ok HR.o hq;have HS:=J (HS.o.go hr hg (by have h1:=HQ.2;omega));have HR:=J HQ.1;clear hp hq hr hg HQ;obtain⟨b0,b1,b2⟩:=fcl3 HS.o.st.box;rw[HFv.o.1]at b1;go_wp2_with fail
   go_ret;have hlen:l.length<=1500:=by have h1:=HS.o.few;have h2:=HS.o.st.rd.lt;have h3:=HS.o.st.rd.few;omega
   have hrow:RowAt W.heap.size X2 (.slice acl l.length ncl) (l.map Fr.v):=by
    rcases sliceOf_own HS.o.own La with ⟨h0,-⟩|h0
    .exact absurd (List.map_eq_nil_iff.1 h0) HL.o
    .exact h0
   have hsh:Shape W.heap.size X2 ((nd0 kd).with_ ((fa::l).map Fr.t).length) ((fa::l).map Fr.v) (.iface 178 (.agg #[.int .i64 kd,.iface T1 p1,.slice acl l.length ncl])):=by
    rw[<-HFv.o.1];exact .handler HK.o hrow (by rw[List.length_map];exact hlen)
   exact HS.o.st.fin HR.o (HS.o.st.node (fa::l) (fun x hx=>hx) hsh)
end
theorem starts_cur {ws:List Wd}{sz i:Nat}:startsI ws i=begins (curI ws sz i):=by
 unfold startsI curI;by_cases hi:i<ws.length
 .rw[if_pos hi,decide_eq_true hi,Bool.true_and]
 .rw[if_neg hi,decide_eq_false hi,Bool.false_and];have:=no_bytes;unfold begins;dsimp only;rw[this];rfl
theorem dec_num:∀(l:List UInt8) (a:Nat),(∀b∈l,48<=b.toNat/\b.toNat<=57)->Lib.decFrom a l=some (l.foldl (fun n b=>10*n+(b.toNat-48)) a)
 |[],_,_=>rfl
 | b::r,a,h=>by
   unfold Lib.decFrom Lib.digitVal;rw[if_pos (h b yn)];dsimp only;rw[Nat.mul_comm a 10];exact dec_num r _ (fun x hx=>h x (by simp[hx]))
theorem atoi_num {t:ByteArray}(h:NumB t) (h0:t.toList≠ []):Lib.atoi t.data.toList=some (numZ t.toList:Int):=by
 have e:=z67 t;rw[e]at h0 |-;have h2:=h.2;rw[e]at h2;generalize t.data.toList=l at h0 h2 |-;match l,h0,h2 with
 | b::r,_,h2=>
   have hb:=h2 b yn;unfold Lib.atoi;dsimp only;rw[if_neg yaz,if_neg yaz];unfold Lib.decNat;rw[if_neg yn,dec_num _ _ h2];rfl
section
variable {d:Dr}{ws:List Wd}{ad:Option Addr}{cp sz:Nat}
theorem isees_atom (i:Nat) (W:World) (h:RdAt d ws ad cp sz i W) :
 Calls prog 150 #[.pointer (some ⟨d.B,0,none⟩)] W fun e W'=> e=.returned (.bool (startsI ws i))/\Below W.heap.size W W':= by
 have H:=J h;rw[starts_cur (ws:=ws) (sz:=sz) (i:=i)];obtain⟨⟨kd,tx,wa⟩,hc⟩:∃c,curI ws sz i=c:=⟨_,rfl⟩
 rw[hc];have HC:=J hc;obtain⟨B,hB⟩:∃b,begins ⟨kd,tx,wa⟩=b:=⟨_,rfl⟩
 rw[hB];have HB:=J hB;clear h hc hB;go_enter func150,ntmps150
 go_wp2_with fail
 refine(peek_at H.o HC.o).mono ?_;rintro e X ⟨rfl,hb⟩;have HX:=J (hb.trans (((Below.refl X.heap.size X).alloc La (.cells #[.int .i64 kd,.string tx,.int .i64 (wa:Int)] 76)).mono hb.size));clear hb;by_cases a0:(tx.toList==([116,114,117,101]:List UInt8))=true
 .have HV:=J (HB.o.symm.trans (show begins ⟨kd,tx,wa⟩=true by simp[begins,kTrue,beq_iff_eq.1 a0]));go_wp2_with fail
  go_ret;rw[HV.o];exact⟨rfl,HX.o⟩
 have f0:(tx.toList==([116,114,117,101]:List UInt8))=false:=by simpa using a0
 clear a0;by_cases a1:(tx.toList==([102,97,108,115,101]:List UInt8))=true
 .have HV:=J (HB.o.symm.trans (show begins ⟨kd,tx,wa⟩=true by simp[begins,kFalse,beq_iff_eq.1 a1]));go_wp2_with fail
  go_ret;rw[HV.o];exact⟨rfl,HX.o⟩
 have f1:(tx.toList==([102,97,108,115,101]:List UInt8))=false:=by simpa using a1
 clear a1;by_cases a2:(tx.toList==([110,105,108]:List UInt8))=true
 .have HV:=J (HB.o.symm.trans (show begins ⟨kd,tx,wa⟩=true by simp[begins,kNil,beq_iff_eq.1 a2]));go_wp2_with fail
  go_ret;rw[HV.o];exact⟨rfl,HX.o⟩
 have f2:(tx.toList==([110,105,108]:List UInt8))=false:=by simpa using a2
 clear a2;by_cases a3:(tx.toList==([40]:List UInt8))=true
 .have HV:=J (HB.o.symm.trans (show begins ⟨kd,tx,wa⟩=true by simp[begins,gOpen,beq_iff_eq.1 a3]));go_wp2_with fail
  go_ret;rw[HV.o];exact⟨rfl,HX.o⟩
 have f3:(tx.toList==([40]:List UInt8))=false:=by simpa using a3
 clear a3;by_cases a4:(tx.toList==([104,97,110,100,108,101]:List UInt8))=true
 .have HV:=J (HB.o.symm.trans (show begins ⟨kd,tx,wa⟩=true by simp[begins,kHandle,beq_iff_eq.1 a4]));go_wp2_with fail
  go_ret;rw[HV.o];exact⟨rfl,HX.o⟩
 have f4:(tx.toList==([104,97,110,100,108,101]:List UInt8))=false:=by simpa using a4
 clear a4;by_cases a5:(tx.toList==([115,104,97,108,108,111,119]:List UInt8))=true
 .have HV:=J (HB.o.symm.trans (show begins ⟨kd,tx,wa⟩=true by simp[begins,kShallow,beq_iff_eq.1 a5]));go_wp2_with fail
  go_ret;rw[HV.o];exact⟨rfl,HX.o⟩
 have f5:(tx.toList==([115,104,97,108,108,111,119]:List UInt8))=false:=by simpa using a5
 clear a5;have HV:=J (HB.o.symm.trans (show begins ⟨kd,tx,wa⟩=(decide (kd=1) || decide (kd=2)) by simp only[begins,gOpen,kTrue,kFalse,kNil,kHandle,kShallow,f0,f1,f2,f3,f4,f5,Bool.or_false]));by_cases k1:kd=1
 .subst k1;go_wp2_with fail
  go_ret;rw[HV.o];exact⟨rfl,HX.o⟩
 by_cases k2:kd=2
 .subst k2;go_wp2_with fail
  go_ret;rw[HV.o];exact⟨rfl,HX.o⟩
 have k1':(kd==1)=false:=mq;have k2':(kd==2)=false:=mr;have HW:=J (HV.o.trans (by rw[decide_eq_false k1,decide_eq_false k2];rfl:_=false));go_wp2_with fail
 go_ret;rw[HW.o];exact⟨rfl,HX.o⟩
theorem inumber_calls {i:Nat}{W:World}{tx:ByteArray}{wa:Nat}(h:RdAt d ws ad cp sz i W) (hc:curI ws sz i=⟨1,tx,wa⟩) (hn:NumB tx) (h0:tx.toList≠ []) (hi:i<ws.length) :
 Calls prog 154 #[.pointer (some ⟨d.B,0,none⟩)] W (PostT d ws ad cp sz (.ok (mkT (ndN 1 (numZ tx.toList:Int)) [],i+1)) W):=by
 obtain⟨R,hR⟩:∃R,(Except.ok (mkT (ndN 1 (numZ tx.toList:Int)) [],i+1):Except Nat (Tr×Nat))=R:=⟨_,rfl⟩
 rw[hR];have HR:=J hR;have S:=J (St.start h);have hP:=peek_at h hc;have HP:=J hP;have hat:=atoi_num hn h0;obtain⟨n,hnn⟩:∃n:Int,(numZ tx.toList:Int)=n:=⟨_,rfl⟩
 rw[hnn]at hat HR;have HA:=J (fun(X:World)=>Tryz.strconv_Atoi tx n (by have:=hn.1;omega) hat X);have hf:=fld_1 1 tx (wa:Int);have HW:=J (Lc (z18 (by have:=h.few;omega):wrap64 ((i:Int)+1)=((i+1:Nat):Int)) hi);clear h hR hc hn h0 hP hat hnn hi;go_enter func154,ntmps154
 go_wp2_with fail
 refine HP.o.mono ?_;rintro e X ⟨rfl,hb⟩;have S:=J (S.o.below hb);clear hb;go_wp2_with fail
 refine(HA.o X).mono ?_;rintro e Y ⟨rfl,t,hY⟩;have hbl:Below X.heap.size X Y:=by
  rw[hY];exact Joins.below_bytesWorld _ X _ t La
 have S:=J (S.o.below hbl);clear hY hbl;have q1:=z8 S.o.rd.blk 1;have z1:=z11 S.o.rd.blk 1;simp at q1;go_wp2_with fail
 go_ret;rw[HW.o.1];have S:=S.o.go (S.o.rd.move (k:=i+1) HW.o.2) (z42 Y 1 _);exact S.fin HR.o (S.mk0 .int)
theorem ibrack_calls (hw:BriefW ws) (ho:WordsOk ws) (hc:PiAll d ws ad cp sz f) (i:Nat) (W:World) (h:RdAt d ws ad cp sz i W) (hm:mi ws 11 i<=f) :
 Calls prog 155 #[.pointer (some ⟨d.B,0,none⟩)] W (PostT d ws ad cp sz (brackI ws (ipz ws f) i) W):=by
 obtain⟨R,hR⟩:∃R,brackI ws (ipz ws f) i=R:=⟨_,rfl⟩
 refine zb20 ?_;intro HR S H M G;clear h hm hR hw ho hc;go_enter func155,ntmps155
 go_wp2_with fail
 by_cases z:seesI ws i gShut=true
 .refine skip_y S.o HR.o G.o yb yh z ?_;intro X1 S HR G;clear z;go_wp2_with fail
  go_ret;exact S.o.fin HR.o (S.o.mk0 .unit)
 refine skip_n (l:=gShut) S.o HR.o yb yh yax ?_;intro X1 S HR;clear z;go_wp2_with fail
 refine go_i H.o.1 H.o.2.1 NtR.expr trivial (H.o.2.2.expr _ _ S.o.rd yw) S.o HR.o G.o (fun _ _ h=>⟨rfl,h⟩) ?_;intro t2 i2 T2 p2 X2 S HR G;go_wp2_with fail
 by_cases z:seesI ws i2 gComma=true
 .refine skip_y S.o HR.o G.o yb yh z ?_;intro X3 S HR G;clear z;go_wp2_with fail
  refine go_i H.o.1 H.o.2.1 NtR.expr trivial (H.o.2.2.expr _ _ S.o.rd yw) S.o HR.o G.o (fun _ _ h=>⟨rfl,h⟩) ?_;intro t4 i4 T4 p4 X4 S HR G;go_wp2_with fail
  have S:=J (S.o.fold (S.o.mk2 (.tail _ (.head _)) (.head _) (n:=nd0 16) (v:=.iface 168 (.agg #[.iface T2 p2,.iface T4 p4])) .pair));refine z71 (l1:=gShut) S.o HR.o G.o yb yh (fun _ _ h=>⟨rfl,h⟩) ?_;intro v i5 X5 S HR G;go_wp2_with fail
  go_ret;exact S.o.fin HR.o (S.o.same (.head _))
 refine skip_n (l:=gComma) S.o HR.o yb yh yax ?_;intro X3 S HR;clear z;go_wp2_with fail
 refine z71 (l1:=gShut) S.o HR.o G.o yb yh (fun _ _ h=>⟨rfl,h⟩) ?_;intro v i6 X6 S HR G;go_wp2_with fail
 go_ret;exact S.o.fin HR.o (S.o.same (.head _))
theorem iatom_calls (hw:BriefW ws) (ho:WordsOk ws) (hc:PiAll d ws ad cp sz f) (i:Nat) (W:World) (h:RdAt d ws ad cp sz i W) (hm:mi ws 2 i<=f+1) (hnum:NumW ws) (hne:∀w∈ws,w.kind=1->w.text.toList≠ []) :
 Calls prog 151 #[.pointer (some ⟨d.B,0,none⟩)] W (PostT d ws ad cp sz (ipz ws (f+1) .atom i) W):=by
 obtain⟨R,hR⟩:∃R,ipz ws (f+1) .atom i=R:=⟨_,rfl⟩
 rw[hR];have HR:=J (show atomI ws (ipz ws f) i=R from hR);obtain⟨⟨kd,tx,wa⟩,hcc⟩:∃c,curI ws sz i=c:=⟨_,rfl⟩
 have HC:=J hcc;have HN:=J (Lc hnum hne);have S:=J (St.start h);have H:=J (Lc hw (Lc ho hc));have M:=J hm;have G:=J (show i+0<=i from La);clear hnum hne hcc h hm hR hw ho hc;go_enter func151,ntmps151
 go_wp2_with fail
 refine(peek_at S.o.rd HC.o).mono ?_;rintro e X0 ⟨rfl,hb⟩;have S:=J (S.o.below hb);have hf:=fld_0 kd tx (wa:Int);clear hb;have hlt:begins ⟨kd,tx,wa⟩=true->i<ws.length:=fun hx=>by
  have h1:=HC.o;unfold curI at h1;split at h1
  .assumption
  .simp at h1;obtain⟨h2,h3,-⟩:=h1;subst h2 h3;exact absurd hx (by unfold begins;dsimp only;rw[no_bytes];exact Bool.false_ne_true)
 have HL:=J hlt;clear hlt;have hat:begins ⟨kd,tx,wa⟩=true->wordI ws (ipz ws f) ⟨kd,tx,wa⟩ (i+1)=R:=fun hx=>by
  have h1:=HR.o;have h2:=HC.o;unfold curI at h2;rw[if_pos (HL.o hx)]at h2;unfold atomI startsI at h1;rw[h2,hx,decide_eq_true (HL.o hx)]at h1;exact h1
 have hno:begins ⟨kd,tx,wa⟩=false->Except.error i=R:=fun hx=>by
  have h1:=HR.o;have h2:=starts_cur (ws:=ws) (sz:=sz) (i:=i);rw[HC.o,hx]at h2;unfold atomI at h1;rw[h2]at h1;exact h1
 have HAt:=J hat;have HNo:=J hno;have M2:=J (fun(hx:begins ⟨kd,tx,wa⟩=true)=>show mi ws 12 (i+1)<=f by have h1:=HL.o hx;have h2:=M.o;unfold mi at h2 |-;omega);clear hat hno;by_cases k1:kd=1
 .subst k1;go_wp2_with fail
  have hmem:curW ws i∈ws:=cur_mem (HL.o yba);have h2:=HC.o;unfold curI at h2;rw[if_pos (HL.o yba)]at h2;rw[h2]at hmem;refine(inumber_calls S.o.rd HC.o (HN.o.1 _ hmem rfl) (HN.o.2 _ hmem rfl) (HL.o yba)).mono ?_;rintro e X1 ⟨⟨T1,p1,rfl,hf⟩,hr,hg⟩;have S:=J (S.o.form hr hg hf);have HR:=J (HAt.o yba);clear hf hr hg hmem h2;go_wp2_with fail
  go_ret;exact S.o.fin (show Except.ok (_,i+1)=R from(by have h1:=HR.o;unfold wordI at h1;rw[if_pos rfl]at h1;exact h1)) (S.o.same (.head _))
 have g1:(kd==1)=false:=mq;go_wp2_with fail
 refine(peek_at S.o.rd HC.o).mono ?_;rintro e X1 ⟨rfl,hb⟩;have S:=J (S.o.below hb);clear hb;by_cases k2:kd=2
 .subst k2;go_wp2_with fail
  have hn:nameI ws i=.ok (tx,i+1):=by
   have h2:=HC.o;unfold curI at h2;rw[if_pos (HL.o yba)]at h2;unfold nameI;rw[h2,if_pos ⟨HL.o yba,rfl⟩]
  have hnc:=rname_calls (d:=d) (ws:=ws) (ad:=ad) (cp:=cp) (sz:=sz) i X1 S.o.rd;rw[hn]at hnc;refine hnc.mono ?_;rintro e X2 ⟨rfl,hr,hg⟩;have S:=J (S.o.go hr hg);have HR:=J (HAt.o yba);clear hr hg hn hnc;go_wp2_with fail
  go_ret;exact S.o.fin (show Except.ok (mkT (nd1 5 tx) [],i+1)=R from(by have h1:=HR.o;unfold wordI at h1;rw[if_neg (show ¬ (2:Int)=1 by decide),if_pos rfl]at h1;exact h1)) (S.o.mk0 .var)
 have g2:(kd==2)=false:=mr;have HB:=J (show begins ⟨kd,tx,wa⟩=((tx.toList==gOpen) || ((tx.toList==kTrue) || ((tx.toList==kFalse) || ((tx.toList==kNil) || ((tx.toList==kHandle) || (tx.toList==kShallow)))))) by simp[begins,k1,k2]);have HS:=J (fun(l:List UInt8) (hl:l≠ [])=>(show(tx.toList==l)=seesI ws i l by have h1:=sees_cur (ws:=ws) (sz:=sz) (i:=i) hl;rw[HC.o]at h1;exact h1));have HK:=J (Lc k1 k2);clear k1 k2;go_wp2_with fail
 clear g1 g2 hf;by_cases z:seesI ws i kTrue=true
 .refine(skips_t S.o.rd yb yh z).mono ?_;rintro e X2 ⟨rfl,hr,hg⟩;have S:=J (S.o.go hr hg);have hx:begins ⟨kd,tx,wa⟩=true:=by rw[HB.o,HS.o kTrue yh,z];simp
  have h1:=HAt.o hx;have M:=J (M2.o hx);unfold wordI at h1;rw[if_neg HK.o.1,if_neg HK.o.2]at h1;dsimp only at h1;rw[if_pos (by rw[HS.o kTrue yh];exact z)]at h1;have HR:=J h1;clear hr hg z hx h1;go_wp2_with fail
  go_ret;exact S.o.fin HR.o (S.o.mk0 .bool)
 refine(skips_f (l:=kTrue) S.o.rd yb yh yax).mono ?_;rintro e X2 ⟨rfl,hr,hg⟩;have S:=J (S.o.go hr hg);have FkTrue:=J (show seesI ws i kTrue=false by simpa using z);clear hr hg z;go_wp2_with fail
 by_cases z:seesI ws i kFalse=true
 .refine(skips_t S.o.rd yb yh z).mono ?_;rintro e X3 ⟨rfl,hr,hg⟩;have S:=J (S.o.go hr hg);have hx:begins ⟨kd,tx,wa⟩=true:=by rw[HB.o,HS.o kFalse yh,z];simp
  have h1:=HAt.o hx;have M:=J (M2.o hx);unfold wordI at h1;rw[if_neg HK.o.1,if_neg HK.o.2]at h1;dsimp only at h1;rw[if_neg ybb]at h1;rw[if_pos (by rw[HS.o kFalse yh];exact z)]at h1;have HR:=J h1;clear hr hg z hx h1;go_wp2_with fail
  go_ret;exact S.o.fin HR.o (S.o.mk0 .bool)
 refine(skips_f (l:=kFalse) S.o.rd yb yh yax).mono ?_;rintro e X3 ⟨rfl,hr,hg⟩;have S:=J (S.o.go hr hg);have FkFalse:=J (show seesI ws i kFalse=false by simpa using z);clear hr hg z;go_wp2_with fail
 by_cases z:seesI ws i kNil=true
 .refine(skips_t S.o.rd yb yh z).mono ?_;rintro e X4 ⟨rfl,hr,hg⟩;have S:=J (S.o.go hr hg);have hx:begins ⟨kd,tx,wa⟩=true:=by rw[HB.o,HS.o kNil yh,z];simp
  have h1:=HAt.o hx;have M:=J (M2.o hx);unfold wordI at h1;rw[if_neg HK.o.1,if_neg HK.o.2]at h1;dsimp only at h1;rw[if_neg ybb]at h1;rw[if_neg ybc]at h1;rw[if_pos (by rw[HS.o kNil yh];exact z)]at h1;have HR:=J h1;clear hr hg z hx h1;go_wp2_with fail
  go_ret;exact S.o.fin HR.o (S.o.mk0 .nil)
 refine(skips_f (l:=kNil) S.o.rd yb yh yax).mono ?_;rintro e X4 ⟨rfl,hr,hg⟩;have S:=J (S.o.go hr hg);have FkNil:=J (show seesI ws i kNil=false by simpa using z);clear hr hg z;go_wp2_with fail
 by_cases z:seesI ws i gOpen=true
 .refine(skips_t S.o.rd yb yh z).mono ?_;rintro e X5 ⟨rfl,hr,hg⟩;have S:=J (S.o.go hr hg);have hx:begins ⟨kd,tx,wa⟩=true:=by rw[HB.o,HS.o gOpen yh,z];simp
  have h1:=HAt.o hx;have M:=J (M2.o hx);unfold wordI at h1;rw[if_neg HK.o.1,if_neg HK.o.2]at h1;dsimp only at h1;rw[if_neg ybb]at h1;rw[if_neg ybc]at h1;rw[if_neg ybd]at h1;rw[if_neg (fun e=>ybe)]at h1;rw[if_neg (fun e=>ybe)]at h1;have HR:=J h1;clear hr hg z hx h1;go_wp2_with fail
  refine go_l (ibrack_calls H.o.1 H.o.2.1 H.o.2.2 _ _ S.o.rd (by have h1:=M.o;unfold mi at h1 |-;omega)) S.o HR.o (fun _ _ h=>⟨rfl,h⟩) ?_;intro t5 i5 T5 p5 X5 S HR;go_wp2_with fail
  go_ret;exact S.o.fin HR.o (S.o.same (.head _))
 refine(skips_f (l:=gOpen) S.o.rd yb yh yax).mono ?_;rintro e X5 ⟨rfl,hr,hg⟩;have S:=J (S.o.go hr hg);have FgOpen:=J (show seesI ws i gOpen=false by simpa using z);clear hr hg z;go_wp2_with fail
 by_cases z:seesI ws i kHandle=true
 .refine(skips_t S.o.rd yb yh z).mono ?_;rintro e X6 ⟨rfl,hr,hg⟩;have S:=J (S.o.go hr hg);have hx:begins ⟨kd,tx,wa⟩=true:=by rw[HB.o,HS.o kHandle yh,z];simp
  have h1:=HAt.o hx;have M:=J (M2.o hx);unfold wordI at h1;rw[if_neg HK.o.1,if_neg HK.o.2]at h1;dsimp only at h1;rw[if_neg ybb]at h1;rw[if_neg ybc]at h1;rw[if_neg ybd]at h1;rw[if_pos (by rw[HS.o kHandle yh];exact z)]at h1;have HR:=J h1;clear hr hg z hx h1;go_wp2_with fail
  refine go_l (H.o.2.2.hand 23 _ _ S.o.rd M.o yn) S.o HR.o (fun _ _ h=>⟨rfl,h⟩) ?_;intro t6 i6 T6 p6 X6 S HR;go_wp2_with fail
  go_ret;exact S.o.fin HR.o (S.o.same (.head _))
 refine(skips_f (l:=kHandle) S.o.rd yb yh yax).mono ?_;rintro e X6 ⟨rfl,hr,hg⟩;have S:=J (S.o.go hr hg);have FkHandle:=J (show seesI ws i kHandle=false by simpa using z);clear hr hg z;go_wp2_with fail
 by_cases z:seesI ws i kShallow=true
 .refine(skips_t S.o.rd yb yh z).mono ?_;rintro e X7 ⟨rfl,hr,hg⟩;have S:=J (S.o.go hr hg);have hx:begins ⟨kd,tx,wa⟩=true:=by rw[HB.o,HS.o kShallow yh,z];simp
  have h1:=HAt.o hx;have M:=J (M2.o hx);unfold wordI at h1;rw[if_neg HK.o.1,if_neg HK.o.2]at h1;dsimp only at h1;rw[if_neg ybb]at h1;rw[if_neg ybc]at h1;rw[if_neg ybd]at h1;rw[if_neg (by rw[HS.o kHandle yh,FkHandle.o];decide)]at h1;rw[if_pos (by rw[HS.o kShallow yh];exact z)]at h1;have HR:=J h1;clear hr hg z hx h1;go_wp2_with fail
  refine go_l (H.o.2.2.hand 24 _ _ S.o.rd M.o yn) S.o HR.o (fun _ _ h=>⟨rfl,h⟩) ?_;intro t7 i7 T7 p7 X7 S HR;go_wp2_with fail
  go_ret;exact S.o.fin HR.o (S.o.same (.head _))
 refine(skips_f (l:=kShallow) S.o.rd yb yh yax).mono ?_;rintro e X7 ⟨rfl,hr,hg⟩;have S:=J (S.o.go hr hg);have FkShallow:=J (show seesI ws i kShallow=false by simpa using z);clear hr hg z;go_wp2_with fail
 refine(misfit_calls _ _ S.o.rd).mono ?_;rintro e Y ⟨rfl,hb⟩;go_wp2_with fail
 refine⟨rfl,S.o.err (HNo.o ?_) (Grew.of_below hb)⟩;rw[HB.o,HS.o gOpen yh,HS.o kTrue yh,HS.o kFalse yh,HS.o kNil yh,HS.o kHandle yh,HS.o kShallow yh,FgOpen.o,FkTrue.o,FkFalse.o,FkNil.o,FkHandle.o,FkShallow.o];rfl
end
end
end Go.Proofs.YtfbojelpdccjaaaGreatDoor
