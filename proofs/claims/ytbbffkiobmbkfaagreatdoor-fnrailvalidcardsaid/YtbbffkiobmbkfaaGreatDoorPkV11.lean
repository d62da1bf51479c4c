import Derived.Test.YtbbffkiobmbkfaaGreatDoorPkV10
open Go.Proofs.Tryz
open Go.Value Go.IntKind
set_option maxHeartbeats 4000000
set_option maxRecDepth 100000
namespace Go.Proofs.YtbbffkiobmbkfaaGreatDoor
open Go.RowKit Go.Deep
variable {ss:List ByteArray}{q:Nat}{t:Tp}{v ve vt x0 x1 x2 x3 x4 x5:Value}{W:World}
section
open Go.RowKit Go.Deep
structure Cx (W0:World) (Mb:Nat) (ae:Option Addr) (b off:Nat) (es:List Ef) (ns:List Nd):Prop where
 tb:b<W0.heap.size
 tm:b≠Mb
 tn:NodesAt W0 b off ns
 tl:ns.length<=300
 el:es.length<=1000
 ee:es≠ []-> ∃be oe,ae=some ⟨be,oe,none⟩/\be<W0.heap.size/\be≠Mb/\EffsAt W0 be oe es
theorem z64 {W0:World}{Mb:Nat}{ae:Option Addr}{b off:Nat}{es:List Ef}{ns:List Nd}(h:Cx W0 Mb ae b off es ns) {s:Cs}(m:CmE W0 Mb ve vt s W):NodesAt W b off ns:=by
 obtain⟨ls,vo,vl,m⟩:=m;exact fun j hj c hc=>(Lj (a:=⟨b,off+j*6+c,none⟩) (m.kept b h.tb h.tm)).trans (h.tn j hj c hc)
theorem cx_effs {W0:World}{Mb:Nat}{ae:Option Addr}{b off:Nat}{es:List Ef}{ns:List Nd}(h:Cx W0 Mb ae b off es ns) {s:Cs}(m:CmE W0 Mb ve vt s W):es≠ []-> ∃be oe,ae=some ⟨be,oe,none⟩/\EffsAt W be oe es:=fun he=>by
 obtain⟨ls,vo,vl,m⟩:=m;obtain⟨be,oe,e,h1,h2,h3⟩:=h.ee he;exact⟨be,oe,e,fun j hj c hc=>(Lj (a:=⟨be,oe+j*3+c,none⟩) (m.kept be h1 h2)).trans (h3 j hj c hc)⟩
theorem CmE.effs {W0:World}{Mb:Nat}{s:Cs}(m:CmE W0 Mb ve vt s W):W.cell? ⟨Mb,0,none⟩=some ve:=by
 obtain⟨ls,vo,vl,m⟩:=m;exact z11 m.blk 0
theorem CmE.tree {W0:World}{Mb:Nat}{s:Cs}(m:CmE W0 Mb ve vt s W):W.cell? ⟨Mb,1,none⟩=some vt:=by
 obtain⟨ls,vo,vl,m⟩:=m;exact z11 m.blk 1
theorem lit_names (w:World) (ss:List ByteArray):NamesV (w.alloc (.cells (strRow ss).toArray 9)) (.slice (some ⟨w.heap.size,0,none⟩) ss.length ss.length) ss:=by
 have hh:=(Ld w (.cells (strRow ss).toArray 9)).1;refine Or.inr ⟨_,0,_,rfl,z13 hh,fun j hj=>?_⟩;rw[Nat.zero_add,z11 hh j];simp only[List.getElem?_toArray];exact strRow_get ss j hj
theorem heap_at {W0:World}{Mb:Nat}{s:Cs}(m:CmE W0 Mb ve vt s W):Mb<W.heap.size:=by
 obtain⟨ls,vo,vl,m⟩:=m;exact z13 m.blk
theorem later_le (s:Cs):s.later.length<=s.rest:=by
 obtain⟨o,l⟩:=s;unfold Cs.rest;dsimp only;induction l with
 |nil=>exact Li _
 | cons x l ih=>
   have:=x.t.size_pos;simp only[Ll,List.map_cons,List.sum_cons];omega
def PartC (W0:World) (Mb:Nat) (ae:Option Addr) (ce b off cap:Nat) (es:List Ef) (ns:List Nd) (K F:Nat):Prop:= ∀(t:Tp) (ss:List ByteArray) (s:Cs) (v:Value) (W:World),t.size<=F->Stands ns t->ss.length+2*t.size<=K->s.o.length+10*s.rest+10*t.size<=950000->CmE W0 Mb (.slice ae es.length ce) (.slice (some ⟨b,off,none⟩) ns.length cap) s W->NmT W v ss->
 Calls prog 20 #[.pointer (some ⟨Mb,0,none⟩),int i64 (t.at_:Int),v] W (LeadPost W0 Mb (.slice ae es.length ce) (.slice (some ⟨b,off,none⟩) ns.length cap) (partZ es F t ss s) W)
theorem z32 {W0 Y X:World}{Mb:Nat}{s:Cs}(S:CmE W0 Mb ve vt s X) (G:Cf Y X) (hA:Y.heap[q]?=some (.cells #[x0,x1,x2,x3,x4,x5] 68)) :
 X.cell? ⟨q,0,none⟩=some x0/\X.cell? ⟨q,1,none⟩=some x1/\X.cell? ⟨q,2,none⟩=some x2/\X.cell? ⟨q,3,none⟩=some x3/\X.cell? ⟨q,4,none⟩=some x4/\X.cell? ⟨q,5,none⟩=some x5/\X.cell? ⟨Mb,0,none⟩=some ve/\X.cell? ⟨Mb,1,none⟩=some vt:=by
 have h:=(G.block q _ _ hA yk yk yk).trans hA;exact⟨z11 h 0,z11 h 1,z11 h 2,z11 h 3,z11 h 4,z11 h 5,S.effs,S.tree⟩
section
variable {W0:World}{Mb:Nat}{ae:Option Addr}{ce b off cap:Nat}{es:List Ef}{ns:List Nd}{K F c z:Nat}{Y X:World}{s0 s:Cs}{Q:Ending->World->Prop}
theorem put_ev (i:In) (S:CmE W0 Mb ve vt s X) (G:Cf Y X) (R:Rs ns K c z s0 s) (hl:s.o.length<=960000)
 (next:∀X1 n,O (s.o.length=n)->O (CmE W0 Mb ve vt (s.put i) X1)->O (Cf Y X1)->O (Rs ns K (c+1) (z+0) s0 (s.put i))->O (Cf X X1)->O (s.o.length<=(s.put i).o.length)->O (n<(s.put i).o.length)->Q (.returned (int i64 (n:Int))) X1) :
 Calls prog 21 #[.pointer (some ⟨Mb,0,none⟩),.agg #[int i64 i.op,int i64 i.a,int i64 i.b,int i64 i.c]] X Q:=by
 refine(z53 i S hl).mono ?_;rintro e X1 ⟨rfl,h1,g1⟩;have hz:(s.put i).o.length=s.o.length+1:=jw;exact next X1 _ rfl h1 (G.trans g1) (R.trans (Rs.put ns K s i)) g1 yp (by show _<_;omega)
theorem kid_ev (j:Nat) (h:NodesAt X b off ns) (hl:ns.length<=300) (hs:Stands ns t) (hj:j<t.k.count) (next:Q (.returned (int i64 ((t.kid j).at_:Int))) X) :
 Calls prog 59 #[.slice (some ⟨b,off,none⟩) ns.length cap,int i64 (t.at_:Int),int i64 (j:Int)] X Q:=by
 refine(kid_calls (cap:=cap) j X h hl hs hj).mono ?_;rintro e X' ⟨rfl,rfl⟩;exact next
theorem part_ev (ih:PartC W0 Mb ae ce b off cap es ns K F) (t:Tp) (ss:List ByteArray) (h1:t.size<=F) (h2:Stands ns t) (h3:ss.length+2*t.size<=K) (S:CmE W0 Mb (.slice ae es.length ce) (.slice (some ⟨b,off,none⟩) ns.length cap) s X) (G:Cf Y X) (R:Rs ns K c z s0 s) (hb:s.o.length+10*s.rest+10*t.size<=950000) (N:NmT X v ss)
 (next:∀X1 x,O (CmE W0 Mb (.slice ae es.length ce) (.slice (some ⟨b,off,none⟩) ns.length cap) (partZ es F t ss s) X1)->O (Cf Y X1)->O (Rs ns K (c+(10*t.size-1)) (z+(t.size-1)) s0 (partZ es F t ss s))->O (Cf X X1)->O (s.o.length<=(partZ es F t ss s).o.length)->Q (.returned x) X1) :
 Calls prog 20 #[.pointer (some ⟨Mb,0,none⟩),int i64 (t.at_:Int),v] X Q:=by
 refine(ih t ss s _ _ h1 h2 h3 hb S N).mono ?_;rintro e X1 ⟨⟨x,rfl⟩,h,g⟩;have r:=part_r (ns:=ns) (K:=K) (es:=es) F t ss s h1 h2 h3;exact next X1 x h (G.trans g) (R.trans r) g r.o
theorem lead_ev (fr wh:Nat) (S:CmE W0 Mb ve vt s X) (G:Cf Y X) (R:Rs ns K c z s0 s) (hl:s.o.length<=960000) (hf:fr<s.o.length) (hw:wh=0\/wh=1\/wh=2)
 (next:∀X1 x,O (CmE W0 Mb ve vt (s.lead fr wh) X1)->O (Cf Y X1)->O (Rs ns K (c+0) (z+0) s0 (s.lead fr wh))->O (Cf X X1)->O (s.o.length<=(s.lead fr wh).o.length)->Q (.returned x) X1) :
 Calls prog 22 #[.pointer (some ⟨Mb,0,none⟩),int i64 (fr:Int),int i64 (wh:Int)] X Q:=by
 refine(lead_calls fr wh S hl hf hw).mono ?_;rintro e X1 ⟨⟨x,rfl⟩,h,g⟩;have r:=Rs.lead ns K s fr wh;exact next X1 x h (G.trans g) (R.trans r) g r.o
theorem with_ev (ms:List ByteArray) (N:NamesV X v ss) (hl:ss.length+ms.length<=100000) (S:CmE W0 Mb ve vt s X) (G:Cf Y X)
 (next:∀X1 u,O (NmT X1 u (ss++ms))->O (CmE W0 Mb ve vt s X1)->O (Cf Y X1)->O (Cf X X1)->Q (.returned u) X1) :
 Calls prog 57 #[v,.slice (some ⟨X.heap.size,0,none⟩) ms.length ms.length] (X.alloc (.cells (strRow ms).toArray 9)) Q:=by
 have hA:Below X.heap.size X (X.alloc (.cells (strRow ms).toArray 9)):=Lb.alloc La _;refine(withN_calls (ss:=ss) (ms:=ms) _ (N.below hA) (lit_names X ms) hl).mono ?_;rintro e X1 ⟨u,rfl,hu,hb⟩;have hB:Below X.heap.size X X1:=hA.trans (hb.mono yq);exact next X1 u hu (S.below hB) (G.trans (Cf.of_below hB)) (Cf.of_below hB)
theorem wait_ev (l:Lt) (h1:Stands ns l.t) (h2:l.names.length+2*l.t.size<=K) (h3:l.fr<s.o.length) (S:CmE W0 Mb ve vt s X) (G:Cf Y X) (R:Rs ns K c z s0 s) (hl:s.later.length<=960000) (N:NmT X v l.names)
 (next:∀X1 x,O (CmE W0 Mb ve vt (s.wait l) X1)->O (Cf Y X1)->O (Rs ns K (c+10*l.t.size) (z+l.t.size) s0 (s.wait l))->O (Cf X X1)->O (s.o.length<=(s.wait l).o.length)->Q (.returned x) X1) (h4:l.wh=0\/l.wh=1:=by simp) :
 Calls prog 56 #[.pointer (some ⟨Mb,0,none⟩),int i64 (l.t.at_:Int),v,int i64 (l.fr:Int),int i64 (l.wh:Int)] X Q:=by
 refine(wait_calls l S hl N).mono ?_;rintro e X1 ⟨⟨x,rfl⟩,h,g⟩;have r:=Rs.wait (ns:=ns) (K:=K) (s:=s) h1 h2 h3 h4;exact next X1 x h (G.trans g) (R.trans r) g r.o
end
theorem pick_other {P:Program}{l0:List Oper}{Q:Exit->Act->World->Prop}{S:World->Prop}{i j n:Nat}{ls:Array Bool}{a:Act}{w:World}(hr:(Region.ready .any l0.toArray ls== [i,j])=true) (h1:PickCl P l0 Q S n ls a w i) (h2:PickMk P l0 Q S n ls a w j):wpAnyH P .any l0.toArray (NoPanic Q) S (n+1) ls a w:=by
 refine zb94 ?_;unhygienic intros
 rcases hk with rfl|rfl
 .exact h1.op
 .exact h2.op
theorem box1 {W0 Y X:World}{Mb:Nat}{s:Cs}(S:CmE W0 Mb ve vt s X) (G:Cf Y X) (hA:Y.heap[q]?=some (.cells #[x0,x1,x2,x3,x4,x5] 68)):X.cell? ⟨Mb,1,none⟩=some vt/\X.cell? ⟨q,2,none⟩=some x2:=
 ⟨S.tree,(z32 S G hA).2.2.1⟩
theorem box2 {W0 Y X:World}{Mb:Nat}{s:Cs}(S:CmE W0 Mb ve vt s X) (G:Cf Y X) (hA:Y.heap[q]?=some (.cells #[x0,x1,x2,x3,x4,x5] 68)):X.cell? ⟨Mb,1,none⟩=some vt/\X.cell? ⟨q,2,none⟩=some x2/\X.cell? ⟨q,3,none⟩=some x3:=
 ⟨S.tree,(z32 S G hA).2.2.1,(z32 S G hA).2.2.2.1⟩
theorem z73 {W0:World}{Mb b off ce cap K:Nat}{ae:Option Addr}{es:List Ef}{ns:List Nd}{s:Cs}{kd:Int}(cx:Cx W0 Mb ae b off es ns) (hs:Stands ns t) (h:CmE W0 Mb (.slice ae es.length ce) (.slice (some ⟨b,off,none⟩) ns.length cap) s W) (hv:NmT W v ss) (ek:t.n.kind=kd) :
 ∃Y,O (W.alloc (.cells #[int i64 kd,int i64 t.n.num,.string t.n.a,.string t.n.b,.string t.n.c,int i64 t.n.kids] 68)=Y)/\O (Y.heap[W.heap.size]?=some (.cells #[int i64 kd,int i64 t.n.num,.string t.n.a,.string t.n.b,.string t.n.c,int i64 t.n.kids] 68))/\
  O (CmE W0 Mb (.slice ae es.length ce) (.slice (some ⟨b,off,none⟩) ns.length cap) s Y)/\O (Cf W Y)/\O (NmT Y v ss)/\O (Cf Y Y)/\O (Rs ns K 0 0 s s)/\O (0<t.k.count->wrap64 ((t.at_:Int)+1)=((t.kid 0).at_:Int))/\
  (W.cell? ⟨b,off+t.at_*6,none⟩=some (int i64 kd)/\W.cell? ⟨b,off+t.at_*6+1,none⟩=some (int i64 t.n.num)/\W.cell? ⟨b,off+t.at_*6+2,none⟩=some (.string t.n.a)/\W.cell? ⟨b,off+t.at_*6+3,none⟩=some (.string t.n.b)/\W.cell? ⟨b,off+t.at_*6+4,none⟩=some (.string t.n.c)/\W.cell? ⟨b,off+t.at_*6+5,none⟩=some (int i64 t.n.kids)/\W.cell? ⟨Mb,1,none⟩=some (.slice (some ⟨b,off,none⟩) ns.length cap))/\(0:Int)<=(t.at_:Int)/\(t.at_:Int)<(ns.length:Int):=by
 subst ek;have hnc:=z64 cx h;obtain⟨hlt,hat,hsz⟩:=hs.lt;have c:∀j,j<6->W.cell? ⟨b,off+t.at_*6+j,none⟩=some (t.n.cell j):=fun j hj=>by
  have:=hnc t.at_ hlt j hj;rwa[hat]at this
 have hA:=(Ld W (.cells #[int i64 t.n.kind,int i64 t.n.num,.string t.n.a,.string t.n.b,.string t.n.c,int i64 t.n.kids] 68)).1;have hB1:=(Below.refl W.heap.size W).alloc La (.cells #[int i64 t.n.kind,int i64 t.n.num,.string t.n.a,.string t.n.b,.string t.n.c,int i64 t.n.kids] 68);exact⟨_,rfl,hA,h.below hB1,Cf.of_below hB1,hv.frame (Cf.of_below hB1),Cf.refl _,Rs.refl ns K s,fun h0=>by rw[hs.first h0];have:=cx.tl;unfold wrap64;omega,
  ⟨c 0 yk,c 1 yk,c 2 yk,c 3 yk,c 4 yk,c 5 yk,h.tree⟩,ya,ya⟩
theorem pick_cm {P:Program}{l0:List Oper}{Q:Exit->Act->World->Prop}{S:World->Prop}{i j n:Nat}{oi oj:Oper}{f:FuncId}{args:Array Value}{vi vj:Value}{ls ls':Array Bool}{a a':Act}{w w1:World}
 (c1:Calls P f args w fun e w'=> e=.returned vi/\w=w') (c2:Calls P f args w1 fun e w'=> e=.returned vi/\w1=w') (hS:S w) (hS1:S w1) (h:wpAnyH P .any l0.toArray (NoPanic Q) S n ls' a' w1)
 (hr:(Region.ready .any l0.toArray ls== [i,j])=true:=by kernel_rfl) (hi:l0[i]?=some oi:=by exact rfl) (hj:l0[j]?=some oj:=by exact rfl)
 (wi:Region.wanted oi (yielded l0.toArray a.tmps)=true:=by exact rfl) (wj:Region.wanted oj (yielded l0.toArray a.tmps)=true:=by exact rfl)
 (hr1:(Region.ready .any l0.toArray (ls.setIfInBounds i true)== [j])=true:=by kernel_rfl) (hr2:(Region.ready .any l0.toArray (ls.setIfInBounds j true)== [i])=true:=by kernel_rfl)
 (wi2:Region.wanted oi (yielded l0.toArray (a.put oj.dst vj).tmps)=true:=by exact rfl) (wj2:Region.wanted oj (yielded l0.toArray (a.put oi.dst vi).tmps)=true:=by exact rfl)
 (ri:(execOp a.eval oi).run P w=.ok (.enter f args) w:=by simp[go_sem]) (ri2:(execOp (a.put oj.dst vj).eval oi).run P w1=.ok (.enter f args) w1:=by simp[go_sem])
 (rj:(execOp a.eval oj).run P w=.ok (.value vj) w1:=by simp[go_sem]) (rj2:(execOp (a.put oi.dst vi).eval oj).run P w=.ok (.value vj) w1:=by simp[go_sem])
 (hl:(ls.setIfInBounds i true).setIfInBounds j true=ls':= by exact rfl) (hl2:(ls.setIfInBounds j true).setIfInBounds i true=ls':= by exact rfl)
 (hp:(a.put oi.dst vi).put oj.dst vj=a':= by simp[go_sem];exact rfl) (hp2:(a.put oj.dst vj).put oi.dst vi=a':= by first|rfl|simp[go_sem]):wpAnyH P .any l0.toArray (NoPanic Q) S (n+2) ls a w:=by
 refine pick_other hr ⟨oi,f,args,hi,wi,ri,c1.mono ?_⟩ ⟨oj,vj,w1,hj,wj,rj,hS1,?_⟩
 .rintro e w' ⟨rfl,rfl⟩;exact⟨vi,rfl,hS,z27 hj hr1 hl wj2 rj2 hS1 hp h⟩
 .refine z26 hi hr2 hl2 wi2 ri2 (c2.mono ?_);rintro e w' ⟨rfl,rfl⟩;exact⟨vi,rfl,hS1,z25 hp2 h⟩
section
variable {W0:World}{Mb:Nat}{ae:Option Addr}{ce b off cap:Nat}{es:List Ef}{ns:List Nd}{K F:Nat}
theorem bound_calls (ih:PartC W0 Mb ae ce b off cap es ns K F) {s:Cs}(hF:t.size<=F) (hs:Stands ns t) (hK:ss.length+2*t.size<=K) (hB:s.o.length+10*s.rest+10*t.size+1<=950000) (h:CmE W0 Mb (.slice ae es.length ce) (.slice (some ⟨b,off,none⟩) ns.length cap) s W) (hv:NmT W v ss) :
 Calls prog 58 #[.pointer (some ⟨Mb,0,none⟩),int i64 (t.at_:Int),v] W (LeadPost W0 Mb (.slice ae es.length ce) (.slice (some ⟨b,off,none⟩) ns.length cap) (boundZ (partZ es F) t ss s) W):=by
 obtain⟨ad,cp,rfl⟩:=hv.is;have HIH:=U ih;have HS:=U (Lc hF (Lc hs hK));have HB:=U hB;have S0:=U h;have N0:=U hv;clear ih hF hs hK hB h hv;go_enter func58,ntmps58
 go_wp2_with fail
 refine(z53 ⟨12,0,0,0⟩ S0.o uw).mono ?_;rintro e X1 ⟨rfl,h1,g1⟩;obtain⟨n1,hn1⟩:∃n,s.o.length=n:=⟨_,rfl⟩
 rw[hn1];have S1:=U h1;have G1:=U g1;have R1:=U (Rs.put ns K s ⟨12,0,0,0⟩);clear h1 g1 hn1;go_wp2_with fail
 refine(HIH.o t ss _ _ _ HS.o.1 HS.o.2.1 HS.o.2.2 (by have:=HB.o;have:=R1.o.cost;omega) S1.o (N0.o.frame G1.o)).mono ?_;rintro e X2 ⟨⟨x2,rfl⟩,h2,g2⟩;have S2:=U h2;have G2:=U (G1.o.trans g2);have R2:=U (R1.o.trans (part_r (ns:=ns) (K:=K) (es:=es) F t ss (s.put ⟨12,0,0,0⟩) HS.o.1 HS.o.2.1 HS.o.2.2));clear h2 g2;go_wp2_with fail
 refine(z53 ⟨13,0,0,0⟩ S2.o (by have:=HB.o;have:=R2.o.cost;omega)).mono ?_;rintro e X3 ⟨rfl,h3,g3⟩;obtain⟨n3,hn3⟩:∃n,(partZ es F t ss (s.put ⟨12,0,0,0⟩)).o.length=n:=⟨_,rfl⟩
 rw[hn3];have S3:=U h3;have G3:=U (G2.o.trans g3);clear h3 g3 hn3;go_wp2_with fail
 go_end0
 exact⟨⟨_,rfl⟩,S3.o,G3.o⟩
theorem bound_ev {c z:Nat}{Y X:World}{s0 s:Cs}{Q:Ending->World->Prop}(ih:PartC W0 Mb ae ce b off cap es ns K F) (t:Tp) (ss:List ByteArray) (h1:t.size<=F) (h2:Stands ns t) (h3:ss.length+2*t.size<=K) (S:CmE W0 Mb (.slice ae es.length ce) (.slice (some ⟨b,off,none⟩) ns.length cap) s X) (G:Cf Y X) (R:Rs ns K c z s0 s) (hb:s.o.length+10*s.rest+10*t.size+1<=950000) (N:NmT X v ss)
 (next:∀X1 x,O (CmE W0 Mb (.slice ae es.length ce) (.slice (some ⟨b,off,none⟩) ns.length cap) (boundZ (partZ es F) t ss s) X1)->O (Cf Y X1)->O (Rs ns K (c+(10*t.size+1)) (z+(t.size-1)) s0 (boundZ (partZ es F) t ss s))->O (Cf X X1)->O (s.o.length<=(boundZ (partZ es F) t ss s).o.length)->Q (.returned x) X1) :
 Calls prog 58 #[.pointer (some ⟨Mb,0,none⟩),int i64 (t.at_:Int),v] X Q:=by
 refine(bound_calls ih h1 h2 h3 hb S N).mono ?_;rintro e X1 ⟨⟨x,rfl⟩,h,g⟩;have r:=bound_r (part_r (ns:=ns) (K:=K) (es:=es) F) s h1 h2 h3;exact next X1 x h (G.trans g) (R.trans r) g r.o
theorem part_c1 (cx:Cx W0 Mb ae b off es ns) (hk1:K<=1000) {s:Cs}(hF:t.size<=F+1) (hs:Stands ns t) (hK:ss.length+2*t.size<=K) (hB:s.o.length+10*s.rest+10*t.size<=950000) (h:CmE W0 Mb (.slice ae es.length ce) (.slice (some ⟨b,off,none⟩) ns.length cap) s W) (hv:NmT W v ss) (ek:t.n.kind=1) :
 Calls prog 20 #[.pointer (some ⟨Mb,0,none⟩),int i64 (t.at_:Int),v] W (LeadPost W0 Mb (.slice ae es.length ce) (.slice (some ⟨b,off,none⟩) ns.length cap) (s.put ⟨1,t.n.num,0,0⟩) W):=by
 obtain⟨adn,cpn,rfl⟩:=hv.is;obtain⟨Y,HY,HA,S0,F0,N0,G0,R0,HP1,⟨c0,c1,c2,c3,c4,c5,d1⟩,hp0,hpl⟩:=z73 (K:=K) cx hs h hv ek;refine zb30 ?_;intro HC HZ HX HS HK HB;clear h hv cx hs hK hF hB hk1;go_enter func20,ntmps20
 go_upto_region 1 with fail
 rw[HY.o];clear HY c0 c1 c2 c3 c4 c5 d1;obtain⟨e0,e1,e2,e3,e4,e5,d0,d1⟩:=z32 S0.o G0.o HA.o;go_wp2_with fail
 clear e0 e1 e2 e3 e4 e5 d0 d1;refine put_ev ⟨1,t.n.num,0,0⟩ S0.o G0.o R0.o zm fun X1 n1 H1 S1 G1 R1 C1 O1 Tn1=>?_
 obtain⟨e0,e1,e2,e3,e4,e5,d0,d1⟩:=z32 S1.o G1.o HA.o;go_wp2_with fail
 clear e0 e1 e2 e3 e4 e5 d0 d1;go_end0
 exact⟨⟨_,rfl⟩,S1.o,F0.o.trans G1.o⟩
theorem part_c2 (cx:Cx W0 Mb ae b off es ns) (hk1:K<=1000) {s:Cs}(hF:t.size<=F+1) (hs:Stands ns t) (hK:ss.length+2*t.size<=K) (hB:s.o.length+10*s.rest+10*t.size<=950000) (h:CmE W0 Mb (.slice ae es.length ce) (.slice (some ⟨b,off,none⟩) ns.length cap) s W) (hv:NmT W v ss) (ek:t.n.kind=2) :
 Calls prog 20 #[.pointer (some ⟨Mb,0,none⟩),int i64 (t.at_:Int),v] W (LeadPost W0 Mb (.slice ae es.length ce) (.slice (some ⟨b,off,none⟩) ns.length cap) (s.put ⟨2,t.n.num,0,0⟩) W):=by
 obtain⟨adn,cpn,rfl⟩:=hv.is;obtain⟨Y,HY,HA,S0,F0,N0,G0,R0,HP1,⟨c0,c1,c2,c3,c4,c5,d1⟩,hp0,hpl⟩:=z73 (K:=K) cx hs h hv ek;refine zb30 ?_;intro HC HZ HX HS HK HB;clear h hv cx hs hK hF hB hk1;go_enter func20,ntmps20
 go_upto_region 1 with fail
 rw[HY.o];clear HY c0 c1 c2 c3 c4 c5 d1;obtain⟨e0,e1,e2,e3,e4,e5,d0,d1⟩:=z32 S0.o G0.o HA.o;go_wp2_with fail
 clear e0 e1 e2 e3 e4 e5 d0 d1;refine put_ev ⟨2,t.n.num,0,0⟩ S0.o G0.o R0.o zm fun X1 n1 H1 S1 G1 R1 C1 O1 Tn1=>?_
 obtain⟨e0,e1,e2,e3,e4,e5,d0,d1⟩:=z32 S1.o G1.o HA.o;go_wp2_with fail
 clear e0 e1 e2 e3 e4 e5 d0 d1;go_end0
 exact⟨⟨_,rfl⟩,S1.o,F0.o.trans G1.o⟩
theorem part_c3 (cx:Cx W0 Mb ae b off es ns) (hk1:K<=1000) {s:Cs}(hF:t.size<=F+1) (hs:Stands ns t) (hK:ss.length+2*t.size<=K) (hB:s.o.length+10*s.rest+10*t.size<=950000) (h:CmE W0 Mb (.slice ae es.length ce) (.slice (some ⟨b,off,none⟩) ns.length cap) s W) (hv:NmT W v ss) (ek:t.n.kind=3) :
 Calls prog 20 #[.pointer (some ⟨Mb,0,none⟩),int i64 (t.at_:Int),v] W (LeadPost W0 Mb (.slice ae es.length ce) (.slice (some ⟨b,off,none⟩) ns.length cap) (s.put ⟨3,0,0,0⟩) W):=by
 obtain⟨adn,cpn,rfl⟩:=hv.is;obtain⟨Y,HY,HA,S0,F0,N0,G0,R0,HP1,⟨c0,c1,c2,c3,c4,c5,d1⟩,hp0,hpl⟩:=z73 (K:=K) cx hs h hv ek;refine zb30 ?_;intro HC HZ HX HS HK HB;clear h hv cx hs hK hF hB hk1;go_enter func20,ntmps20
 go_upto_region 1 with fail
 rw[HY.o];clear HY c0 c1 c2 c3 c4 c5 d1;obtain⟨e0,e1,e2,e3,e4,e5,d0,d1⟩:=z32 S0.o G0.o HA.o;go_wp2_with fail
 clear e0 e1 e2 e3 e4 e5 d0 d1;refine put_ev ⟨3,0,0,0⟩ S0.o G0.o R0.o zm fun X1 n1 H1 S1 G1 R1 C1 O1 Tn1=>?_
 obtain⟨e0,e1,e2,e3,e4,e5,d0,d1⟩:=z32 S1.o G1.o HA.o;go_wp2_with fail
 clear e0 e1 e2 e3 e4 e5 d0 d1;go_end0
 exact⟨⟨_,rfl⟩,S1.o,F0.o.trans G1.o⟩
theorem part_c4 (cx:Cx W0 Mb ae b off es ns) (hk1:K<=1000) {s:Cs}(hF:t.size<=F+1) (hs:Stands ns t) (hK:ss.length+2*t.size<=K) (hB:s.o.length+10*s.rest+10*t.size<=950000) (h:CmE W0 Mb (.slice ae es.length ce) (.slice (some ⟨b,off,none⟩) ns.length cap) s W) (hv:NmT W v ss) (ek:t.n.kind=4) :
 Calls prog 20 #[.pointer (some ⟨Mb,0,none⟩),int i64 (t.at_:Int),v] W (LeadPost W0 Mb (.slice ae es.length ce) (.slice (some ⟨b,off,none⟩) ns.length cap) (s.put ⟨4,0,0,0⟩) W):=by
 obtain⟨adn,cpn,rfl⟩:=hv.is;obtain⟨Y,HY,HA,S0,F0,N0,G0,R0,HP1,⟨c0,c1,c2,c3,c4,c5,d1⟩,hp0,hpl⟩:=z73 (K:=K) cx hs h hv ek;refine zb30 ?_;intro HC HZ HX HS HK HB;clear h hv cx hs hK hF hB hk1;go_enter func20,ntmps20
 go_upto_region 1 with fail
 rw[HY.o];clear HY c0 c1 c2 c3 c4 c5 d1;obtain⟨e0,e1,e2,e3,e4,e5,d0,d1⟩:=z32 S0.o G0.o HA.o;go_wp2_with fail
 clear e0 e1 e2 e3 e4 e5 d0 d1;refine put_ev ⟨4,0,0,0⟩ S0.o G0.o R0.o zm fun X1 n1 H1 S1 G1 R1 C1 O1 Tn1=>?_
 obtain⟨e0,e1,e2,e3,e4,e5,d0,d1⟩:=z32 S1.o G1.o HA.o;go_wp2_with fail
 clear e0 e1 e2 e3 e4 e5 d0 d1;go_end0
 exact⟨⟨_,rfl⟩,S1.o,F0.o.trans G1.o⟩
theorem part_c5 (cx:Cx W0 Mb ae b off es ns) (hk1:K<=1000) {s:Cs}(hF:t.size<=F+1) (hs:Stands ns t) (hK:ss.length+2*t.size<=K) (hB:s.o.length+10*s.rest+10*t.size<=950000) (h:CmE W0 Mb (.slice ae es.length ce) (.slice (some ⟨b,off,none⟩) ns.length cap) s W) (hv:NmT W v ss) (ek:t.n.kind=5) :
 Calls prog 20 #[.pointer (some ⟨Mb,0,none⟩),int i64 (t.at_:Int),v] W (LeadPost W0 Mb (.slice ae es.length ce) (.slice (some ⟨b,off,none⟩) ns.length cap) (s.put ⟨5,idxZ ss t.n.a,0,0⟩) W):=by
 obtain⟨adn,cpn,rfl⟩:=hv.is;obtain⟨Y,HY,HA,S0,F0,N0,G0,R0,HP1,⟨c0,c1,c2,c3,c4,c5,d1⟩,hp0,hpl⟩:=z73 (K:=K) cx hs h hv ek;refine zb30 ?_;intro HC HZ HX HS HK HB;clear h hv cx hs hK hF hB hk1;go_enter func20,ntmps20
 go_upto_region 1 with fail
 rw[HY.o];clear HY c0 c1 c2 c3 c4 c5 d1;obtain⟨e0,e1,e2,e3,e4,e5,d0,d1⟩:=z32 S0.o G0.o HA.o;go_wp2_with fail
 clear e0 e1 e2 e3 e4 e5 d0 d1;refine(index_calls (ss:=ss) t.n.a Y N0.o.names (by have:=HK.o;omega)).mono ?_;rintro e Xi ⟨rfl,rfl⟩;obtain⟨e0,e1,e2,e3,e4,e5,d0,d1⟩:=z32 S0.o G0.o HA.o;go_wp2_with fail
 clear e0 e1 e2 e3 e4 e5 d0 d1;refine put_ev ⟨5,idxZ ss t.n.a,0,0⟩ S0.o G0.o R0.o zm fun X1 n1 H1 S1 G1 R1 C1 O1 Tn1=>?_
 obtain⟨e0,e1,e2,e3,e4,e5,d0,d1⟩:=z32 S1.o G1.o HA.o;go_wp2_with fail
 clear e0 e1 e2 e3 e4 e5 d0 d1;go_end0
 exact⟨⟨_,rfl⟩,S1.o,F0.o.trans G1.o⟩
theorem part_c6 (cx:Cx W0 Mb ae b off es ns) (hk1:K<=1000) {s:Cs}(hF:t.size<=F+1) (hs:Stands ns t) (hK:ss.length+2*t.size<=K) (hB:s.o.length+10*s.rest+10*t.size<=950000) (h:CmE W0 Mb (.slice ae es.length ce) (.slice (some ⟨b,off,none⟩) ns.length cap) s W) (hv:NmT W v ss) (ek:t.n.kind=6) :
 Calls prog 20 #[.pointer (some ⟨Mb,0,none⟩),int i64 (t.at_:Int),v] W (LeadPost W0 Mb (.slice ae es.length ce) (.slice (some ⟨b,off,none⟩) ns.length cap) ((s.put ⟨6,0,0,0⟩).wait ⟨t.kid 0,ss++ [t.n.a],s.o.length,0⟩) W):=by
 obtain⟨adn,cpn,rfl⟩:=hv.is;obtain⟨Y,HY,HA,S0,F0,N0,G0,R0,HP1,⟨c0,c1,c2,c3,c4,c5,d1⟩,hp0,hpl⟩:=z73 (K:=K) cx hs h hv ek;have hgood:=hs.toGood;have HC:O (t.k.count=1):=z43 hgood ek (c:=1) rfl;have HZ:O ((t.kid 0).size+1=t.size/\1<=(t.kid 0).size):=⟨(kids1 HC.o).2,(t.kid 0).size_pos⟩
 have HX:=U cx;have HS:=U hs;have HK:=U (Lc hK (Lc hF hk1));have HB:=U hB;clear h hv hgood cx hs hK hF hB hk1;go_enter func20,ntmps20
 go_upto_region 1 with fail
 rw[HY.o];clear HY c0 c1 c2 c3 c4 c5 d1;obtain⟨e0,e1,e2,e3,e4,e5,d0,d1⟩:=z32 S0.o G0.o HA.o;go_wp2_with fail
 clear e0 e1 e2 e3 e4 e5 d0 d1;refine with_ev [t.n.a] ((N0.o.frame G0.o).names) ux S0.o G0.o fun X1 u1 U1 S1 G1 C1=>?_
 obtain⟨e0,e1,e2,e3,e4,e5,d0,d1⟩:=z32 S1.o G1.o HA.o;go_wp2_with fail
 clear e0 e1 e2 e3 e4 e5 d0 d1;refine put_ev ⟨6,0,0,0⟩ S1.o G1.o R0.o zm fun X2 n2 H2 S2 G2 R2 C2 O2 Tn2=>?_
 obtain⟨e0,e1,e2,e3,e4,e5,d0,d1⟩:=z32 S2.o G2.o HA.o;go_wp2_with fail
 clear e0 e1 e2 e3 e4 e5 d0 d1;rw[HP1.o zi];refine wait_ev ⟨t.kid 0,ss++ [t.n.a],n2,0⟩ (HS.o.kid zi) uy Tn2.o S2.o G2.o R2.o (by have hl:=later_le ((Cs.put (s) ⟨6,0,0,0⟩));have r:=R2.o.cost;have hb:=HB.o;have hz:=HZ.o;omega) (U1.o.frame C2.o) fun X3 x3 S3 G3 R3 C3 O3=>?_
 obtain⟨e0,e1,e2,e3,e4,e5,d0,d1⟩:=z32 S3.o G3.o HA.o;go_wp2_with fail
 clear e0 e1 e2 e3 e4 e5 d0 d1;go_end0
 have qn2:=H2.o;subst qn2;exact⟨⟨_,rfl⟩,S3.o,F0.o.trans G3.o⟩
theorem part_c8 (cx:Cx W0 Mb ae b off es ns) (hk1:K<=1000) (ih:PartC W0 Mb ae ce b off cap es ns K F) {s:Cs}(hF:t.size<=F+1) (hs:Stands ns t) (hK:ss.length+2*t.size<=K) (hB:s.o.length+10*s.rest+10*t.size<=950000) (h:CmE W0 Mb (.slice ae es.length ce) (.slice (some ⟨b,off,none⟩) ns.length cap) s W) (hv:NmT W v ss) (ek:t.n.kind=8) :
 Calls prog 20 #[.pointer (some ⟨Mb,0,none⟩),int i64 (t.at_:Int),v] W (LeadPost W0 Mb (.slice ae es.length ce) (.slice (some ⟨b,off,none⟩) ns.length cap) (boundZ (partZ es F) (t.kid 1) (ss++ [t.n.a]) (partZ es F (t.kid 0) ss s)) W):=by
 obtain⟨adn,cpn,rfl⟩:=hv.is;obtain⟨Y,HY,HA,S0,F0,N0,G0,R0,HP1,⟨c0,c1,c2,c3,c4,c5,d1⟩,hp0,hpl⟩:=z73 (K:=K) cx hs h hv ek;refine zb24 ?_;intro HC HZ HX HIH HS HK HB;clear h hv cx ih hs hK hF hB hk1;go_enter func20,ntmps20
 go_upto_region 1 with fail
 rw[HY.o];clear HY c0 c1 c2 c3 c4 c5 d1;obtain⟨e0,e1,e2,e3,e4,e5,d0,d1⟩:=z32 S0.o G0.o HA.o;go_wp2_with fail
 clear e0 e1 e2 e3 e4 e5 d0 d1;refine zb81 ?_;intro X1 x1 S1 G1 R1 C1 O1 e0 e1 e2 e3 e4 e5 d0 d1;go_upto_region 21 with fail
 have hD:Below X1.heap.size X1 X1.drew:=Lb.drew;obtain⟨V2,hDe⟩:∃D,X1.drew=D:=⟨_,rfl⟩
 rw[hDe]at hD;have S2:=U (S1.o.below hD);have G2:=U (G1.o.trans (Cf.of_below hD));have C2:=U (Cf.of_below hD);have hS:(fun w':World=>w'.cell? ⟨Mb,1,none⟩=some (.slice (some ⟨b,off,none⟩) ns.length cap)/\w'.cell? ⟨W.heap.size,2,none⟩=some (.string t.n.a)) V2:=box1 S2.o G2.o HA.o;refine z31 (S:=fun w'=> w'.cell? ⟨Mb,1,none⟩=some (.slice (some ⟨b,off,none⟩) ns.length cap)/\w'.cell? ⟨W.heap.size,2,none⟩=some (.string t.n.a)) ye rfl rfl ?_;rw[hDe];clear hDe hD;clear e0 e1 e2 e3 e4 e5 d0 d1;refine pick_o 0 (.pointer (some ⟨Mb,0,none⟩)) hS ?_;refine pick_o 1 (.pointer (some ⟨Mb,0,none⟩)) hS ?_
 refine pick_o 2 (.pointer (some ⟨Mb,0,none⟩)) hS ?_;refine pick_o 3 (.pointer (some ⟨Mb,0,none⟩)) hS ?_;refine pick_o 4 (.pointer (some ⟨Mb,1,none⟩)) hS ?_;refine pick_o (hy:=fun w' h=>yh) 5 (.slice (some ⟨b,off,none⟩) ns.length cap) hS ?_;refine pick_o 6 (int i64 (t.at_:Int)) hS ?_;refine pick_o 8 (.slice adn ss.length cpn) hS ?_;refine pick_o 9 (.pointer (some ⟨W.heap.size,2,none⟩)) hS ?_;refine pick_o (hy:=fun w' h=>uz) 10 (.string t.n.a) hS ?_;have hA1:Below V2.heap.size V2 (V2.alloc (.cells #[.string t.n.a] 9)):=Lb.alloc La _
 have hS1:(fun w':World=>w'.cell? ⟨Mb,1,none⟩=some (.slice (some ⟨b,off,none⟩) ns.length cap)/\w'.cell? ⟨W.heap.size,2,none⟩=some (.string t.n.a)) (V2.alloc (.cells #[.string t.n.a] 9)):=box1 (S2.o.below hA1) (G2.o.trans (Cf.of_below hA1)) HA.o
 refine pick_cm (i:=7) (j:=11) (f:=59) (args:= #[.slice (some ⟨b,off,none⟩) ns.length cap,int i64 (t.at_:Int),int i64 (1:Int)]) (vi:=int i64 ((t.kid 1).at_:Int)) (vj:=.slice (some ⟨V2.heap.size,0,none⟩) 1 1) (w1:=V2.alloc (.cells #[.string t.n.a] 9)) (kid_calls (cap:=cap) 1 _ (z64 HX.o S2.o) HX.o.tl HS.o zi) (kid_calls (cap:=cap) 1 _ (z64 HX.o (S2.o.below hA1)) HX.o.tl HS.o zi) hS hS1 ?_;clear hS hS1 hA1;refine z26 (i:=12) (f:=57) (args:= #[.slice adn ss.length cpn,.slice (some ⟨V2.heap.size,0,none⟩) 1 1]) rfl ye rfl rfl yf ?_
 refine with_ev [t.n.a] ((N0.o.frame G2.o).names) ux S2.o G2.o fun X3 u3 U3 S3 G3 C3=>?_
 refine⟨u3,rfl,box1 S3.o G3.o HA.o,?_⟩;refine z25 yg ?_;refine z26 (i:=13) (f:=58) (args:= #[.pointer (some ⟨Mb,0,none⟩),int i64 ((t.kid 1).at_:Int),u3]) rfl ye rfl rfl yf ?_;refine bound_ev HIH.o (t.kid 1) (ss++ [t.n.a]) zj (HS.o.kid zi) zl S3.o G3.o R1.o xb U3.o fun X4 x4 S4 G4 R4 C4 O4=>?_
 refine⟨x4,rfl,box1 S4.o G4.o HA.o,?_⟩;refine z25 yg ?_;refine z37 ye ?_;obtain⟨e0,e1,e2,e3,e4,e5,d0,d1⟩:=z32 S4.o G4.o HA.o;go_wp2_with fail
 clear e0 e1 e2 e3 e4 e5 d0 d1;go_end0
 exact⟨⟨_,rfl⟩,S4.o,F0.o.trans G4.o⟩
theorem part_c9 (cx:Cx W0 Mb ae b off es ns) (hk1:K<=1000) (ih:PartC W0 Mb ae ce b off cap es ns K F) {s:Cs}(hF:t.size<=F+1) (hs:Stands ns t) (hK:ss.length+2*t.size<=K) (hB:s.o.length+10*s.rest+10*t.size<=950000) (h:CmE W0 Mb (.slice ae es.length ce) (.slice (some ⟨b,off,none⟩) ns.length cap) s W) (hv:NmT W v ss) (ek:t.n.kind=9) :
 Calls prog 20 #[.pointer (some ⟨Mb,0,none⟩),int i64 (t.at_:Int),v] W (LeadPost W0 Mb (.slice ae es.length ce) (.slice (some ⟨b,off,none⟩) ns.length cap) (boundZ (partZ es F) (t.kid 1) (ss++ [t.n.a]) ((s.put ⟨7,0,0,0⟩).wait ⟨t.kid 0,ss++ [t.n.a,t.n.b],s.o.length,0⟩)) W):=by
 obtain⟨adn,cpn,rfl⟩:=hv.is;obtain⟨Y,HY,HA,S0,F0,N0,G0,R0,HP1,⟨c0,c1,c2,c3,c4,c5,d1⟩,hp0,hpl⟩:=z73 (K:=K) cx hs h hv ek;refine zb24 ?_;intro HC HZ HX HIH HS HK HB;clear h hv cx ih hs hK hF hB hk1;go_enter func20,ntmps20
 go_upto_region 1 with fail
 rw[HY.o];clear HY c0 c1 c2 c3 c4 c5 d1;obtain⟨e0,e1,e2,e3,e4,e5,d0,d1⟩:=z32 S0.o G0.o HA.o;go_wp2_with fail
 clear e0 e1 e2 e3 e4 e5 d0 d1;refine with_ev [t.n.a,t.n.b] ((N0.o.frame G0.o).names) ux S0.o G0.o fun X1 u1 U1 S1 G1 C1=>?_
 obtain⟨e0,e1,e2,e3,e4,e5,d0,d1⟩:=z32 S1.o G1.o HA.o;go_wp2_with fail
 clear e0 e1 e2 e3 e4 e5 d0 d1;refine put_ev ⟨7,0,0,0⟩ S1.o G1.o R0.o zm fun X2 n2 H2 S2 G2 R2 C2 O2 Tn2=>?_
 obtain⟨e0,e1,e2,e3,e4,e5,d0,d1⟩:=z32 S2.o G2.o HA.o;go_wp2_with fail
 clear e0 e1 e2 e3 e4 e5 d0 d1;rw[HP1.o zi];refine wait_ev ⟨t.kid 0,ss++ [t.n.a,t.n.b],n2,0⟩ (HS.o.kid zi) uy Tn2.o S2.o G2.o R2.o (by have hl:=later_le ((Cs.put (s) ⟨7,0,0,0⟩));have r:=R2.o.cost;have hb:=HB.o;have hz:=HZ.o;omega) (U1.o.frame C2.o) fun X3 x3 S3 G3 R3 C3 O3=>?_
 obtain⟨e0,e1,e2,e3,e4,e5,d0,d1⟩:=z32 S3.o G3.o HA.o;go_upto_region 24 with fail
 have hD:Below X3.heap.size X3 X3.drew:=Lb.drew;obtain⟨V4,hDe⟩:∃D,X3.drew=D:=⟨_,rfl⟩
 rw[hDe]at hD;have S4:=U (S3.o.below hD);have G4:=U (G3.o.trans (Cf.of_below hD));have C4:=U (Cf.of_below hD);have hS:(fun w':World=>w'.cell? ⟨Mb,1,none⟩=some (.slice (some ⟨b,off,none⟩) ns.length cap)/\w'.cell? ⟨W.heap.size,2,none⟩=some (.string t.n.a)) V4:=box1 S4.o G4.o HA.o;refine z31 (S:=fun w'=> w'.cell? ⟨Mb,1,none⟩=some (.slice (some ⟨b,off,none⟩) ns.length cap)/\w'.cell? ⟨W.heap.size,2,none⟩=some (.string t.n.a)) ye rfl rfl ?_;rw[hDe];clear hDe hD;clear e0 e1 e2 e3 e4 e5 d0 d1;refine pick_o 0 (.pointer (some ⟨Mb,0,none⟩)) hS ?_;refine pick_o 1 (.pointer (some ⟨Mb,0,none⟩)) hS ?_
 refine pick_o 2 (.pointer (some ⟨Mb,0,none⟩)) hS ?_;refine pick_o 3 (.pointer (some ⟨Mb,0,none⟩)) hS ?_;refine pick_o 4 (.pointer (some ⟨Mb,1,none⟩)) hS ?_;refine pick_o (hy:=fun w' h=>yh) 5 (.slice (some ⟨b,off,none⟩) ns.length cap) hS ?_;refine pick_o 6 (int i64 (t.at_:Int)) hS ?_;refine pick_o 8 (.slice adn ss.length cpn) hS ?_;refine pick_o 9 (.pointer (some ⟨W.heap.size,2,none⟩)) hS ?_;refine pick_o (hy:=fun w' h=>uz) 10 (.string t.n.a) hS ?_;have hA1:Below V4.heap.size V4 (V4.alloc (.cells #[.string t.n.a] 9)):=Lb.alloc La _
 have hS1:(fun w':World=>w'.cell? ⟨Mb,1,none⟩=some (.slice (some ⟨b,off,none⟩) ns.length cap)/\w'.cell? ⟨W.heap.size,2,none⟩=some (.string t.n.a)) (V4.alloc (.cells #[.string t.n.a] 9)):=box1 (S4.o.below hA1) (G4.o.trans (Cf.of_below hA1)) HA.o
 refine pick_cm (i:=7) (j:=11) (f:=59) (args:= #[.slice (some ⟨b,off,none⟩) ns.length cap,int i64 (t.at_:Int),int i64 (1:Int)]) (vi:=int i64 ((t.kid 1).at_:Int)) (vj:=.slice (some ⟨V4.heap.size,0,none⟩) 1 1) (w1:=V4.alloc (.cells #[.string t.n.a] 9)) (kid_calls (cap:=cap) 1 _ (z64 HX.o S4.o) HX.o.tl HS.o zi) (kid_calls (cap:=cap) 1 _ (z64 HX.o (S4.o.below hA1)) HX.o.tl HS.o zi) hS hS1 ?_;clear hS hS1 hA1;refine z26 (i:=12) (f:=57) (args:= #[.slice adn ss.length cpn,.slice (some ⟨V4.heap.size,0,none⟩) 1 1]) rfl ye rfl rfl yf ?_
 refine with_ev [t.n.a] ((N0.o.frame G4.o).names) ux S4.o G4.o fun X5 u5 U5 S5 G5 C5=>?_
 refine⟨u5,rfl,box1 S5.o G5.o HA.o,?_⟩;refine z25 yg ?_;refine z26 (i:=13) (f:=58) (args:= #[.pointer (some ⟨Mb,0,none⟩),int i64 ((t.kid 1).at_:Int),u5]) rfl ye rfl rfl yf ?_;refine bound_ev HIH.o (t.kid 1) (ss++ [t.n.a]) zj (HS.o.kid zi) zl S5.o G5.o R3.o xc U5.o fun X6 x6 S6 G6 R6 C6 O6=>?_
 refine⟨x6,rfl,box1 S6.o G6.o HA.o,?_⟩;refine z25 yg ?_;refine z37 ye ?_;obtain⟨e0,e1,e2,e3,e4,e5,d0,d1⟩:=z32 S6.o G6.o HA.o;go_wp2_with fail
 clear e0 e1 e2 e3 e4 e5 d0 d1;go_end0
 have qn2:=H2.o;subst qn2;exact⟨⟨_,rfl⟩,S6.o,F0.o.trans G6.o⟩
theorem part_c10 (cx:Cx W0 Mb ae b off es ns) (hk1:K<=1000) (ih:PartC W0 Mb ae ce b off cap es ns K F) {s:Cs}(hF:t.size<=F+1) (hs:Stands ns t) (hK:ss.length+2*t.size<=K) (hB:s.o.length+10*s.rest+10*t.size<=950000) (h:CmE W0 Mb (.slice ae es.length ce) (.slice (some ⟨b,off,none⟩) ns.length cap) s W) (hv:NmT W v ss) (ek:t.n.kind=10) :
 Calls prog 20 #[.pointer (some ⟨Mb,0,none⟩),int i64 (t.at_:Int),v] W (LeadPost W0 Mb (.slice ae es.length ce) (.slice (some ⟨b,off,none⟩) ns.length cap) (ifZ (partZ es F) t ss s) W):=by
 obtain⟨adn,cpn,rfl⟩:=hv.is;obtain⟨Y,HY,HA,S0,F0,N0,G0,R0,HP1,⟨c0,c1,c2,c3,c4,c5,d1⟩,hp0,hpl⟩:=z73 (K:=K) cx hs h hv ek;refine zb22 ?_;intro HC HZ HX HIH HS HK HB;clear h hv cx ih hs hK hF hB hk1;go_enter func20,ntmps20
 go_upto_region 1 with fail
 rw[HY.o];clear HY c0 c1 c2 c3 c4 c5 d1;obtain⟨e0,e1,e2,e3,e4,e5,d0,d1⟩:=z32 S0.o G0.o HA.o;go_wp2_with fail
 clear e0 e1 e2 e3 e4 e5 d0 d1;refine zb81 ?_;intro X1 x1 S1 G1 R1 C1 O1 e0 e1 e2 e3 e4 e5 d0 d1;go_wp2_with fail
 clear e0 e1 e2 e3 e4 e5 d0 d1;refine put_ev ⟨10,0,0,0⟩ S1.o G1.o R1.o xb fun X2 n2 H2 S2 G2 R2 C2 O2 Tn2=>?_
 obtain⟨e0,e1,e2,e3,e4,e5,d0,d1⟩:=z32 S2.o G2.o HA.o;go_wp2_with fail
 clear e0 e1 e2 e3 e4 e5 d0 d1;refine kid_ev 1 (z64 HX.o S2.o) HX.o.tl HS.o zi ?_;obtain⟨e0,e1,e2,e3,e4,e5,d0,d1⟩:=z32 S2.o G2.o HA.o;go_wp2_with fail
 clear e0 e1 e2 e3 e4 e5 d0 d1;refine part_ev HIH.o (t.kid 1) (ss) zj (HS.o.kid zi) zl S2.o G2.o R2.o xd (N0.o.frame G2.o) fun X3 x3 S3 G3 R3 C3 O3=>?_
 obtain⟨e0,e1,e2,e3,e4,e5,d0,d1⟩:=z32 S3.o G3.o HA.o;go_wp2_with fail
 clear e0 e1 e2 e3 e4 e5 d0 d1;refine put_ev ⟨11,0,0,0⟩ S3.o G3.o R3.o xc fun X4 n4 H4 S4 G4 R4 C4 O4 Tn4=>?_
 obtain⟨e0,e1,e2,e3,e4,e5,d0,d1⟩:=z32 S4.o G4.o HA.o;go_wp2_with fail
 clear e0 e1 e2 e3 e4 e5 d0 d1;refine lead_ev n2 0 S4.o G4.o R4.o xe (Le Tn2.o (Lf O3.o O4.o)) yk fun X5 x5 S5 G5 R5 C5 O5=>?_
 obtain⟨e0,e1,e2,e3,e4,e5,d0,d1⟩:=z32 S5.o G5.o HA.o;go_wp2_with fail
 clear e0 e1 e2 e3 e4 e5 d0 d1;refine kid_ev 2 (z64 HX.o S5.o) HX.o.tl HS.o zi ?_;obtain⟨e0,e1,e2,e3,e4,e5,d0,d1⟩:=z32 S5.o G5.o HA.o;go_wp2_with fail
 clear e0 e1 e2 e3 e4 e5 d0 d1;refine part_ev HIH.o (t.kid 2) (ss) zj (HS.o.kid zi) zl S5.o G5.o R5.o xf (N0.o.frame G5.o) fun X6 x6 S6 G6 R6 C6 O6=>?_
 obtain⟨e0,e1,e2,e3,e4,e5,d0,d1⟩:=z32 S6.o G6.o HA.o;go_wp2_with fail
 clear e0 e1 e2 e3 e4 e5 d0 d1;refine lead_ev n4 0 S6.o G6.o R6.o xg (Le Tn4.o (Lf O5.o O6.o)) yk fun X7 x7 S7 G7 R7 C7 O7=>?_
 obtain⟨e0,e1,e2,e3,e4,e5,d0,d1⟩:=z32 S7.o G7.o HA.o;go_wp2_with fail
 clear e0 e1 e2 e3 e4 e5 d0 d1;go_end0
 have qn2:=H2.o;subst qn2;have qn4:=H4.o;subst qn4;exact⟨⟨_,rfl⟩,S7.o,F0.o.trans G7.o⟩
theorem part_c20 (cx:Cx W0 Mb ae b off es ns) (hk1:K<=1000) (ih:PartC W0 Mb ae ce b off cap es ns K F) {s:Cs}(hF:t.size<=F+1) (hs:Stands ns t) (hK:ss.length+2*t.size<=K) (hB:s.o.length+10*s.rest+10*t.size<=950000) (h:CmE W0 Mb (.slice ae es.length ce) (.slice (some ⟨b,off,none⟩) ns.length cap) s W) (hv:NmT W v ss) (ek:t.n.kind=20) :
 Calls prog 20 #[.pointer (some ⟨Mb,0,none⟩),int i64 (t.at_:Int),v] W (LeadPost W0 Mb (.slice ae es.length ce) (.slice (some ⟨b,off,none⟩) ns.length cap) (caseZ (partZ es F) t ss s) W):=by
 obtain⟨adn,cpn,rfl⟩:=hv.is;obtain⟨Y,HY,HA,S0,F0,N0,G0,R0,HP1,⟨c0,c1,c2,c3,c4,c5,d1⟩,hp0,hpl⟩:=z73 (K:=K) cx hs h hv ek;refine zb22 ?_;intro HC HZ HX HIH HS HK HB;clear h hv cx ih hs hK hF hB hk1;go_enter func20,ntmps20
 go_upto_region 1 with fail
 rw[HY.o];clear HY c0 c1 c2 c3 c4 c5 d1;obtain⟨e0,e1,e2,e3,e4,e5,d0,d1⟩:=z32 S0.o G0.o HA.o;go_wp2_with fail
 clear e0 e1 e2 e3 e4 e5 d0 d1;refine zb81 ?_;intro X1 x1 S1 G1 R1 C1 O1 e0 e1 e2 e3 e4 e5 d0 d1;go_wp2_with fail
 clear e0 e1 e2 e3 e4 e5 d0 d1;refine put_ev ⟨19,0,0,0⟩ S1.o G1.o R1.o xb fun X2 n2 H2 S2 G2 R2 C2 O2 Tn2=>?_
 obtain⟨e0,e1,e2,e3,e4,e5,d0,d1⟩:=z32 S2.o G2.o HA.o;go_upto_region 36 with fail
 have hD:Below X2.heap.size X2 X2.drew:=Lb.drew;obtain⟨V3,hDe⟩:∃D,X2.drew=D:=⟨_,rfl⟩
 rw[hDe]at hD;have S3:=U (S2.o.below hD);have G3:=U (G2.o.trans (Cf.of_below hD));have C3:=U (Cf.of_below hD);have hS:(fun w':World=>w'.cell? ⟨Mb,1,none⟩=some (.slice (some ⟨b,off,none⟩) ns.length cap)/\w'.cell? ⟨W.heap.size,2,none⟩=some (.string t.n.a)/\w'.cell? ⟨W.heap.size,3,none⟩=some (.string t.n.b)) V3:=box2 S3.o G3.o HA.o;refine z31 (S:=fun w'=> w'.cell? ⟨Mb,1,none⟩=some (.slice (some ⟨b,off,none⟩) ns.length cap)/\w'.cell? ⟨W.heap.size,2,none⟩=some (.string t.n.a)/\w'.cell? ⟨W.heap.size,3,none⟩=some (.string t.n.b)) ye rfl rfl ?_;rw[hDe];clear hDe hD;clear e0 e1 e2 e3 e4 e5 d0 d1
 refine pick_o 0 (.pointer (some ⟨Mb,0,none⟩)) hS ?_;refine pick_o 1 (.pointer (some ⟨Mb,0,none⟩)) hS ?_;refine pick_o 2 (.pointer (some ⟨Mb,0,none⟩)) hS ?_;refine pick_o 3 (.pointer (some ⟨Mb,0,none⟩)) hS ?_;refine pick_o 4 (.pointer (some ⟨Mb,1,none⟩)) hS ?_;refine pick_o (hy:=fun w' h=>yh) 5 (.slice (some ⟨b,off,none⟩) ns.length cap) hS ?_;refine pick_o 6 (int i64 (t.at_:Int)) hS ?_;refine pick_o 8 (.slice adn ss.length cpn) hS ?_;refine pick_o 9 (.pointer (some ⟨W.heap.size,2,none⟩)) hS ?_;refine pick_o (hy:=fun w' h=>xh) 10 (.string t.n.a) hS ?_
 refine pick_o 11 (.pointer (some ⟨W.heap.size,3,none⟩)) hS ?_;refine pick_o (hy:=fun w' h=>by simp[go_sem,h.2.2]) 12 (.string t.n.b) hS ?_;have hA1:Below V3.heap.size V3 (V3.alloc (.cells #[.string t.n.a,.string t.n.b] 9)):=Lb.alloc La _;have hS1:(fun w':World=>w'.cell? ⟨Mb,1,none⟩=some (.slice (some ⟨b,off,none⟩) ns.length cap)/\w'.cell? ⟨W.heap.size,2,none⟩=some (.string t.n.a)/\w'.cell? ⟨W.heap.size,3,none⟩=some (.string t.n.b)) (V3.alloc (.cells #[.string t.n.a,.string t.n.b] 9)):=box2 (S3.o.below hA1) (G3.o.trans (Cf.of_below hA1)) HA.o
 refine pick_cm (i:=7) (j:=13) (f:=59) (args:= #[.slice (some ⟨b,off,none⟩) ns.length cap,int i64 (t.at_:Int),int i64 (2:Int)]) (vi:=int i64 ((t.kid 2).at_:Int)) (vj:=.slice (some ⟨V3.heap.size,0,none⟩) 2 2) (w1:=V3.alloc (.cells #[.string t.n.a,.string t.n.b] 9)) (kid_calls (cap:=cap) 2 _ (z64 HX.o S3.o) HX.o.tl HS.o zi) (kid_calls (cap:=cap) 2 _ (z64 HX.o (S3.o.below hA1)) HX.o.tl HS.o zi) hS hS1 ?_;clear hS hS1 hA1;refine z26 (i:=14) (f:=57) (args:= #[.slice adn ss.length cpn,.slice (some ⟨V3.heap.size,0,none⟩) 2 2]) rfl ye rfl rfl yf ?_
 refine with_ev [t.n.a,t.n.b] ((N0.o.frame G3.o).names) ux S3.o G3.o fun X4 u4 U4 S4 G4 C4=>?_
 refine⟨u4,rfl,box2 S4.o G4.o HA.o,?_⟩;refine z25 yg ?_;refine z26 (i:=15) (f:=20) (args:= #[.pointer (some ⟨Mb,0,none⟩),int i64 ((t.kid 2).at_:Int),u4]) rfl ye rfl rfl yf ?_;refine part_ev HIH.o (t.kid 2) (ss++ [t.n.a,t.n.b]) zj (HS.o.kid zi) zl S4.o G4.o R2.o xd U4.o fun X5 x5 S5 G5 R5 C5 O5=>?_
 refine⟨x5,rfl,box2 S5.o G5.o HA.o,?_⟩;refine z25 yg ?_;refine z37 ye ?_;obtain⟨e0,e1,e2,e3,e4,e5,d0,d1⟩:=z32 S5.o G5.o HA.o;go_wp2_with fail
 clear e0 e1 e2 e3 e4 e5 d0 d1;refine put_ev ⟨13,0,0,0⟩ S5.o G5.o R5.o xf fun X6 n6 H6 S6 G6 R6 C6 O6 Tn6=>?_
 obtain⟨e0,e1,e2,e3,e4,e5,d0,d1⟩:=z32 S6.o G6.o HA.o;go_wp2_with fail
 clear e0 e1 e2 e3 e4 e5 d0 d1;refine put_ev ⟨13,0,0,0⟩ S6.o G6.o R6.o xg fun X7 n7 H7 S7 G7 R7 C7 O7 Tn7=>?_
 obtain⟨e0,e1,e2,e3,e4,e5,d0,d1⟩:=z32 S7.o G7.o HA.o;go_wp2_with fail
 clear e0 e1 e2 e3 e4 e5 d0 d1;refine put_ev ⟨11,0,0,0⟩ S7.o G7.o R7.o (by have r:=R7.o.cost;have hb:=HB.o;have hz:=HZ.o;omega) fun X8 n8 H8 S8 G8 R8 C8 O8 Tn8=>?_
 obtain⟨e0,e1,e2,e3,e4,e5,d0,d1⟩:=z32 S8.o G8.o HA.o;go_wp2_with fail
 clear e0 e1 e2 e3 e4 e5 d0 d1;refine lead_ev n2 0 S8.o G8.o R8.o (by have r:=R8.o.cost;have hb:=HB.o;have hz:=HZ.o;omega) (Le Tn2.o (Lf O5.o (Lf O6.o (Lf O7.o O8.o)))) yk fun X9 x9 S9 G9 R9 C9 O9=>?_
 obtain⟨e0,e1,e2,e3,e4,e5,d0,d1⟩:=z32 S9.o G9.o HA.o;go_wp2_with fail
 clear e0 e1 e2 e3 e4 e5 d0 d1;refine kid_ev 1 (z64 HX.o S9.o) HX.o.tl HS.o zi ?_;obtain⟨e0,e1,e2,e3,e4,e5,d0,d1⟩:=z32 S9.o G9.o HA.o;go_wp2_with fail
 clear e0 e1 e2 e3 e4 e5 d0 d1;refine part_ev HIH.o (t.kid 1) (ss) zj (HS.o.kid zi) zl S9.o G9.o R9.o (by have r:=R9.o.cost;have hb:=HB.o;have hz:=HZ.o;omega) (N0.o.frame G9.o) fun X10 x10 S10 G10 R10 C10 O10=>?_
 obtain⟨e0,e1,e2,e3,e4,e5,d0,d1⟩:=z32 S10.o G10.o HA.o;go_wp2_with fail
 clear e0 e1 e2 e3 e4 e5 d0 d1;refine lead_ev n8 0 S10.o G10.o R10.o (by have r:=R10.o.cost;have hb:=HB.o;have hz:=HZ.o;omega) (Le Tn8.o (Lf O9.o O10.o)) yk fun X11 x11 S11 G11 R11 C11 O11=>?_
 obtain⟨e0,e1,e2,e3,e4,e5,d0,d1⟩:=z32 S11.o G11.o HA.o;go_wp2_with fail
 clear e0 e1 e2 e3 e4 e5 d0 d1;go_end0
 have qn2:=H2.o;subst qn2;have qn8:=H8.o;subst qn8;exact⟨⟨_,rfl⟩,S11.o,F0.o.trans G11.o⟩
end
end
end Go.Proofs.YtbbffkiobmbkfaaGreatDoor
