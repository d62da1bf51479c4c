import Derived.Test.YtbbffkiobmbkfaaGreatDoorPkV27
open Go.Proofs.Tryz
open Go.Value Go.IntKind
set_option maxHeartbeats 8000000
set_option maxRecDepth 100000
namespace Go.Proofs.YtbbffkiobmbkfaaGreatDoor
open Go.RowKit Go.Deep
variable {d:Dr}{ms ns:List Nd}{bp p0 q rx:Nat}{u0 u1 v v1 ve vt:Value}{W X X':World}
section
open Go.RowKit Go.Deep
structure Sp (d:Dr) (W X:World) (q:Nat) (ve v1:Value) (bp rx:Nat) (vt:Value) (ns:List Nd):Prop where
 rd:Rdr d X q
 gr:Grew d W X
 box:X.heap[bp]?=some (.cells #[ve,v1] 26)
 res:X.heap[rx]?=some (.cells #[.slice none 0 0,.slice none 0 0] 26)
 lo:d.B<W.heap.size/\W.heap.size<=bp/\W.heap.size<=rx/\bp≠rx
 row:X.ownsRow W.heap.size 68 6 vt ns.length (rowZ Nd.cell 6 ns)
 sml:∀n∈ns,Brief n.a/\Brief n.b/\Brief n.c
 any:1<=ns.length/\ns.length<=300
theorem Sp.pick {q':Nat}(h:Sp d W X q ve v1 bp rx vt ns) (hr:Rdr d X' q') (hg:Grew d X X') (ho:∀k,k≠d.B->X'.heap[k]?=X.heap[k]?):Sp d W X' q' ve v1 bp rx vt ns:=
 ⟨hr,h.gr.trans hg,(ho bp ybf).trans h.box,(ho rx ybf).trans h.res,h.lo,g_same h.row (fun g hk=>ho g (by have:=(h.row.lt g hk).1;have:=h.lo;omega)),h.sml,h.any⟩
theorem Sp.below (h:Sp d W X q ve v1 bp rx vt ns) (hb:Below X.heap.size X X'):Sp d W X' q ve v1 bp rx vt ns:=
 ⟨h.rd.below hb,h.gr.trans (Grew.of_below hb),(hb.block _ (z13 h.box)).trans h.box,(hb.block _ (z13 h.res)).trans h.res,h.lo,g_same h.row (fun g hk=>hb.block g (h.row.lt g hk).2),h.sml,h.any⟩
theorem Sp.other {nb:Nat}(h:Sp d W X q ve v1 bp rx vt ns) (ho:∀k,k≠nb->X'.heap[k]?=X.heap[k]?) (hs:X'.heap.size=X.heap.size) (hos:X'.os=X.os/\X'.tape=X.tape/\X'.output=X.output) (h1:W.heap.size<=nb) (h2:nb≠bp) (h3:nb≠rx) (h4:vt.ownBlock≠some nb) (hby:∀b off,d.a0=some ⟨b,off,none⟩->0<d.len->b≠nb):Sp d W X' q ve v1 bp rx vt ns:=by
 have hlo:=h.lo;refine⟨⟨(ho _ ya).trans h.rd.blk,fun hl=>?_⟩,⟨hos.1.trans h.gr.os,hos.2.1.trans h.gr.tape,hos.2.2.trans h.gr.output,ybg,fun k hk=>(ho k yay).trans (h.gr.block k hk)⟩,(ho bp (Ne.symm h2)).trans h.box,(ho rx (Ne.symm h3)).trans h.res,hlo,g_same h.row (fun g hk=>ho g (fun e=>h4 (by rw[<-e];exact hk))),h.sml,h.any⟩;obtain⟨b,off,ea,hq,hz⟩:=h.rd.bytes hl;refine⟨b,off,ea,⟨zp,hq.2⟩,fun i hi=>?_⟩;obtain⟨z,hz,h5⟩:=hz i hi;exact⟨z,(Lj (a:=⟨b,off+i,none⟩) (ho b (hby b off ea hl))).trans hz,h5⟩
theorem bytes_low {p:Nat}(h:Rdr d W p):∀b off,d.a0=some ⟨b,off,none⟩->0<d.len->b<W.heap.size:=fun b off ea hl=>by
 obtain⟨b',off',ea',hq,-⟩:=h.bytes hl;rw[ea]at ea'
 cases ea';exact hq.1
structure Bx (d:Dr) (W X:World) (q:Nat) (ve v1:Value) (bp rx:Nat):Prop where
 rd:Rdr d X q
 gr:Grew d W X
 box:X.heap[bp]?=some (.cells #[ve,v1] 26)
 res:X.heap[rx]?=some (.cells #[.slice none 0 0,.slice none 0 0] 26)
 lo:d.B<W.heap.size/\W.heap.size<=bp/\W.heap.size<=rx/\bp≠rx
theorem Sp.bx (h:Sp d W X q ve v1 bp rx vt ns):Bx d W X q ve v1 bp rx:=⟨h.rd,h.gr,h.box,h.res,h.lo⟩
theorem Bx.other {nb:Nat}(h:Bx d W X q ve v1 bp rx) (h0:Rdr d W p0) (ho:∀k,k≠nb->X'.heap[k]?=X.heap[k]?) (hs:X'.heap.size=X.heap.size) (hos:X'.os=X.os/\X'.tape=X.tape/\X'.output=X.output) (h1:W.heap.size<=nb) (h2:nb≠bp) (h3:nb≠rx):Bx d W X' q ve v1 bp rx:=by
 have hlo:=h.lo;refine⟨⟨(ho _ ya).trans h.rd.blk,fun hl=>?_⟩,⟨hos.1.trans h.gr.os,hos.2.1.trans h.gr.tape,hos.2.2.trans h.gr.output,ybg,fun k hk=>(ho k yay).trans (h.gr.block k hk)⟩,(ho bp (Ne.symm h2)).trans h.box,(ho rx (Ne.symm h3)).trans h.res,hlo⟩;obtain⟨b,off,ea,hq,hz⟩:=h.rd.bytes hl;refine zb87 ?_;intro hbl i hi z hz h5;exact⟨z,(Lj (a:=⟨b,off+i,none⟩) (ho b ya)).trans hz,h5⟩
theorem Sp.set {g L cap:Nat}(h:Sp d W X q ve v1 bp rx (.slice (some ⟨g,0,none⟩) L cap) ns) (h0:Rdr d W p0) (nb j:Nat) (u:Value) (h1:W.heap.size<=nb) (h2:nb≠bp) (h3:nb≠rx) (h4:nb≠g):Sp d W (X.setCell ⟨nb,j,none⟩ u) q ve v1 bp rx (.slice (some ⟨g,0,none⟩) L cap) ns:=
 h.other (nb:=nb) (fun k hk=>Lg X ⟨nb,j,none⟩ u k hk) qo ⟨rfl,rfl,rfl⟩ h1 h2 h3 (by simp[Value.ownBlock];exact Ne.symm h4) (fun b off ea hl e=>by have:=bytes_low h0 b off ea hl;omega)
theorem last_store (h:Bx d W X q ve v1 bp rx) (h0:Rdr d W p0) (hve:∃a n c,ve=.slice a n c) (hn:NodesD d X v ms) (j:Nat) (u u0 u1:Value) :
 NodesD d (((X.setCell ⟨bp,j,none⟩ u).setCell ⟨rx,0,none⟩ u0).setCell ⟨rx,1,none⟩ u1) v ms/\Rdr d (((X.setCell ⟨bp,j,none⟩ u).setCell ⟨rx,0,none⟩ u0).setCell ⟨rx,1,none⟩ u1) q/\Grew d W (((X.setCell ⟨bp,j,none⟩ u).setCell ⟨rx,0,none⟩ u0).setCell ⟨rx,1,none⟩ u1):=by
 have ho:∀k,k≠bp->k≠rx->(((X.setCell ⟨bp,j,none⟩ u).setCell ⟨rx,0,none⟩ u0).setCell ⟨rx,1,none⟩ u1).heap[k]?=X.heap[k]? :=fun k h1 h2=>((Lg _ ⟨rx,1,none⟩ _ k h2).trans (Lg _ ⟨rx,0,none⟩ _ k h2)).trans (Lg X ⟨bp,j,none⟩ _ k h1)
 have hs:(((X.setCell ⟨bp,j,none⟩ u).setCell ⟨rx,0,none⟩ u0).setCell ⟨rx,1,none⟩ u1).heap.size=X.heap.size:=qo;have hlo:=h.lo;obtain⟨a,n,c,rfl⟩:=hve;refine⟨⟨?_,hn.2⟩,⟨(ho _ ya ya).trans h.rd.blk,fun hl=>?_⟩,⟨h.gr.os,h.gr.tape,h.gr.output,ybg,fun k hk=>(ho k yay yay).trans (h.gr.block k hk)⟩⟩
 .rcases hn.1 with hx|⟨b,off,cap,h1,h2,rfl,h4,h5⟩
  .exact Or.inl hx
  ·refine Or.inr ⟨b,0,cap,h1,h2,rfl,⟨yax,h4.2⟩,fun i hi=>?_⟩;have e1:=h5 0 ya;have hb1:b≠bp:=fun e=>by
    subst e;rw[Nat.zero_add,z11 h.box 0]at e1;simp at e1
    cases e1
   have hb2:b≠rx:=fun e=>by
    subst e;rw[Nat.zero_add,z11 h.res 0]at e1;simp at e1
    cases e1
   exact(Lj (a:=⟨b,0+i,none⟩) (ho b hb1 hb2)).trans (h5 i hi)
 .obtain⟨b,off,ea,hq,hz⟩:=h.rd.bytes hl;refine zb87 ?_;intro hbl i hi z hz h5;exact⟨z,(Lj (a:=⟨b,off+i,none⟩) (ho b ya ya)).trans hz,h5⟩
def six (X:World) (g k:Nat) (m:Nd):World:=(((((X.setCell ⟨g,k*6,none⟩ (int i64 m.kind)).setCell ⟨g,k*6+1,none⟩ (int i64 m.num)).setCell ⟨g,k*6+2,none⟩ (.string m.a)).setCell ⟨g,k*6+3,none⟩ (.string m.b)).setCell ⟨g,k*6+4,none⟩ (.string m.c)).setCell ⟨g,k*6+5,none⟩ (int i64 m.kids)
theorem six_other (X:World) (g k:Nat) (m:Nd):(∀j,j≠g->(six X g k m).heap[j]?=X.heap[j]?)/\(six X g k m).heap.size=X.heap.size:=by
 refine⟨fun j hj=>?_,by simp[six,World.setCell]⟩;unfold six;rw[Lg _ ⟨g,k*6+5,none⟩ _ j hj,Lg _ ⟨g,k*6+4,none⟩ _ j hj,Lg _ ⟨g,k*6+3,none⟩ _ j hj,Lg _ ⟨g,k*6+2,none⟩ _ j hj,Lg _ ⟨g,k*6+1,none⟩ _ j hj,Lg _ ⟨g,k*6,none⟩ _ j hj]
theorem six_os (X:World) (g k:Nat) (m:Nd):(six X g k m).os=X.os/\(six X g k m).tape=X.tape/\(six X g k m).output=X.output:=by
 simp[six,World.setCell]
theorem six_row {B g cap k:Nat}(h:X.ownsRow B 68 6 (.slice (some ⟨g,0,none⟩) ns.length cap) ns.length (rowZ Nd.cell 6 ns)) (hk:k<ns.length) (m:Nd) (d:Dr) (hf:d.free (six X g k m) g) (hc:ns.length<=cap) (hb:∀n∈ns,Brief n.a/\Brief n.b/\Brief n.c) (hm:Brief m.a/\Brief m.b/\Brief m.c) :
 NodesD d (six X g k m) (.slice (some ⟨g,0,none⟩) ns.length cap) (ns.set k m):=by
 refine⟨?_,fun n hn=>?_⟩
 .rw[List.length_set];refine Or.inr ⟨g,0,cap,rfl,hc,rfl,hf,fun i hi=>?_⟩;have hci:=h.cellAt i hi;rw[z51 Nd.cell 6 yk ns i hi]at hci;obtain⟨-,⟨h1,-⟩|⟨g',cap',cur,e,-,hg,-,-,hsz,-⟩⟩:=h
  .cases h1
  cases e;have hrw:Rw X g 68 cur.size (fun j=>cur.getD j undef) 0:=⟨cur,(0,0),hg,rfl,fun j hj=>by simp[hj],Or.inl rfl⟩
  have hcur:cur.getD i undef=(ns.getD (i/6) default).cell (i % 6):=by
   rw[z11 hg i]at hci;simp[Array.getD_eq_getD_getElem?,hci]
  have hlt:i<cur.size:=by
   rw[z11 hg i]at hci;exact(Array.getElem?_eq_some_iff.1 hci).1
  have hx:=(((((hrw.set (k*6) (int i64 m.kind)).set (k*6+1) (int i64 m.num)).set (k*6+2) (.string m.a)).set (k*6+3) (.string m.b)).set (k*6+4) (.string m.c)).set (k*6+5) (int i64 m.kids);have hy:=hx.cell hlt;rw[Nat.zero_add];refine hy.trans (congrArg some ?_);show _=((ns.set k m).getD (i/6) default).cell (i % 6);by_cases hik:i/6=k
  .have hm6:i=k*6+i % 6:=by omega
   have hgd:(ns.set k m).getD (i/6) default=m:=by rw[hik];simp[List.getD,hk]
   rw[hgd];have hr:i % 6=0\/i % 6=1\/i % 6=2\/i % 6=3\/i % 6=4\/i % 6=5:=ya;rcases hr with hr|hr|hr|hr|hr|hr
   ·(iterate 5 rw[if_neg ya]);rw[if_pos ya,hr];rfl
   ·(iterate 4 rw[if_neg ya]);rw[if_pos ya,hr];rfl
   .rw[if_neg ya,if_neg ya,if_neg ya,if_pos ya,hr];rfl
   .rw[if_neg ya,if_neg ya,if_pos ya,hr];rfl
   .rw[if_neg ya,if_pos ya,hr];rfl
   .rw[if_pos ya,hr];rfl
  ·(iterate 6 rw[if_neg ya]);rw[hcur];have hgd:(ns.set k m).getD (i/6) default=ns.getD (i/6) default:=by simp[List.getD,List.getElem?_set_ne (Ne.symm hik)]
   rw[hgd]
 .rcases List.mem_or_eq_of_mem_set hn with h1|h1
  .exact hb n h1
  .rw[h1];exact hm
def SpoilPostE (d:Dr) (W:World) (p:Nat) (e:Ending) (W':World):Prop:=
 ∃ad n cp v ns p',e=.returned (.agg #[.slice ad n cp,v])/\NodesD d W' v ns/\ns.length<=1000/\Rdr d W' p'/\p'<=p+10/\Grew d W W'/\ ∃es,EffsD d W' (.slice ad n cp) es/\es.length<=5
theorem z77 {ad:Option Addr}{n cp:Nat}{es:List Ef}(h:EffsD d W (.slice ad n cp) es/\es.length<=4) (g:Grew d W X) {k:Nat}(hk:k<=n):∃es',EffsD d X (.slice ad k cp) es'/\es'.length<=5:=by
 obtain⟨h,h4⟩:=h;have h1:=h.grew g;rcases h1.1 with ⟨e,-⟩|⟨b,off,cap,e,hc,-,hq,h5⟩
 .simp only[Value.slice.injEq]at e;obtain⟨rfl,rfl,rfl⟩:=e;have:k=0:=ya;subst this;exact⟨[],⟨Or.inl ⟨rfl,rfl⟩,fun x hx=>by simp at hx⟩,yq⟩
 ·simp only[Value.slice.injEq]at e;obtain⟨rfl,rfl,rfl⟩:=e;refine⟨es.take k,⟨?_,fun x hx=>h1.2 x (List.mem_of_mem_take hx)⟩,yaw⟩;have hlk:(es.take k).length=k:=yaw;rw[hlk];have hof:off=0:=by
   rcases h1.1 with ⟨e,-⟩|⟨_,_,_,e,-,hz,-⟩
   .cases e
   .cases e;exact hz
  refine Or.inr ⟨b,off,cp,rfl,ya,hof,hq,fun i hi=>?_⟩;have hi':i/3<k:=ya;rw[h5 i ya];have e:(es.take k).getD (i/3) default=es.getD (i/3) default:=by simp[List.getD,List.getElem?_take_of_lt hi']
  show _=some (((es.take k).getD (i/3) default).cell (i % 3));rw[e]
theorem bx_notE {ms:List Ef}(h:Bx d W X q ve v1 bp rx) (hve:∃a n c,ve=.slice a n c) (hn:EffsD d X v ms) (ho:∀k,k≠bp->k≠rx->X'.heap[k]?=X.heap[k]?) (hs:X'.heap.size=X.heap.size):EffsD d X' v ms:=by
 obtain⟨a,n,c,rfl⟩:=hve;refine⟨?_,hn.2⟩;rcases hn.1 with hx|⟨b,off,cap,h1,h2,rfl,h4,h5⟩
 .exact Or.inl hx
 ·refine Or.inr ⟨b,0,cap,h1,h2,rfl,⟨yax,h4.2⟩,fun i hi=>?_⟩;have e1:=h5 0 ya;have hb1:b≠bp:=fun e=>by
   subst e;rw[Nat.zero_add,z11 h.box 0]at e1;simp at e1
   cases e1
  have hb2:b≠rx:=fun e=>by
   subst e;rw[Nat.zero_add,z11 h.res 0]at e1;simp at e1
   cases e1
  exact(Lj (a:=⟨b,0+i,none⟩) (ho b hb1 hb2)).trans (h5 i hi)
theorem three_else {j:Nat}{u:Value}:(∀k,k≠bp->k≠rx->(((X.setCell ⟨bp,j,none⟩ u).setCell ⟨rx,0,none⟩ u0).setCell ⟨rx,1,none⟩ u1).heap[k]?=X.heap[k]?)/\(((X.setCell ⟨bp,j,none⟩ u).setCell ⟨rx,0,none⟩ u0).setCell ⟨rx,1,none⟩ u1).heap.size=X.heap.size:=
 ⟨fun k h1 h2=>((Lg _ ⟨rx,1,none⟩ _ k h2).trans (Lg _ ⟨rx,0,none⟩ _ k h2)).trans (Lg X ⟨bp,j,none⟩ _ k h1),qo⟩
theorem effs_new {u:Value}{j:Nat}{es:List Ef}{y:ByteArray}{a b:Int}{t:TypeId}(h:Bx d W X q ve v1 bp rx) (hve:∃a n c,ve=.slice a n c) (hG:d.G=d.B) (he:(∀e∈es,Brief e.name)/\es.length<=4) (hy:Brief y) (ho:X.ownsRow W.heap.size t 3 v ((([]:List Ef)++es)++ [(⟨y,a,b⟩:Ef)]).length (rowZ Ef.cell 3 ((([]:List Ef)++es)++ [(⟨y,a,b⟩:Ef)]))):∃es',EffsD d (((X.setCell ⟨bp,j,none⟩ u).setCell ⟨rx,0,none⟩ u0).setCell ⟨rx,1,none⟩ u1) v es'/\es'.length<=5:=by
 refine⟨(([]:List Ef)++es)++ [(⟨y,a,b⟩:Ef)],bx_notE h hve ⟨lies_owns (f:=Ef.cell) yk ho h.lo.1 (by rw[hG];exact h.lo.1),fun x hx=>?_⟩ three_else.1 three_else.2,jd⟩;rw[List.nil_append,List.mem_append,Ls]at hx;rcases hx with hx|rfl
 .exact he.1 x hx
 .exact hy
def SpoilC:Prop:= ∀(d:Dr) (W:World) (p:Nat) (ad:Option Addr) (n cp:Nat) (vt:Value) (es:List Ef) (ns:List Nd),d.G=d.B->Rdr d W p->p<=900000->EffsD d W (.slice ad n cp) es->es.length<=4->NodesD d W vt ns->GTr ns->
 Calls prog 36 #[.pointer (some ⟨d.B,0,none⟩),.agg #[.slice ad n cp,vt]] W (SpoilPostE d W p)
theorem Bx.pick {q':Nat}(h:Bx d W X q ve v1 bp rx) (hr:Rdr d X' q') (hg:Grew d X X') (hG:d.G=d.B):Bx d W X' q' ve v1 bp rx:=
 ⟨hr,h.gr.trans hg,(hg.block bp ⟨z13 h.box,ybf,ybh⟩).trans h.box,(hg.block rx ⟨z13 h.res,ybf,ybh⟩).trans h.res,h.lo⟩
theorem bx_not (h:Bx d W X q ve v1 bp rx) (hve:∃a n c,ve=.slice a n c) (hn:NodesD d X v ms) (ho:∀k,k≠bp->k≠rx->X'.heap[k]?=X.heap[k]?) (hs:X'.heap.size=X.heap.size):NodesD d X' v ms:=by
 obtain⟨a,n,c,rfl⟩:=hve;refine⟨?_,hn.2⟩;rcases hn.1 with hx|⟨b,off,cap,h1,h2,rfl,h4,h5⟩
 .exact Or.inl hx
 ·refine Or.inr ⟨b,0,cap,h1,h2,rfl,⟨yax,h4.2⟩,fun i hi=>?_⟩;have e1:=h5 0 ya;have hb1:b≠bp:=fun e=>by
   subst e;rw[Nat.zero_add,z11 h.box 0]at e1;simp at e1
   cases e1
  have hb2:b≠rx:=fun e=>by
   subst e;rw[Nat.zero_add,z11 h.res 0]at e1;simp at e1
   cases e1
  exact(Lj (a:=⟨b,0+i,none⟩) (ho b hb1 hb2)).trans (h5 i hi)
theorem Bx.put (h:Bx d W X q ve v1 bp rx) (h0:Rdr d W p0) (u0 u1:Value):Bx d W ((X.setCell ⟨bp,0,none⟩ u0).setCell ⟨bp,1,none⟩ u1) q u0 u1 bp rx:=by
 have ho:∀k,k≠bp->((X.setCell ⟨bp,0,none⟩ u0).setCell ⟨bp,1,none⟩ u1).heap[k]?=X.heap[k]? :=fun k hk=>(Lg _ ⟨bp,1,none⟩ _ k hk).trans (Lg X ⟨bp,0,none⟩ _ k hk)
 have hs:((X.setCell ⟨bp,0,none⟩ u0).setCell ⟨bp,1,none⟩ u1).heap.size=X.heap.size:=qo;have hlo:=h.lo;refine⟨⟨(ho _ ya).trans h.rd.blk,fun hl=>?_⟩,⟨h.gr.os,h.gr.tape,h.gr.output,ybg,fun k hk=>(ho k yay).trans (h.gr.block k hk)⟩,z68 (z68 h.box),(ho rx ya).trans h.res,hlo⟩;obtain⟨b,off,ea,hq,hz⟩:=h.rd.bytes hl;refine zb87 ?_;intro hbl i hi z hz h5;exact⟨z,(Lj (a:=⟨b,off+i,none⟩) (ho b ya)).trans hz,h5⟩
theorem Bx.told (h:Bx d W X q ve v1 bp rx) (h0:Rdr d W p0) (hve:∃a n c,ve=.slice a n c) (hn:NodesD d X v ms) (u0 u1:Value) :
 NodesD d ((X.setCell ⟨rx,0,none⟩ u0).setCell ⟨rx,1,none⟩ u1) v ms/\Rdr d ((X.setCell ⟨rx,0,none⟩ u0).setCell ⟨rx,1,none⟩ u1) q/\Grew d W ((X.setCell ⟨rx,0,none⟩ u0).setCell ⟨rx,1,none⟩ u1):=by
 have ho:∀k,k≠rx->((X.setCell ⟨rx,0,none⟩ u0).setCell ⟨rx,1,none⟩ u1).heap[k]?=X.heap[k]? :=fun k hk=>(Lg _ ⟨rx,1,none⟩ _ k hk).trans (Lg X ⟨rx,0,none⟩ _ k hk)
 have hs:((X.setCell ⟨rx,0,none⟩ u0).setCell ⟨rx,1,none⟩ u1).heap.size=X.heap.size:=qo;have hlo:=h.lo;refine⟨bx_not h hve hn (fun k _ h2=>ho k h2) hs,⟨(ho _ ya).trans h.rd.blk,fun hl=>?_⟩,⟨h.gr.os,h.gr.tape,h.gr.output,ybg,fun k hk=>(ho k yay).trans (h.gr.block k hk)⟩⟩;obtain⟨b,off,ea,hq,hz⟩:=h.rd.bytes hl;refine zb87 ?_;intro hbl i hi z hz h5;exact⟨z,(Lj (a:=⟨b,off+i,none⟩) (ho b ya)).trans hz,h5⟩
theorem chain_step {X7 wr W':World}{acc:List Nd}{m:Nd}{out v':Value}{o:Obj}(h:wr.ownsRow X7.heap.size 68 6 out acc.length (rowZ Nd.cell 6 acc)/\Below X7.heap.size X7 wr/\ ∀n∈acc,Brief n.a/\Brief n.b/\Brief n.c) (hm:Brief m.a/\Brief m.b/\Brief m.c) (h':W'.ownsRow X7.heap.size 68 6 v' (acc++ [m]).length (rowZ Nd.cell 6 (acc++ [m]))/\(wr.alloc o).grownBy W' out.ownBlock) :
 W'.ownsRow X7.heap.size 68 6 v' (acc++ [m]).length (rowZ Nd.cell 6 (acc++ [m]))/\Below X7.heap.size X7 W'/\ ∀n∈acc++ [m],Brief n.a/\Brief n.b/\Brief n.c:=
 ⟨h'.1,(h.2.1.alloc h.2.1.size o).grown h'.2 (by have:=h.2.1.size;simp;omega) (fun k hk=>(h.1.lt k hk).1),fun n hn=>by
  rw[List.mem_append,Ls]at hn;rcases hn with hn|rfl
  .exact h.2.2 n hn
  .exact hm⟩
theorem bx_below (h:Bx d W X q ve v1 bp rx) (hb:Below X.heap.size X X'):Bx d W X' q ve v1 bp rx:=
 ⟨h.rd.below hb,h.gr.trans (Grew.of_below hb),(hb.block _ (z13 h.box)).trans h.box,(hb.block _ (z13 h.res)).trans h.res,h.lo⟩
theorem two_else:(∀k,k≠bp->k≠rx->((X.setCell ⟨rx,0,none⟩ u0).setCell ⟨rx,1,none⟩ u1).heap[k]?=X.heap[k]?)/\((X.setCell ⟨rx,0,none⟩ u0).setCell ⟨rx,1,none⟩ u1).heap.size=X.heap.size:=
 ⟨fun k _ h2=>(Lg _ ⟨rx,1,none⟩ _ k h2).trans (Lg _ ⟨rx,0,none⟩ _ k h2),qo⟩
def AnyPostE (d:Dr) (W:World) (e:Ending) (W':World):Prop:=
 ∃ad n cp v ns q,e=.returned (.agg #[.slice ad n cp,v])/\NodesD d W' v ns/\ns.length<=1000/\Rdr d W' q/\q<=990000/\Grew d W W'/\ ∃es,EffsD d W' (.slice ad n cp) es/\es.length<=5
theorem any_calls (hSp:SpoilC) {p:Nat}(hG:d.G=d.B) (h:Rdr d W p) (hp:p<=1000):Calls prog 14 #[.pointer (some ⟨d.B,0,none⟩)] W (AnyPostE d W):=by
 have hB:=z13 h.blk;have H0:=U (Lc h (Lc hp hG));have HSp:=U hSp;have hb1:Below W.heap.size W (W.alloc (.cells #[.slice none 0 0,.slice none 0 0] 26)):=Lb.alloc La _;have HB1:=U hb1;have HR1:=U (Ld W (.cells #[.slice none 0 0,.slice none 0 0] 26)).1;have HP:=U (prog_calls hG (h.below hb1) ya);clear hSp hG h hp hb1;go_enter func14,ntmps14
 go_wp2_with fail
 refine HP.o.mono ?_;rintro e W2 ⟨ad,n,cp,vt,es,ns,q2,rfl,hE,hE4,hN,hT,hR,hq,hg⟩;obtain⟨adt,cpt,rfl⟩:=hN.is;have HE:=U (Lc hE hE4);have HN:=U (Lc hN hT);have BX:O (Bx d W (W2.alloc (.cells #[.slice ad n cp,.slice adt ns.length cpt] 26)) q2 (.slice ad n cp) (.slice adt ns.length cpt) W2.heap.size W.heap.size):=by
  have hs:=hg.size;have hsz:(W.alloc (.cells #[.slice none 0 0,.slice none 0 0] 26)).heap.size=W.heap.size+1:=yq;have hb3:Below W2.heap.size W2 (W2.alloc (.cells #[.slice ad n cp,.slice adt ns.length cpt] 26)):=Lb.alloc La _;exact⟨hR.below hb3,((Grew.of_below HB1.o).trans hg).trans (Grew.of_below hb3),(Ld W2 _).1,(hb3.block _ ya).trans ((hg.block _ ⟨ya,ya,by rw[H0.o.2.2];omega⟩).trans HR1.o),ya⟩
 have HQ:=U hq;obtain⟨bp,hbp⟩:∃bp,W2.heap.size=bp:=⟨_,rfl⟩
 rw[hbp]at BX;have HN3:=U (Lc (HN.o.1.grew ((Grew.refl d W2).alloc (.cells #[.slice ad n cp,.slice adt ns.length cpt] 26))) (HE.o.1.grew ((Grew.refl d W2).alloc (.cells #[.slice ad n cp,.slice adt ns.length cpt] 26))));have HTr:=U (Lc HN.o.2 HE.o.2);clear hE hE4 hN hT hR hq hg HP HB1 HR1 HE HN;go_wp2_with fail
 try rw[hbp]
 clear hbp;refine(z52 BX.o.rd ybi 5 yk).mono ?_;rintro e X4 ⟨m5,rfl,hm50,hm51,hr4,hg4,-,-⟩;have B4:=U (BX.o.pick hr4 hg4 H0.o.2.2);have N4:=U (Lc (HN3.o.1.grew hg4) (HN3.o.2.grew hg4));clear hr4 hg4 BX HN3;by_cases h5:m5=0
 .subst h5;obtain⟨c0,c1⟩:=fcl2 B4.o.box;have HSq:=U (HSp.o d X4 (q2+1) ad n cp (.slice adt ns.length cpt) es ns H0.o.2.2 B4.o.rd ybi N4.o.2 HTr.o.2 N4.o.1 HTr.o.1);go_wp2_with fail
  refine HSq.o.mono ?_;rintro e X5 ⟨ad5,n5,cp5,v5,ns5,q5,rfl,hN5,hl5,hR5,hq5,hg5,es5,hE5,he5⟩;obtain⟨adv,cpv,rfl⟩:=hN5.is;have B5:=U (B4.o.pick hR5 hg5 H0.o.2.2);have HQ2:=U (Lc hq5 hl5);have B5p:=U (B5.o.put H0.o.1 (.slice ad5 n5 cp5) (.slice adv ns5.length cpv));have N5p:=U (bx_not B5.o ⟨_,_,_,rfl⟩ hN5 (X':= (X5.setCell ⟨bp,0,none⟩ (.slice ad5 n5 cp5)).setCell ⟨bp,1,none⟩ (.slice adv ns5.length cpv)) (fun k h1 _=>(Lg _ ⟨bp,1,none⟩ _ k h1).trans (Lg X5 ⟨bp,0,none⟩ _ k h1)) qo)
  have E5p:=U (Lc (bx_notE B5.o ⟨_,_,_,rfl⟩ hE5 (X':= (X5.setCell ⟨bp,0,none⟩ (.slice ad5 n5 cp5)).setCell ⟨bp,1,none⟩ (.slice adv ns5.length cpv)) (fun k h1 _=>(Lg _ ⟨bp,1,none⟩ _ k h1).trans (Lg X5 ⟨bp,0,none⟩ _ k h1)) qo) he5);obtain⟨d0,d1⟩:=fcl2 B5.o.box;obtain⟨e0,e1⟩:=ffz2 B5.o.box;obtain⟨Y5,hY5⟩:∃Y5,(X5.setCell ⟨bp,0,none⟩ (.slice ad5 n5 cp5)).setCell ⟨bp,1,none⟩ (.slice adv ns5.length cpv)=Y5:=⟨_,rfl⟩
  rw[hY5]at B5p N5p E5p;have HY5:=U hY5;clear hN5 hl5 hR5 hq5 hg5 hY5 hE5 he5 c0 c1 HSq;go_upto_region 4 with fail
  rw[HY5.o];clear HY5 d0 d1 e0 e1;go_wp2_with fail
  refine(z52 B5p.o.rd ybj 60 yk).mono ?_;rintro e X6 ⟨m6,rfl,hm60,hm61,hr6,hg6,-,-⟩;have B6:=U (B5p.o.pick hr6 hg6 H0.o.2.2);have N6:=U (N5p.o.grew hg6);have E6:=U (Lc (E5p.o.1.grew hg6) E5p.o.2);clear hr6 hg6;obtain⟨b0,b1⟩:=fcl2 B6.o.box;obtain⟨r0,r1⟩:=fcl2 B6.o.res;obtain⟨f0,f1⟩:=ffz2 B6.o.res;by_cases h60:m6=0
  .subst h60;go_wp2_with fail
   refine(z52 B6.o.rd ybj 4 yk).mono ?_;rintro e X7 ⟨m7,rfl,hm70,hm71,hr7,hg7,-,-⟩;have B7:=U (B6.o.pick hr7 hg7 H0.o.2.2);have E7:=U (Lc (E6.o.1.grew hg7) E6.o.2);clear hr7 hg7 b0 b1 r0 r1 f0 f1;obtain⟨N,hN⟩:∃N:Nat,38+m7=(N:Int):=⟨(38+m7).toNat,ya⟩
   have hN1:(N:Int)<=41:=ya;have hN0:(38:Int)<=(N:Int):=ya;go_wp2_with fail
   try rw[hN]
   clear hN hm70 hm71;go_loopw [4,6] (fun t i wr=> ∃(i':Nat) (acc:List Nd),i=int i64 i'/\1<=i'/\i'<=N/\O (acc.length=i'-1)/\O (wr.ownsRow X7.heap.size 68 6 t acc.length (rowZ Nd.cell 6 acc)/\Below X7.heap.size X7 wr/\ ∀n∈acc,Brief n.a/\Brief n.b/\Brief n.c)) (fun _ i _=>N-(intOf i).toNat)
   case atStart=>exact⟨1,[],rfl,La,ya,rfl,World.ownsRow_nil _ _ _ _,Lb,fun n hn=>by simp at hn⟩
   case round=>
    obtain⟨i',acc,rfl,hi1,hle,HA,HO⟩:=hrel;refine zb96 ?_;intro HS i0 hinf hz0 hz1 hz2;by_cases hi:(i':Int)<(N:Int)
    .have hstep:N-(intOf (int i64 ((i'+ 1:Nat):Int))).toNat<N-(intOf (int i64 (i':Int))).toNat:=z55 hi;go_wp2_with (at_builtin;refine z34 rfl _ _ 24 rfl _ _ rfl rfl (fun ty=>app_row (d:=d) nd_one underlying24 hinf hz0 hz1 hz2 rfl yk yk (HO.o.1.alloc _) (nd_lit wr ⟨21,0,ByteArray.empty,ByteArray.empty,ByteArray.empty,1⟩ HS.o.1 HS.o.2 ⟨z14,z14,z14⟩).1 ybk gp ty) ?_;intro v5 w5 hv5;have HO5:=U (chain_step HO.o ⟨z14,z14,z14⟩ hv5);clear hv5)
     try rw[z30 ya]
     exact⟨⟨i'+ 1,acc++ [⟨21,0,ByteArray.empty,ByteArray.empty,ByteArray.empty,1⟩],rfl,ya,ya,ybl,HO5⟩,hstep⟩
    .have hbB:=z13 B7.o.box;have HbB:=U hbB;clear hbB
     go_upto_region 12 with (at_builtin;refine z34 rfl _ _ 24 rfl _ _ rfl rfl (fun ty=>app_row (d:=d) nd_one underlying24 hinf hz0 hz1 hz2 rfl yk yk (HO.o.1.alloc _) (nd_lit wr ⟨1,0,ByteArray.empty,ByteArray.empty,ByteArray.empty,0⟩ HS.o.1 HS.o.2 ⟨z14,z14,z14⟩).1 ybk gp ty) ?_;intro v5 w5 hv5;have HO5:=U (chain_step HO.o ⟨z14,z14,z14⟩ hv5);obtain⟨adz,cpz,hvz⟩:=g_is hv5.1;obtain⟨lz,hlz⟩:∃l,(acc++ [(⟨1,0,ByteArray.empty,ByteArray.empty,ByteArray.empty,0⟩:Nd)]).length=l:=⟨_,rfl⟩;rw[hlz]at hvz;subst hvz;have b1:=(HO5.o.2.1.cell (p:=⟨bp,1,none⟩) HbB.o).trans (z11 B7.o.box 1);simp only[List.getElem?_toArray,List.getElem?_cons_succ,List.getElem?_cons_zero]at b1;have fb1:=z15 ((HO5.o.2.1.block bp HbB.o).trans B7.o.box) 1;clear hv5 hlz)
     have BZ:=U (bx_below B7.o HO5.o.2.1);have NZ:O (NodesD d w5 (.slice adz lz cpz) (acc++ [(⟨1,0,ByteArray.empty,ByteArray.empty,ByteArray.empty,0⟩:Nd)])):=⟨lies_owns (f:=Nd.cell) yk HO5.o.1 (z13 B7.o.rd.blk) ybm,HO5.o.2.2⟩
     have LS:=U (last_store BZ.o H0.o.1 ⟨_,_,_,rfl⟩ NZ.o 1 (.slice adz lz cpz) (.slice ad5 n5 cp5) (.slice adz lz cpz));have LE:=U (Lc (bx_notE BZ.o ⟨_,_,_,rfl⟩ (E7.o.1.grew (Grew.of_below HO5.o.2.1)) (three_else (j:=1) (u:=.slice adz lz cpz) (u0:=.slice ad5 n5 cp5) (u1:=.slice adz lz cpz)).1 (three_else (bp:=bp)).2) E7.o.2);have hx9:=z68 (i:=1) (v:=.slice adz lz cpz) BZ.o.box;have hr9:=(Lg w5 ⟨bp,1,none⟩ (.slice adz lz cpz) W.heap.size ybn).trans BZ.o.res;have HLc:O ((acc++ [(⟨1,0,ByteArray.empty,ByteArray.empty,ByteArray.empty,0⟩:Nd)]).length<=1000):=gq
     generalize w5.setCell ⟨bp,1,none⟩ (.slice adz lz cpz)=Y9 at*;obtain⟨x0,x1⟩:=fcl2 hx9;obtain⟨y0,y1⟩:=fcl2 hr9;obtain⟨z0,z1⟩:=ffz2 hr9;clear hx9 hr9;go_wp2_with fail
     refine bodyPost_ret (v:=.agg #[.slice ad5 n5 cp5,.slice adz lz cpz]) ?_ rfl ?_
     .simp[results,results14,go_sem,y0,y1]
     .exact⟨_,_,_,_,_,_,rfl,LS.o.1,HLc.o,LS.o.2.1,ybo,LS.o.2.2,_,LE.o.1,LE.o.2⟩
  .have z60:(m6==0)=false:=by simp[h60]
   have LT:=U (B6.o.told H0.o.1 ⟨_,_,_,rfl⟩ N6.o (.slice ad5 n5 cp5) (.slice adv ns5.length cpv));have LE:=U (Lc (bx_notE B6.o ⟨_,_,_,rfl⟩ E6.o.1 (two_else (u0:=.slice ad5 n5 cp5) (u1:=.slice adv ns5.length cpv)).1 (two_else (bp:=bp)).2) E6.o.2);go_wp2_with fail
   refine bodyPost_ret (v:=.agg #[.slice ad5 n5 cp5,.slice adv ns5.length cpv]) ?_ rfl ?_
   .simp[results,results14,go_sem,r0,r1]
   .exact⟨_,_,_,_,_,_,rfl,LT.o.1,HQ2.o.2,LT.o.2.1,ybo,LT.o.2.2,_,LE.o.1,LE.o.2⟩
 .have z5:(m5==0)=false:=by simp[h5]
  go_wp2_with fail
  refine(z52 B4.o.rd ybi 60 yk).mono ?_;rintro e X6 ⟨m6,rfl,hm60,hm61,hr6,hg6,-,-⟩;have B6:=U (B4.o.pick hr6 hg6 H0.o.2.2);have N6:=U (N4.o.1.grew hg6);have E6:=U (Lc (N4.o.2.grew hg6) (show es.length<=5 by have:=HTr.o.2;omega));clear hr6 hg6;obtain⟨b0,b1⟩:=fcl2 B6.o.box;obtain⟨r0,r1⟩:=fcl2 B6.o.res;obtain⟨f0,f1⟩:=ffz2 B6.o.res;by_cases h60:m6=0
  .subst h60;go_wp2_with fail
   refine(z52 B6.o.rd ybi 4 yk).mono ?_;rintro e X7 ⟨m7,rfl,hm70,hm71,hr7,hg7,-,-⟩;have B7:=U (B6.o.pick hr7 hg7 H0.o.2.2);have E7:=U (Lc (E6.o.1.grew hg7) E6.o.2);clear hr7 hg7 b0 b1 r0 r1 f0 f1;obtain⟨N,hN⟩:∃N:Nat,38+m7=(N:Int):=⟨(38+m7).toNat,ya⟩
   have hN1:(N:Int)<=41:=ya;have hN0:(38:Int)<=(N:Int):=ya;go_wp2_with fail
   try rw[hN]
   clear hN hm70 hm71;go_loopw [4,6] (fun t i wr=> ∃(i':Nat) (acc:List Nd),i=int i64 i'/\1<=i'/\i'<=N/\O (acc.length=i'-1)/\O (wr.ownsRow X7.heap.size 68 6 t acc.length (rowZ Nd.cell 6 acc)/\Below X7.heap.size X7 wr/\ ∀n∈acc,Brief n.a/\Brief n.b/\Brief n.c)) (fun _ i _=>N-(intOf i).toNat)
   case atStart=>exact⟨1,[],rfl,La,ya,rfl,World.ownsRow_nil _ _ _ _,Lb,fun n hn=>by simp at hn⟩
   case round=>
    obtain⟨i',acc,rfl,hi1,hle,HA,HO⟩:=hrel;refine zb96 ?_;intro HS i0 hinf hz0 hz1 hz2;by_cases hi:(i':Int)<(N:Int)
    .have hstep:N-(intOf (int i64 ((i'+ 1:Nat):Int))).toNat<N-(intOf (int i64 (i':Int))).toNat:=z55 hi;go_wp2_with (at_builtin;refine z34 rfl _ _ 24 rfl _ _ rfl rfl (fun ty=>app_row (d:=d) nd_one underlying24 hinf hz0 hz1 hz2 rfl yk yk (HO.o.1.alloc _) (nd_lit wr ⟨21,0,ByteArray.empty,ByteArray.empty,ByteArray.empty,1⟩ HS.o.1 HS.o.2 ⟨z14,z14,z14⟩).1 ybk gp ty) ?_;intro v5 w5 hv5;have HO5:=U (chain_step HO.o ⟨z14,z14,z14⟩ hv5);clear hv5)
     try rw[z30 ya]
     exact⟨⟨i'+ 1,acc++ [⟨21,0,ByteArray.empty,ByteArray.empty,ByteArray.empty,1⟩],rfl,ya,ya,ybl,HO5⟩,hstep⟩
    .have hbB:=z13 B7.o.box;have HbB:=U hbB;clear hbB
     go_upto_region 12 with (at_builtin;refine z34 rfl _ _ 24 rfl _ _ rfl rfl (fun ty=>app_row (d:=d) nd_one underlying24 hinf hz0 hz1 hz2 rfl yk yk (HO.o.1.alloc _) (nd_lit wr ⟨1,0,ByteArray.empty,ByteArray.empty,ByteArray.empty,0⟩ HS.o.1 HS.o.2 ⟨z14,z14,z14⟩).1 ybk gp ty) ?_;intro v5 w5 hv5;have HO5:=U (chain_step HO.o ⟨z14,z14,z14⟩ hv5);obtain⟨adz,cpz,hvz⟩:=g_is hv5.1;obtain⟨lz,hlz⟩:∃l,(acc++ [(⟨1,0,ByteArray.empty,ByteArray.empty,ByteArray.empty,0⟩:Nd)]).length=l:=⟨_,rfl⟩;rw[hlz]at hvz;subst hvz;have b1:=(HO5.o.2.1.cell (p:=⟨bp,1,none⟩) HbB.o).trans (z11 B7.o.box 1);simp only[List.getElem?_toArray,List.getElem?_cons_succ,List.getElem?_cons_zero]at b1;have fb1:=z15 ((HO5.o.2.1.block bp HbB.o).trans B7.o.box) 1;clear hv5 hlz)
     have BZ:=U (bx_below B7.o HO5.o.2.1);have NZ:O (NodesD d w5 (.slice adz lz cpz) (acc++ [(⟨1,0,ByteArray.empty,ByteArray.empty,ByteArray.empty,0⟩:Nd)])):=⟨lies_owns (f:=Nd.cell) yk HO5.o.1 (z13 B7.o.rd.blk) ybm,HO5.o.2.2⟩
     have LS:=U (last_store BZ.o H0.o.1 ⟨_,_,_,rfl⟩ NZ.o 1 (.slice adz lz cpz) (.slice ad n cp) (.slice adz lz cpz));have LE:=U (Lc (bx_notE BZ.o ⟨_,_,_,rfl⟩ (E7.o.1.grew (Grew.of_below HO5.o.2.1)) (three_else (j:=1) (u:=.slice adz lz cpz) (u0:=.slice ad n cp) (u1:=.slice adz lz cpz)).1 (three_else (bp:=bp)).2) E7.o.2);have hx9:=z68 (i:=1) (v:=.slice adz lz cpz) BZ.o.box;have hr9:=(Lg w5 ⟨bp,1,none⟩ (.slice adz lz cpz) W.heap.size ybn).trans BZ.o.res;have HLc:O ((acc++ [(⟨1,0,ByteArray.empty,ByteArray.empty,ByteArray.empty,0⟩:Nd)]).length<=1000):=gq
     generalize w5.setCell ⟨bp,1,none⟩ (.slice adz lz cpz)=Y9 at*;obtain⟨x0,x1⟩:=fcl2 hx9;obtain⟨y0,y1⟩:=fcl2 hr9;obtain⟨z0,z1⟩:=ffz2 hr9;clear hx9 hr9;go_wp2_with fail
     refine bodyPost_ret (v:=.agg #[.slice ad n cp,.slice adz lz cpz]) ?_ rfl ?_
     .simp[results,results14,go_sem,y0,y1]
     .exact⟨_,_,_,_,_,_,rfl,LS.o.1,HLc.o,LS.o.2.1,ybo,LS.o.2.2,_,LE.o.1,LE.o.2⟩
  .have z60:(m6==0)=false:=by simp[h60]
   have LT:=U (B6.o.told H0.o.1 ⟨_,_,_,rfl⟩ N6.o (.slice ad n cp) (.slice adt ns.length cpt));have LE:=U (Lc (bx_notE B6.o ⟨_,_,_,rfl⟩ E6.o.1 (two_else (u0:=.slice ad n cp) (u1:=.slice adt ns.length cpt)).1 (two_else (bp:=bp)).2) E6.o.2);go_wp2_with fail
   refine bodyPost_ret (v:=.agg #[.slice ad n cp,.slice adt ns.length cpt]) ?_ rfl ?_
   .simp[results,results14,go_sem,r0,r1]
   .exact⟨_,_,_,_,_,_,rfl,LT.o.1,by obtain⟨_,_,_,_,_,h⟩:=HTr.o.1;omega,LT.o.2.1,ybo,LT.o.2.2,_,LE.o.1,LE.o.2⟩
end
end Go.Proofs.YtbbffkiobmbkfaaGreatDoor
