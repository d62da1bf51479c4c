import Derived.Test.YtfbojelpdccjaaaGreatDoorPkT18
open Go.Proofs.Tryz
set_option maxHeartbeats 8000000
set_option maxRecDepth 100000
namespace Go.Proofs.YtfbojelpdccjaaaGreatDoor
open Go.RowKit Go.Deep
variable {d:Dr}{es:List Ef}{ms ns:List Nd}{L bp cp ct n p0 q rx:Nat}{ad at_:Option Addr}{u0 u1 v v1 ve vt:Value}{W X X':World}
section
open Go.RowKit Go.Deep
structure Sp (d:Dr) (W X:World) (q:Nat) (ve v1:Value) (bp rx:Nat) (vt:Value) (ns:List Nd):Prop where
 rd:Rdr d X q
 gr:Grew d W X
 box:X.heap[bp]?=some (.cells #[ve,v1] 26)
 res:X.heap[rx]?=some (.cells #[.slice none 0 0,.slice none 0 0] 26)
 lo:d.B<W.heap.size/\W.heap.size<=bp/\W.heap.size<=rx/\bp≠rx
 row:X.ownsRow W.heap.size 60 6 vt ns.length (rowZ Nd.cell 6 ns)
 sml:∀n∈ns,Brief n.a/\Brief n.b/\Brief n.c
 any:1<=ns.length/\ns.length<=300
theorem Sp.pick {q':Nat}(h:Sp d W X q ve v1 bp rx vt ns) (hr:Rdr d X' q') (hg:Grew d X X') (ho:∀k,k≠d.B->X'.heap[k]?=X.heap[k]?):Sp d W X' q' ve v1 bp rx vt ns:=
 ⟨hr,h.gr.trans hg,(ho bp wz).trans h.box,(ho rx wz).trans h.res,h.lo,g_same h.row (fun g hk=>ho g (by have:=(h.row.lt g hk).1;have:=h.lo;omega)),h.sml,h.any⟩
theorem Sp.below (h:Sp d W X q ve v1 bp rx vt ns) (hb:Below X.heap.size X X'):Sp d W X' q ve v1 bp rx vt ns:=
 ⟨h.rd.below hb,h.gr.trans (Grew.of_below hb),(hb.block _ (z12 h.box)).trans h.box,(hb.block _ (z12 h.res)).trans h.res,h.lo,g_same h.row (fun g hk=>hb.block g (h.row.lt g hk).2),h.sml,h.any⟩
theorem Sp.other {nb:Nat}(h:Sp d W X q ve v1 bp rx vt ns) (ho:∀k,k≠nb->X'.heap[k]?=X.heap[k]?) (hs:X'.heap.size=X.heap.size) (hos:X'.os=X.os/\X'.tape=X.tape/\X'.output=X.output) (h1:W.heap.size<=nb) (h2:nb≠bp) (h3:nb≠rx) (h4:vt.ownBlock≠some nb) (hby:∀b off,d.a0=some ⟨b,off,none⟩->0<d.len->b≠nb):Sp d W X' q ve v1 bp rx vt ns:=by
 have hlo:=h.lo;refine⟨⟨(ho _ yf).trans h.rd.blk,fun hl=>?_⟩,⟨hos.1.trans h.gr.os,hos.2.1.trans h.gr.tape,hos.2.2.trans h.gr.output,ka,fun k hk=>(ho k wm).trans (h.gr.block k hk)⟩,(ho bp (Ne.symm h2)).trans h.box,(ho rx (Ne.symm h3)).trans h.res,hlo,g_same h.row (fun g hk=>ho g (fun e=>h4 (by rw[<-e];exact hk))),h.sml,h.any⟩;obtain⟨b,off,ea,hq,hz⟩:=h.rd.bytes hl;refine⟨b,off,ea,⟨ze,hq.2⟩,fun i hi=>?_⟩;obtain⟨z,hz,h5⟩:=hz i hi;exact⟨z,(Lj (a:=⟨b,off+i,none⟩) (ho b (hby b off ea hl))).trans hz,h5⟩
theorem bytes_low {p:Nat}(h:Rdr d W p):∀b off,d.a0=some ⟨b,off,none⟩->0<d.len->b<W.heap.size:=fun b off ea hl=>by
 obtain⟨b',off',ea',hq,-⟩:=h.bytes hl;rw[ea]at ea'
 cases ea';exact hq.1
structure Bx (d:Dr) (W X:World) (q:Nat) (ve v1:Value) (bp rx:Nat):Prop where
 rd:Rdr d X q
 gr:Grew d W X
 box:X.heap[bp]?=some (.cells #[ve,v1] 26)
 res:X.heap[rx]?=some (.cells #[.slice none 0 0,.slice none 0 0] 26)
 lo:d.B<W.heap.size/\W.heap.size<=bp/\W.heap.size<=rx/\bp≠rx
theorem Sp.bx (h:Sp d W X q ve v1 bp rx vt ns):Bx d W X q ve v1 bp rx:=⟨h.rd,h.gr,h.box,h.res,h.lo⟩
theorem Bx.other {nb:Nat}(h:Bx d W X q ve v1 bp rx) (h0:Rdr d W p0) (ho:∀k,k≠nb->X'.heap[k]?=X.heap[k]?) (hs:X'.heap.size=X.heap.size) (hos:X'.os=X.os/\X'.tape=X.tape/\X'.output=X.output) (h1:W.heap.size<=nb) (h2:nb≠bp) (h3:nb≠rx):Bx d W X' q ve v1 bp rx:=by
 have hlo:=h.lo;refine⟨⟨(ho _ yf).trans h.rd.blk,fun hl=>?_⟩,⟨hos.1.trans h.gr.os,hos.2.1.trans h.gr.tape,hos.2.2.trans h.gr.output,ka,fun k hk=>(ho k wm).trans (h.gr.block k hk)⟩,(ho bp (Ne.symm h2)).trans h.box,(ho rx (Ne.symm h3)).trans h.res,hlo⟩;obtain⟨b,off,ea,hq,hz⟩:=h.rd.bytes hl;refine zb78 ?_;intro hbl i hi z hz h5;exact⟨z,(Lj (a:=⟨b,off+i,none⟩) (ho b yf)).trans hz,h5⟩
theorem Sp.set {g cap:Nat}(h:Sp d W X q ve v1 bp rx (.slice (some ⟨g,0,none⟩) L cap) ns) (h0:Rdr d W p0) (nb j:Nat) (u:Value) (h1:W.heap.size<=nb) (h2:nb≠bp) (h3:nb≠rx) (h4:nb≠g):Sp d W (X.setCell ⟨nb,j,none⟩ u) q ve v1 bp rx (.slice (some ⟨g,0,none⟩) L cap) ns:=
 h.other (nb:=nb) (fun k hk=>Lg X ⟨nb,j,none⟩ u k hk) vh ⟨rfl,rfl,rfl⟩ h1 h2 h3 (by simp[Value.ownBlock];exact Ne.symm h4) (fun b off ea hl e=>by have:=bytes_low h0 b off ea hl;omega)
theorem last_store (h:Bx d W X q ve v1 bp rx) (h0:Rdr d W p0) (hve:∃a n c,ve=.slice a n c) (hn:NodesD d X v ms) (j:Nat) (u u0 u1:Value) :
 NodesD d (((X.setCell ⟨bp,j,none⟩ u).setCell ⟨rx,0,none⟩ u0).setCell ⟨rx,1,none⟩ u1) v ms/\Rdr d (((X.setCell ⟨bp,j,none⟩ u).setCell ⟨rx,0,none⟩ u0).setCell ⟨rx,1,none⟩ u1) q/\Grew d W (((X.setCell ⟨bp,j,none⟩ u).setCell ⟨rx,0,none⟩ u0).setCell ⟨rx,1,none⟩ u1):=by
 have ho:∀k,k≠bp->k≠rx->(((X.setCell ⟨bp,j,none⟩ u).setCell ⟨rx,0,none⟩ u0).setCell ⟨rx,1,none⟩ u1).heap[k]?=X.heap[k]? :=fun k h1 h2=>((Lg _ ⟨rx,1,none⟩ _ k h2).trans (Lg _ ⟨rx,0,none⟩ _ k h2)).trans (Lg X ⟨bp,j,none⟩ _ k h1)
 have hs:(((X.setCell ⟨bp,j,none⟩ u).setCell ⟨rx,0,none⟩ u0).setCell ⟨rx,1,none⟩ u1).heap.size=X.heap.size:=vh;have hlo:=h.lo;obtain⟨a,n,c,rfl⟩:=hve;refine⟨⟨?_,hn.2⟩,⟨(ho _ yf yf).trans h.rd.blk,fun hl=>?_⟩,⟨h.gr.os,h.gr.tape,h.gr.output,ka,fun k hk=>(ho k wm wm).trans (h.gr.block k hk)⟩⟩
 .rcases hn.1 with hx|⟨b,off,cap,h1,h2,rfl,h4,h5⟩
  .exact Or.inl hx
  ·refine Or.inr ⟨b,0,cap,h1,h2,rfl,⟨wl,h4.2⟩,fun i hi=>?_⟩;have e1:=h5 0 yf;have hb1:b≠bp:=fun e=>by
    subst e;rw[Nat.zero_add,z8 h.box 0]at e1;simp at e1
    cases e1
   have hb2:b≠rx:=fun e=>by
    subst e;rw[Nat.zero_add,z8 h.res 0]at e1;simp at e1
    cases e1
   exact(Lj (a:=⟨b,0+i,none⟩) (ho b hb1 hb2)).trans (h5 i hi)
 .obtain⟨b,off,ea,hq,hz⟩:=h.rd.bytes hl;refine zb78 ?_;intro hbl i hi z hz h5;exact⟨z,(Lj (a:=⟨b,off+i,none⟩) (ho b yf yf)).trans hz,h5⟩
def six (X:World) (g k:Nat) (m:Nd):World:=(((((X.setCell ⟨g,k*6,none⟩ (.int .i64 m.kind)).setCell ⟨g,k*6+1,none⟩ (.int .i64 m.num)).setCell ⟨g,k*6+2,none⟩ (.string m.a)).setCell ⟨g,k*6+3,none⟩ (.string m.b)).setCell ⟨g,k*6+4,none⟩ (.string m.c)).setCell ⟨g,k*6+5,none⟩ (.int .i64 m.kids)
theorem six_other (X:World) (g k:Nat) (m:Nd):(∀j,j≠g->(six X g k m).heap[j]?=X.heap[j]?)/\(six X g k m).heap.size=X.heap.size:=by
 refine⟨fun j hj=>?_,by simp[six,World.setCell]⟩;unfold six;rw[Lg _ ⟨g,k*6+5,none⟩ _ j hj,Lg _ ⟨g,k*6+4,none⟩ _ j hj,Lg _ ⟨g,k*6+3,none⟩ _ j hj,Lg _ ⟨g,k*6+2,none⟩ _ j hj,Lg _ ⟨g,k*6+1,none⟩ _ j hj,Lg _ ⟨g,k*6,none⟩ _ j hj]
theorem six_os (X:World) (g k:Nat) (m:Nd):(six X g k m).os=X.os/\(six X g k m).tape=X.tape/\(six X g k m).output=X.output:=by
 simp[six,World.setCell]
theorem six_row {B g cap k:Nat}(h:X.ownsRow B 60 6 (.slice (some ⟨g,0,none⟩) ns.length cap) ns.length (rowZ Nd.cell 6 ns)) (hk:k<ns.length) (m:Nd) (d:Dr) (hf:d.free (six X g k m) g) (hc:ns.length<=cap) (hb:∀n∈ns,Brief n.a/\Brief n.b/\Brief n.c) (hm:Brief m.a/\Brief m.b/\Brief m.c) :
 NodesD d (six X g k m) (.slice (some ⟨g,0,none⟩) ns.length cap) (ns.set k m):=by
 refine⟨?_,fun n hn=>?_⟩
 .rw[List.length_set];refine Or.inr ⟨g,0,cap,rfl,hc,rfl,hf,fun i hi=>?_⟩;have hci:=h.cellAt i hi;rw[z61 Nd.cell 6 yh ns i hi]at hci;obtain⟨-,⟨h1,-⟩|⟨g',cap',cur,e,-,hg,-,-,hsz,-⟩⟩:=h
  .cases h1
  cases e;have hrw:Rw X g 60 cur.size (fun j=>cur.getD j undef) 0:=⟨cur,(0,0),hg,rfl,fun j hj=>by simp[hj],Or.inl rfl⟩
  have hcur:cur.getD i undef=(ns.getD (i/6) default).cell (i % 6):=by
   rw[z8 hg i]at hci;simp[Array.getD_eq_getD_getElem?,hci]
  have hlt:i<cur.size:=by
   rw[z8 hg i]at hci;exact(Array.getElem?_eq_some_iff.1 hci).1
  have hx:=(((((hrw.set (k*6) (.int .i64 m.kind)).set (k*6+1) (.int .i64 m.num)).set (k*6+2) (.string m.a)).set (k*6+3) (.string m.b)).set (k*6+4) (.string m.c)).set (k*6+5) (.int .i64 m.kids);have hy:=hx.cell hlt;rw[Nat.zero_add];refine hy.trans (congrArg some ?_);show _=((ns.set k m).getD (i/6) default).cell (i % 6);by_cases hik:i/6=k
  .have hm6:i=k*6+i % 6:=by omega
   have hgd:(ns.set k m).getD (i/6) default=m:=by rw[hik];simp[List.getD,hk]
   rw[hgd];have hr:i % 6=0\/i % 6=1\/i % 6=2\/i % 6=3\/i % 6=4\/i % 6=5:=yf;rcases hr with hr|hr|hr|hr|hr|hr
   ·(iterate 5 rw[if_neg yf]);rw[if_pos yf,hr];rfl
   ·(iterate 4 rw[if_neg yf]);rw[if_pos yf,hr];rfl
   .rw[if_neg yf,if_neg yf,if_neg yf,if_pos yf,hr];rfl
   .rw[if_neg yf,if_neg yf,if_pos yf,hr];rfl
   .rw[if_neg yf,if_pos yf,hr];rfl
   .rw[if_pos yf,hr];rfl
  ·(iterate 6 rw[if_neg yf]);rw[hcur];have hgd:(ns.set k m).getD (i/6) default=ns.getD (i/6) default:=by simp[List.getD,List.getElem?_set_ne (Ne.symm hik)]
   rw[hgd]
 .rcases List.mem_or_eq_of_mem_set hn with h1|h1
  .exact hb n h1
  .rw[h1];exact hm
def SpoilPostE (d:Dr) (W:World) (p:Nat) (e:Ending) (W':World):Prop:=
 ∃ad n cp v ns p',e=.returned (.agg #[.slice ad n cp,v])/\NodesD d W' v ns/\ns.length<=1000/\Rdr d W' p'/\p'<=p+10/\Grew d W W'/\ ∃es,EffsD d W' (.slice ad n cp) es/\es.length<=5
theorem effs_cut (h:EffsD d W (.slice ad n cp) es/\es.length<=4) (g:Grew d W X) {k:Nat}(hk:k<=n):∃es',EffsD d X (.slice ad k cp) es'/\es'.length<=5:=by
 obtain⟨h,h4⟩:=h;have h1:=h.grew g;rcases h1.1 with ⟨e,-⟩|⟨b,off,cap,e,hc,-,hq,h5⟩
 .simp only[Value.slice.injEq]at e;obtain⟨rfl,rfl,rfl⟩:=e;have:k=0:=yf;subst this;exact⟨[],⟨Or.inl ⟨rfl,rfl⟩,fun x hx=>by simp at hx⟩,yn⟩
 ·simp only[Value.slice.injEq]at e;obtain⟨rfl,rfl,rfl⟩:=e;refine⟨es.take k,⟨?_,fun x hx=>h1.2 x (List.mem_of_mem_take hx)⟩,wk⟩;have hlk:(es.take k).length=k:=wk;rw[hlk];have hof:off=0:=by
   rcases h1.1 with ⟨e,-⟩|⟨_,_,_,e,-,hz,-⟩
   .cases e
   .cases e;exact hz
  refine Or.inr ⟨b,off,cp,rfl,yf,hof,hq,fun i hi=>?_⟩;have hi':i/3<k:=yf;rw[h5 i yf];have e:(es.take k).getD (i/3) default=es.getD (i/3) default:=by simp[List.getD,List.getElem?_take_of_lt hi']
  show _=some (((es.take k).getD (i/3) default).cell (i % 3));rw[e]
theorem bx_notE {ms:List Ef}(h:Bx d W X q ve v1 bp rx) (hve:∃a n c,ve=.slice a n c) (hn:EffsD d X v ms) (ho:∀k,k≠bp->k≠rx->X'.heap[k]?=X.heap[k]?) (hs:X'.heap.size=X.heap.size):EffsD d X' v ms:=by
 obtain⟨a,n,c,rfl⟩:=hve;refine⟨?_,hn.2⟩;rcases hn.1 with hx|⟨b,off,cap,h1,h2,rfl,h4,h5⟩
 .exact Or.inl hx
 ·refine Or.inr ⟨b,0,cap,h1,h2,rfl,⟨wl,h4.2⟩,fun i hi=>?_⟩;have e1:=h5 0 yf;have hb1:b≠bp:=fun e=>by
   subst e;rw[Nat.zero_add,z8 h.box 0]at e1;simp at e1
   cases e1
  have hb2:b≠rx:=fun e=>by
   subst e;rw[Nat.zero_add,z8 h.res 0]at e1;simp at e1
   cases e1
  exact(Lj (a:=⟨b,0+i,none⟩) (ho b hb1 hb2)).trans (h5 i hi)
theorem three_else {j:Nat}{u:Value}:(∀k,k≠bp->k≠rx->(((X.setCell ⟨bp,j,none⟩ u).setCell ⟨rx,0,none⟩ u0).setCell ⟨rx,1,none⟩ u1).heap[k]?=X.heap[k]?)/\(((X.setCell ⟨bp,j,none⟩ u).setCell ⟨rx,0,none⟩ u0).setCell ⟨rx,1,none⟩ u1).heap.size=X.heap.size:=
 ⟨fun k h1 h2=>((Lg _ ⟨rx,1,none⟩ _ k h2).trans (Lg _ ⟨rx,0,none⟩ _ k h2)).trans (Lg X ⟨bp,j,none⟩ _ k h1),vh⟩
theorem effs_new {u:Value}{j:Nat}{y:ByteArray}{a b:Int}{t:TypeId}(h:Bx d W X q ve v1 bp rx) (hve:∃a n c,ve=.slice a n c) (hG:d.G=d.B) (he:(∀e∈es,Brief e.name)/\es.length<=4) (hy:Brief y) (ho:X.ownsRow W.heap.size t 3 v ((([]:List Ef)++es)++ [(⟨y,a,b⟩:Ef)]).length (rowZ Ef.cell 3 ((([]:List Ef)++es)++ [(⟨y,a,b⟩:Ef)]))):∃es',EffsD d (((X.setCell ⟨bp,j,none⟩ u).setCell ⟨rx,0,none⟩ u0).setCell ⟨rx,1,none⟩ u1) v es'/\es'.length<=5:=by
 refine⟨(([]:List Ef)++es)++ [(⟨y,a,b⟩:Ef)],bx_notE h hve ⟨lies_owns (f:=Ef.cell) yh ho h.lo.1 (by rw[hG];exact h.lo.1),fun x hx=>?_⟩ three_else.1 three_else.2,yk⟩;rw[List.nil_append,List.mem_append,List.mem_singleton]at hx;rcases hx with hx|rfl
 .exact he.1 x hx
 .exact hy
theorem treeBad (h:(L:Int)<1\/(300:Int)<(L:Int)):Calls prog 23 #[.slice at_ L ct] W fun e W'=> e=.returned (.bool false)/\Below W.heap.size W W':= by
 rcases h with h|h
 .go_enter func23,ntmps23
  go_wp2_with fail
  go_ret;exact⟨rfl,Lb⟩
 .have h1:¬ (L:Int)<1:=by omega
  go_enter func23,ntmps23
  go_wp2_with fail
  go_ret;exact⟨rfl,Lb⟩
theorem progBad {ae:Option Addr}{le ce:Nat}(hle:(le:Int)<=8) (h:(L:Int)<1\/(300:Int)<(L:Int)):Calls prog 8 #[.agg #[.slice ae le ce,.slice at_ L ct]] W fun e W'=> e=.returned (.bool false)/\Below W.heap.size W W':= by
 have HT:=J (fun X:World=>treeBad (at_:=at_) (ct:=ct) (W:=X) h);refine zb80 ?_;intro HB1;clear h;go_enter func8,ntmps8
 go_wp2_with fail
 refine(HT.o _).mono ?_;rintro e X ⟨rfl,hb⟩;have HB2:=J (HB1.o.trans (hb.mono HB1.o.size));clear hb HB1;go_wp2_with fail
 go_ret;exact⟨rfl,HB2.o⟩
theorem textBad {ae:Option Addr}{le ce:Nat}(h:Calls prog 8 #[.agg #[.slice ae le ce,.slice at_ L ct]] (W.alloc (.cells #[.slice ae le ce,.slice at_ L ct] 26)) fun e W'=> e=.returned (.bool false)/\Below (W.alloc (.cells #[.slice ae le ce,.slice at_ L ct] 26)).heap.size (W.alloc (.cells #[.slice ae le ce,.slice at_ L ct] 26)) W'):Calls prog 7 #[.agg #[.slice ae le ce,.slice at_ L ct]] W (TextP W []):=by
 have HT:=J h;refine zb80 ?_;intro HB1;clear h;have hA1:=(Ld W (.cells #[.slice ae le ce,.slice at_ L ct] 26)).1;obtain⟨Y,hY⟩:∃Y,W.alloc (.cells #[.slice ae le ce,.slice at_ L ct] 26)=Y:=⟨_,rfl⟩
 rw[hY]at HT HB1 hA1;have HY:=J hY;have HA:=J hA1;obtain⟨e0,e1⟩:=fcl2 HA.o;clear hA1 hY;go_enter func7,ntmps7
 go_upto_region 1 with fail
 rw[HY.o];clear HY;go_wp2_with fail
 refine HT.o.mono ?_;rintro e X1 ⟨rfl,hb2⟩;have HB2:=J (HB1.o.trans (hb2.mono HB1.o.size));clear hb2;go_wp2_with fail
 go_ret;exact⟨rfl,HB2.o⟩
theorem effW_ofD (h:EffsD d W (.slice ad n cp) es):n=es.length/\EffW W ad cp es:=by
 rcases h.1 with ⟨h1,h2⟩|⟨b,off,cap,h1,h2,rfl,h4,h5⟩
 .cases h1;exact⟨h2.symm,Or.inl ⟨rfl,Lk h2,rfl⟩⟩
 .cases h1;refine⟨rfl,Or.inr ⟨b,rfl,h4.1,fun k hk c hc=>?_,h2⟩⟩;rw[Nat.zero_add];have:=h5 (k*3+c) yf;rw[Nat.zero_add]at this;rw[this];exact congrArg some (cell_div es Ef.cell 3 k c hc)
theorem treeN_ofD (h:NodesD d W v ns) (h1:1<=ns.length):∃b cap,v=.slice (some ⟨b,0,none⟩) ns.length cap/\b<W.heap.size/\NodesAt W b 0 ns:=by
 have hsl:=h.slice;rcases h.1 with ⟨h2,h3⟩|⟨b,off,cap,h2,h3,rfl,h4,-⟩
 .omega
 .refine⟨b,cap,h2,h4.1,?_⟩;obtain⟨a,c,e,h5⟩:=hsl;rw[h2]at e
  cases e;rcases h5 with rfl|⟨b',off',e',-,hn⟩
  .simp at h1
  .cases e';exact hn
theorem progT_len {n:Nd}{k:Fo}{T:Bool}(hA:SpecAns ns T) (h:progZ es ns T=true) (h1:ns=n::k.flat) (h2:n.kids=k.count) (h3:k.wf) (he:es.length<=8):(progT es n k).length<=20000:=by
 have hT:=prog_true h;subst hT;have hef:∀i,i<es.length->effOk es i=true:=by
  unfold progZ at h;simp only[Bool.and_eq_true]at h;exact fun i hi=>List.all_eq_true.1 h.2.2.1 i (List.mem_range.2 hi)
 obtain⟨n',k',f1,f2,f3,hl,hst,hex,hne⟩:=right_of hA;obtain⟨rfl,rfl⟩:=tree_inj h1 h2 h3 f1 f2 f3;have hsl:=(bare_len hne 400).1 ⟨n',k',0⟩ 0 (by have:=hst.lt.2.2;omega) hst hex;have hss:=hst.lt.2.2;have hel:=effs_len (fun i hi=>(eff_right (hef i hi)).1) es.length La;unfold effsT at hel;rw[List.take_length]at hel;unfold progT;rw[List.length_append];omega
def TextAnyP (W:World) (e:Ending) (W':World):Prop:= ∃t:ByteArray,e=.returned (.string t)/\t.size<=20000/\Below W.heap.size W W'
theorem text_any (hE:EffsD d W (.slice ad n cp) es) (he:es.length<=5) (hN:NodesD d W v ns):Calls prog 7 #[.agg #[.slice ad n cp,v]] W (TextAnyP W):=by
 obtain⟨rfl,hW⟩:=effW_ofD hE;have hnil:(tx []).size<=20000:=by rw[z32];simp
 by_cases hl:1<=ns.length/\ns.length<=300
 .obtain⟨b,cap,rfl,hb,hNA⟩:=treeN_ofD hN hl.1;obtain⟨T,hA,-⟩:=answers ns;have h:=progText_calls (cn:=cap) hW yf hb hNA hl.2 hA
  cases hP:progZ es ns T with
  | false=>
    refine(h.1 hP).mono ?_;rintro e W' ⟨rfl,hb⟩;exact⟨_,rfl,hnil,hb⟩
  | true=>
    have hT:=prog_true hP;subst hT;obtain⟨m,k,h1,h2,h3,-⟩:=right_of hA;refine(h.2 hP m k h1 h2 h3).mono ?_;rintro e W' ⟨rfl,hb⟩;refine⟨_,rfl,?_,hb⟩;rw[z32];exact progT_len hA hP h1 h2 h3 yf
 .obtain⟨at_,ct,rfl⟩:=hN.is;refine(textBad (progBad yf yf)).mono ?_;rintro e W' ⟨rfl,hb⟩;exact⟨_,rfl,hnil,hb⟩
def SpoilC:Prop:= ∀(d:Dr) (W:World) (p:Nat) (ad:Option Addr) (n cp:Nat) (vt:Value) (es:List Ef) (ns:List Nd),d.G=d.B->Rdr d W p->p<=900000->EffsD d W (.slice ad n cp) es->es.length<=4->NodesD d W vt ns->GTr ns->
 Calls prog 38 #[.pointer (some ⟨d.B,0,none⟩),.agg #[.slice ad n cp,vt]] W (SpoilPostE d W p)
theorem Bx.pick {q':Nat}(h:Bx d W X q ve v1 bp rx) (hr:Rdr d X' q') (hg:Grew d X X') (hG:d.G=d.B):Bx d W X' q' ve v1 bp rx:=
 ⟨hr,h.gr.trans hg,(hg.block bp ⟨z12 h.box,wz,kb⟩).trans h.box,(hg.block rx ⟨z12 h.res,wz,kb⟩).trans h.res,h.lo⟩
theorem bx_not (h:Bx d W X q ve v1 bp rx) (hve:∃a n c,ve=.slice a n c) (hn:NodesD d X v ms) (ho:∀k,k≠bp->k≠rx->X'.heap[k]?=X.heap[k]?) (hs:X'.heap.size=X.heap.size):NodesD d X' v ms:=by
 obtain⟨a,n,c,rfl⟩:=hve;refine⟨?_,hn.2⟩;rcases hn.1 with hx|⟨b,off,cap,h1,h2,rfl,h4,h5⟩
 .exact Or.inl hx
 ·refine Or.inr ⟨b,0,cap,h1,h2,rfl,⟨wl,h4.2⟩,fun i hi=>?_⟩;have e1:=h5 0 yf;have hb1:b≠bp:=fun e=>by
   subst e;rw[Nat.zero_add,z8 h.box 0]at e1;simp at e1
   cases e1
  have hb2:b≠rx:=fun e=>by
   subst e;rw[Nat.zero_add,z8 h.res 0]at e1;simp at e1
   cases e1
  exact(Lj (a:=⟨b,0+i,none⟩) (ho b hb1 hb2)).trans (h5 i hi)
theorem Bx.put (h:Bx d W X q ve v1 bp rx) (h0:Rdr d W p0) (u0 u1:Value):Bx d W ((X.setCell ⟨bp,0,none⟩ u0).setCell ⟨bp,1,none⟩ u1) q u0 u1 bp rx:=by
 have ho:∀k,k≠bp->((X.setCell ⟨bp,0,none⟩ u0).setCell ⟨bp,1,none⟩ u1).heap[k]?=X.heap[k]? :=fun k hk=>(Lg _ ⟨bp,1,none⟩ _ k hk).trans (Lg X ⟨bp,0,none⟩ _ k hk)
 have hs:((X.setCell ⟨bp,0,none⟩ u0).setCell ⟨bp,1,none⟩ u1).heap.size=X.heap.size:=vh;have hlo:=h.lo;refine⟨⟨(ho _ yf).trans h.rd.blk,fun hl=>?_⟩,⟨h.gr.os,h.gr.tape,h.gr.output,ka,fun k hk=>(ho k wm).trans (h.gr.block k hk)⟩,set_heap (set_heap h.box),(ho rx yf).trans h.res,hlo⟩;obtain⟨b,off,ea,hq,hz⟩:=h.rd.bytes hl;refine zb78 ?_;intro hbl i hi z hz h5;exact⟨z,(Lj (a:=⟨b,off+i,none⟩) (ho b yf)).trans hz,h5⟩
theorem Bx.told (h:Bx d W X q ve v1 bp rx) (h0:Rdr d W p0) (hve:∃a n c,ve=.slice a n c) (hn:NodesD d X v ms) (u0 u1:Value) :
 NodesD d ((X.setCell ⟨rx,0,none⟩ u0).setCell ⟨rx,1,none⟩ u1) v ms/\Rdr d ((X.setCell ⟨rx,0,none⟩ u0).setCell ⟨rx,1,none⟩ u1) q/\Grew d W ((X.setCell ⟨rx,0,none⟩ u0).setCell ⟨rx,1,none⟩ u1):=by
 have ho:∀k,k≠rx->((X.setCell ⟨rx,0,none⟩ u0).setCell ⟨rx,1,none⟩ u1).heap[k]?=X.heap[k]? :=fun k hk=>(Lg _ ⟨rx,1,none⟩ _ k hk).trans (Lg X ⟨rx,0,none⟩ _ k hk)
 have hs:((X.setCell ⟨rx,0,none⟩ u0).setCell ⟨rx,1,none⟩ u1).heap.size=X.heap.size:=vh;have hlo:=h.lo;refine⟨bx_not h hve hn (fun k _ h2=>ho k h2) hs,⟨(ho _ yf).trans h.rd.blk,fun hl=>?_⟩,⟨h.gr.os,h.gr.tape,h.gr.output,ka,fun k hk=>(ho k wm).trans (h.gr.block k hk)⟩⟩;obtain⟨b,off,ea,hq,hz⟩:=h.rd.bytes hl;refine zb78 ?_;intro hbl i hi z hz h5;exact⟨z,(Lj (a:=⟨b,off+i,none⟩) (ho b yf)).trans hz,h5⟩
theorem chain_step {X7 wr W':World}{acc:List Nd}{m:Nd}{out v':Value}{o:Obj}(h:wr.ownsRow X7.heap.size 60 6 out acc.length (rowZ Nd.cell 6 acc)/\Below X7.heap.size X7 wr/\ ∀n∈acc,Brief n.a/\Brief n.b/\Brief n.c) (hm:Brief m.a/\Brief m.b/\Brief m.c) (h':W'.ownsRow X7.heap.size 60 6 v' (acc++ [m]).length (rowZ Nd.cell 6 (acc++ [m]))/\(wr.alloc o).grownBy W' out.ownBlock) :
 W'.ownsRow X7.heap.size 60 6 v' (acc++ [m]).length (rowZ Nd.cell 6 (acc++ [m]))/\Below X7.heap.size X7 W'/\ ∀n∈acc++ [m],Brief n.a/\Brief n.b/\Brief n.c:=
 ⟨h'.1,(h.2.1.alloc h.2.1.size o).grown h'.2 (by have:=h.2.1.size;simp;omega) (fun k hk=>(h.1.lt k hk).1),fun n hn=>by
  rw[List.mem_append,List.mem_singleton]at hn;rcases hn with hn|rfl
  .exact h.2.2 n hn
  .exact hm⟩
theorem bx_below (h:Bx d W X q ve v1 bp rx) (hb:Below X.heap.size X X'):Bx d W X' q ve v1 bp rx:=
 ⟨h.rd.below hb,h.gr.trans (Grew.of_below hb),(hb.block _ (z12 h.box)).trans h.box,(hb.block _ (z12 h.res)).trans h.res,h.lo⟩
theorem two_else:(∀k,k≠bp->k≠rx->((X.setCell ⟨rx,0,none⟩ u0).setCell ⟨rx,1,none⟩ u1).heap[k]?=X.heap[k]?)/\((X.setCell ⟨rx,0,none⟩ u0).setCell ⟨rx,1,none⟩ u1).heap.size=X.heap.size:=
 ⟨fun k _ h2=>(Lg _ ⟨rx,1,none⟩ _ k h2).trans (Lg _ ⟨rx,0,none⟩ _ k h2),vh⟩
def AnyPostE (d:Dr) (W:World) (e:Ending) (W':World):Prop:=
 ∃ad n cp v ns q,e=.returned (.agg #[.slice ad n cp,v])/\NodesD d W' v ns/\ns.length<=1000/\Rdr d W' q/\q<=990000/\Grew d W W'/\ ∃es,EffsD d W' (.slice ad n cp) es/\es.length<=5
theorem any_calls (hSp:SpoilC) {p:Nat}(hG:d.G=d.B) (h:Rdr d W p) (hp:p<=1000):Calls prog 15 #[.pointer (some ⟨d.B,0,none⟩)] W (AnyPostE d W):=by
 have hB:=z12 h.blk;have H0:=J (Lc h (Lc hp hG));have HSp:=J hSp;have hb1:Below W.heap.size W (W.alloc (.cells #[.slice none 0 0,.slice none 0 0] 26)):=Lb.alloc La _;have HB1:=J hb1;have HR1:=J (Ld W (.cells #[.slice none 0 0,.slice none 0 0] 26)).1;have HP:=J (prog_calls hG (h.below hb1) yf);clear hSp hG h hp hb1;go_enter func15,ntmps15
 go_wp2_with fail
 refine HP.o.mono ?_;rintro e W2 ⟨ad,n,cp,vt,es,ns,q2,rfl,hE,hE4,hN,hT,hR,hq,hg⟩;obtain⟨adt,cpt,rfl⟩:=hN.is;have HE:=J (Lc hE hE4);have HN:=J (Lc hN hT);have BX:I (Bx d W (W2.alloc (.cells #[.slice ad n cp,.slice adt ns.length cpt] 26)) q2 (.slice ad n cp) (.slice adt ns.length cpt) W2.heap.size W.heap.size):=by
  have hs:=hg.size;have hsz:(W.alloc (.cells #[.slice none 0 0,.slice none 0 0] 26)).heap.size=W.heap.size+1:=yn;have hb3:Below W2.heap.size W2 (W2.alloc (.cells #[.slice ad n cp,.slice adt ns.length cpt] 26)):=Lb.alloc La _;exact⟨hR.below hb3,((Grew.of_below HB1.o).trans hg).trans (Grew.of_below hb3),(Ld W2 _).1,(hb3.block _ yf).trans ((hg.block _ ⟨yf,yf,by rw[H0.o.2.2];omega⟩).trans HR1.o),yf⟩
 have HQ:=J hq;obtain⟨bp,hbp⟩:∃bp,W2.heap.size=bp:=⟨_,rfl⟩
 rw[hbp]at BX;have HN3:=J (Lc (HN.o.1.grew ((Grew.refl d W2).alloc (.cells #[.slice ad n cp,.slice adt ns.length cpt] 26))) (HE.o.1.grew ((Grew.refl d W2).alloc (.cells #[.slice ad n cp,.slice adt ns.length cpt] 26))));have HTr:=J (Lc HN.o.2 HE.o.2);clear hE hE4 hN hT hR hq hg HP HB1 HR1 HE HN;go_wp2_with fail
 try rw[hbp]
 clear hbp;refine(z31 BX.o.rd ke 5 yh).mono ?_;rintro e X4 ⟨m5,rfl,hm50,hm51,hr4,hg4,-,-⟩;have B4:=J (BX.o.pick hr4 hg4 H0.o.2.2);have N4:=J (Lc (HN3.o.1.grew hg4) (HN3.o.2.grew hg4));clear hr4 hg4 BX HN3;by_cases h5:m5=0
 .subst h5;obtain⟨c0,c1⟩:=fcl2 B4.o.box;have HSq:=J (HSp.o d X4 (q2+1) ad n cp (.slice adt ns.length cpt) es ns H0.o.2.2 B4.o.rd ke N4.o.2 HTr.o.2 N4.o.1 HTr.o.1);go_wp2_with fail
  refine HSq.o.mono ?_;rintro e X5 ⟨ad5,n5,cp5,v5,ns5,q5,rfl,hN5,hl5,hR5,hq5,hg5,es5,hE5,he5⟩;obtain⟨adv,cpv,rfl⟩:=hN5.is;have B5:=J (B4.o.pick hR5 hg5 H0.o.2.2);have HQ2:=J (Lc hq5 hl5);have B5p:=J (B5.o.put H0.o.1 (.slice ad5 n5 cp5) (.slice adv ns5.length cpv));have N5p:=J (bx_not B5.o ⟨_,_,_,rfl⟩ hN5 (X':= (X5.setCell ⟨bp,0,none⟩ (.slice ad5 n5 cp5)).setCell ⟨bp,1,none⟩ (.slice adv ns5.length cpv)) (fun k h1 _=>(Lg _ ⟨bp,1,none⟩ _ k h1).trans (Lg X5 ⟨bp,0,none⟩ _ k h1)) vh)
  have E5p:=J (Lc (bx_notE B5.o ⟨_,_,_,rfl⟩ hE5 (X':= (X5.setCell ⟨bp,0,none⟩ (.slice ad5 n5 cp5)).setCell ⟨bp,1,none⟩ (.slice adv ns5.length cpv)) (fun k h1 _=>(Lg _ ⟨bp,1,none⟩ _ k h1).trans (Lg X5 ⟨bp,0,none⟩ _ k h1)) vh) he5);obtain⟨d0,d1⟩:=fcl2 B5.o.box;obtain⟨e0,e1⟩:=ffz2 B5.o.box;obtain⟨Y5,hY5⟩:∃Y5,(X5.setCell ⟨bp,0,none⟩ (.slice ad5 n5 cp5)).setCell ⟨bp,1,none⟩ (.slice adv ns5.length cpv)=Y5:=⟨_,rfl⟩
  rw[hY5]at B5p N5p E5p;have HY5:=J hY5;clear hN5 hl5 hR5 hq5 hg5 hY5 hE5 he5 c0 c1 HSq;go_upto_region 4 with fail
  rw[HY5.o];clear HY5 d0 d1 e0 e1;go_wp2_with fail
  refine(z31 B5p.o.rd kf 60 yh).mono ?_;rintro e X6 ⟨m6,rfl,hm60,hm61,hr6,hg6,-,-⟩;have B6:=J (B5p.o.pick hr6 hg6 H0.o.2.2);have N6:=J (N5p.o.grew hg6);have E6:=J (Lc (E5p.o.1.grew hg6) E5p.o.2);clear hr6 hg6;obtain⟨b0,b1⟩:=fcl2 B6.o.box;obtain⟨r0,r1⟩:=fcl2 B6.o.res;obtain⟨f0,f1⟩:=ffz2 B6.o.res;by_cases h60:m6=0
  .subst h60;go_wp2_with fail
   refine(z31 B6.o.rd kf 4 yh).mono ?_;rintro e X7 ⟨m7,rfl,hm70,hm71,hr7,hg7,-,-⟩;have B7:=J (B6.o.pick hr7 hg7 H0.o.2.2);have E7:=J (Lc (E6.o.1.grew hg7) E6.o.2);clear hr7 hg7 b0 b1 r0 r1 f0 f1;obtain⟨N,hN⟩:∃N:Nat,38+m7=(N:Int):=⟨(38+m7).toNat,yf⟩
   have hN1:(N:Int)<=41:=yf;have hN0:(38:Int)<=(N:Int):=yf;go_wp2_with fail
   try rw[hN]
   clear hN hm70 hm71;go_loopw [4,6] (fun t i wr=> ∃(i':Nat) (acc:List Nd),i=.int .i64 i'/\1<=i'/\i'<=N/\I (acc.length=i'-1)/\I (wr.ownsRow X7.heap.size 60 6 t acc.length (rowZ Nd.cell 6 acc)/\Below X7.heap.size X7 wr/\ ∀n∈acc,Brief n.a/\Brief n.b/\Brief n.c)) (fun _ i _=>N-(intOf i).toNat)
   case atStart=>exact⟨1,[],rfl,La,yf,rfl,World.ownsRow_nil _ _ _ _,Lb,fun n hn=>by simp at hn⟩
   case round=>
    obtain⟨i',acc,rfl,hi1,hle,HA,HO⟩:=hrel;refine zb92 ?_;intro HS i0 hinf hz0 hz1 hz2;by_cases hi:(i':Int)<(N:Int)
    .have hstep:N-(intOf (.int .i64 ((i'+ 1:Nat):Int))).toNat<N-(intOf (.int .i64 (i':Int))).toNat:=z47 hi;go_wp2_with (at_builtin;refine z21 rfl _ _ 24 rfl _ _ rfl rfl (fun ty=>z70 (d:=d) nd_one underlying24 hinf hz0 hz1 hz2 rfl yh yh (HO.o.1.alloc _) (nd_lit wr ⟨21,0,ByteArray.empty,ByteArray.empty,ByteArray.empty,1⟩ HS.o.1 HS.o.2 ⟨z13,z13,z13⟩).1 kg vw ty) ?_;intro v5 w5 hv5;have HO5:=J (chain_step HO.o ⟨z13,z13,z13⟩ hv5);clear hv5)
     try rw[z18 yf]
     exact⟨⟨i'+ 1,acc++ [⟨21,0,ByteArray.empty,ByteArray.empty,ByteArray.empty,1⟩],rfl,yf,yf,kh,HO5⟩,hstep⟩
    .have hbB:=z12 B7.o.box;have HbB:=J hbB;clear hbB
     go_upto_region 12 with (at_builtin;refine z21 rfl _ _ 24 rfl _ _ rfl rfl (fun ty=>z70 (d:=d) nd_one underlying24 hinf hz0 hz1 hz2 rfl yh yh (HO.o.1.alloc _) (nd_lit wr ⟨1,0,ByteArray.empty,ByteArray.empty,ByteArray.empty,0⟩ HS.o.1 HS.o.2 ⟨z13,z13,z13⟩).1 kg vw ty) ?_;intro v5 w5 hv5;have HO5:=J (chain_step HO.o ⟨z13,z13,z13⟩ hv5);obtain⟨adz,cpz,hvz⟩:=g_is hv5.1;obtain⟨lz,hlz⟩:∃l,(acc++ [(⟨1,0,ByteArray.empty,ByteArray.empty,ByteArray.empty,0⟩:Nd)]).length=l:=⟨_,rfl⟩;rw[hlz]at hvz;subst hvz;have b1:=(HO5.o.2.1.cell (p:=⟨bp,1,none⟩) HbB.o).trans (z8 B7.o.box 1);simp only[List.getElem?_toArray,List.getElem?_cons_succ,List.getElem?_cons_zero]at b1;have fb1:=z11 ((HO5.o.2.1.block bp HbB.o).trans B7.o.box) 1;clear hv5 hlz)
     have BZ:=J (bx_below B7.o HO5.o.2.1);have NZ:I (NodesD d w5 (.slice adz lz cpz) (acc++ [(⟨1,0,ByteArray.empty,ByteArray.empty,ByteArray.empty,0⟩:Nd)])):=⟨lies_owns (f:=Nd.cell) yh HO5.o.1 (z12 B7.o.rd.blk) ki,HO5.o.2.2⟩
     have LS:=J (last_store BZ.o H0.o.1 ⟨_,_,_,rfl⟩ NZ.o 1 (.slice adz lz cpz) (.slice ad5 n5 cp5) (.slice adz lz cpz));have LE:=J (Lc (bx_notE BZ.o ⟨_,_,_,rfl⟩ (E7.o.1.grew (Grew.of_below HO5.o.2.1)) (three_else (j:=1) (u:=.slice adz lz cpz) (u0:=.slice ad5 n5 cp5) (u1:=.slice adz lz cpz)).1 (three_else (bp:=bp)).2) E7.o.2);have hx9:=set_heap (i:=1) (v:=.slice adz lz cpz) BZ.o.box;have hr9:=(Lg w5 ⟨bp,1,none⟩ (.slice adz lz cpz) W.heap.size kj).trans BZ.o.res;have HLc:I ((acc++ [(⟨1,0,ByteArray.empty,ByteArray.empty,ByteArray.empty,0⟩:Nd)]).length<=1000):=vy
     generalize w5.setCell ⟨bp,1,none⟩ (.slice adz lz cpz)=Y9 at*;obtain⟨x0,x1⟩:=fcl2 hx9;obtain⟨y0,y1⟩:=fcl2 hr9;obtain⟨z0,z1⟩:=ffz2 hr9;clear hx9 hr9;go_wp2_with fail
     refine bodyPost_ret (v:=.agg #[.slice ad5 n5 cp5,.slice adz lz cpz]) ?_ rfl ?_
     .simp[results,results15,go_sem,y0,y1]
     .exact⟨_,_,_,_,_,_,rfl,LS.o.1,HLc.o,LS.o.2.1,km,LS.o.2.2,_,LE.o.1,LE.o.2⟩
  .have z60:(m6==0)=false:=by simp[h60]
   have LT:=J (B6.o.told H0.o.1 ⟨_,_,_,rfl⟩ N6.o (.slice ad5 n5 cp5) (.slice adv ns5.length cpv));have LE:=J (Lc (bx_notE B6.o ⟨_,_,_,rfl⟩ E6.o.1 (two_else (u0:=.slice ad5 n5 cp5) (u1:=.slice adv ns5.length cpv)).1 (two_else (bp:=bp)).2) E6.o.2);go_wp2_with fail
   refine bodyPost_ret (v:=.agg #[.slice ad5 n5 cp5,.slice adv ns5.length cpv]) ?_ rfl ?_
   .simp[results,results15,go_sem,r0,r1]
   .exact⟨_,_,_,_,_,_,rfl,LT.o.1,HQ2.o.2,LT.o.2.1,km,LT.o.2.2,_,LE.o.1,LE.o.2⟩
 .have z5:(m5==0)=false:=by simp[h5]
  go_wp2_with fail
  refine(z31 B4.o.rd ke 60 yh).mono ?_;rintro e X6 ⟨m6,rfl,hm60,hm61,hr6,hg6,-,-⟩;have B6:=J (B4.o.pick hr6 hg6 H0.o.2.2);have N6:=J (N4.o.1.grew hg6);have E6:=J (Lc (N4.o.2.grew hg6) (show es.length<=5 by have:=HTr.o.2;omega));clear hr6 hg6;obtain⟨b0,b1⟩:=fcl2 B6.o.box;obtain⟨r0,r1⟩:=fcl2 B6.o.res;obtain⟨f0,f1⟩:=ffz2 B6.o.res;by_cases h60:m6=0
  .subst h60;go_wp2_with fail
   refine(z31 B6.o.rd ke 4 yh).mono ?_;rintro e X7 ⟨m7,rfl,hm70,hm71,hr7,hg7,-,-⟩;have B7:=J (B6.o.pick hr7 hg7 H0.o.2.2);have E7:=J (Lc (E6.o.1.grew hg7) E6.o.2);clear hr7 hg7 b0 b1 r0 r1 f0 f1;obtain⟨N,hN⟩:∃N:Nat,38+m7=(N:Int):=⟨(38+m7).toNat,yf⟩
   have hN1:(N:Int)<=41:=yf;have hN0:(38:Int)<=(N:Int):=yf;go_wp2_with fail
   try rw[hN]
   clear hN hm70 hm71;go_loopw [4,6] (fun t i wr=> ∃(i':Nat) (acc:List Nd),i=.int .i64 i'/\1<=i'/\i'<=N/\I (acc.length=i'-1)/\I (wr.ownsRow X7.heap.size 60 6 t acc.length (rowZ Nd.cell 6 acc)/\Below X7.heap.size X7 wr/\ ∀n∈acc,Brief n.a/\Brief n.b/\Brief n.c)) (fun _ i _=>N-(intOf i).toNat)
   case atStart=>exact⟨1,[],rfl,La,yf,rfl,World.ownsRow_nil _ _ _ _,Lb,fun n hn=>by simp at hn⟩
   case round=>
    obtain⟨i',acc,rfl,hi1,hle,HA,HO⟩:=hrel;refine zb92 ?_;intro HS i0 hinf hz0 hz1 hz2;by_cases hi:(i':Int)<(N:Int)
    .have hstep:N-(intOf (.int .i64 ((i'+ 1:Nat):Int))).toNat<N-(intOf (.int .i64 (i':Int))).toNat:=z47 hi;go_wp2_with (at_builtin;refine z21 rfl _ _ 24 rfl _ _ rfl rfl (fun ty=>z70 (d:=d) nd_one underlying24 hinf hz0 hz1 hz2 rfl yh yh (HO.o.1.alloc _) (nd_lit wr ⟨21,0,ByteArray.empty,ByteArray.empty,ByteArray.empty,1⟩ HS.o.1 HS.o.2 ⟨z13,z13,z13⟩).1 kg vw ty) ?_;intro v5 w5 hv5;have HO5:=J (chain_step HO.o ⟨z13,z13,z13⟩ hv5);clear hv5)
     try rw[z18 yf]
     exact⟨⟨i'+ 1,acc++ [⟨21,0,ByteArray.empty,ByteArray.empty,ByteArray.empty,1⟩],rfl,yf,yf,kh,HO5⟩,hstep⟩
    .have hbB:=z12 B7.o.box;have HbB:=J hbB;clear hbB
     go_upto_region 12 with (at_builtin;refine z21 rfl _ _ 24 rfl _ _ rfl rfl (fun ty=>z70 (d:=d) nd_one underlying24 hinf hz0 hz1 hz2 rfl yh yh (HO.o.1.alloc _) (nd_lit wr ⟨1,0,ByteArray.empty,ByteArray.empty,ByteArray.empty,0⟩ HS.o.1 HS.o.2 ⟨z13,z13,z13⟩).1 kg vw ty) ?_;intro v5 w5 hv5;have HO5:=J (chain_step HO.o ⟨z13,z13,z13⟩ hv5);obtain⟨adz,cpz,hvz⟩:=g_is hv5.1;obtain⟨lz,hlz⟩:∃l,(acc++ [(⟨1,0,ByteArray.empty,ByteArray.empty,ByteArray.empty,0⟩:Nd)]).length=l:=⟨_,rfl⟩;rw[hlz]at hvz;subst hvz;have b1:=(HO5.o.2.1.cell (p:=⟨bp,1,none⟩) HbB.o).trans (z8 B7.o.box 1);simp only[List.getElem?_toArray,List.getElem?_cons_succ,List.getElem?_cons_zero]at b1;have fb1:=z11 ((HO5.o.2.1.block bp HbB.o).trans B7.o.box) 1;clear hv5 hlz)
     have BZ:=J (bx_below B7.o HO5.o.2.1);have NZ:I (NodesD d w5 (.slice adz lz cpz) (acc++ [(⟨1,0,ByteArray.empty,ByteArray.empty,ByteArray.empty,0⟩:Nd)])):=⟨lies_owns (f:=Nd.cell) yh HO5.o.1 (z12 B7.o.rd.blk) ki,HO5.o.2.2⟩
     have LS:=J (last_store BZ.o H0.o.1 ⟨_,_,_,rfl⟩ NZ.o 1 (.slice adz lz cpz) (.slice ad n cp) (.slice adz lz cpz));have LE:=J (Lc (bx_notE BZ.o ⟨_,_,_,rfl⟩ (E7.o.1.grew (Grew.of_below HO5.o.2.1)) (three_else (j:=1) (u:=.slice adz lz cpz) (u0:=.slice ad n cp) (u1:=.slice adz lz cpz)).1 (three_else (bp:=bp)).2) E7.o.2);have hx9:=set_heap (i:=1) (v:=.slice adz lz cpz) BZ.o.box;have hr9:=(Lg w5 ⟨bp,1,none⟩ (.slice adz lz cpz) W.heap.size kj).trans BZ.o.res;have HLc:I ((acc++ [(⟨1,0,ByteArray.empty,ByteArray.empty,ByteArray.empty,0⟩:Nd)]).length<=1000):=vy
     generalize w5.setCell ⟨bp,1,none⟩ (.slice adz lz cpz)=Y9 at*;obtain⟨x0,x1⟩:=fcl2 hx9;obtain⟨y0,y1⟩:=fcl2 hr9;obtain⟨z0,z1⟩:=ffz2 hr9;clear hx9 hr9;go_wp2_with fail
     refine bodyPost_ret (v:=.agg #[.slice ad n cp,.slice adz lz cpz]) ?_ rfl ?_
     .simp[results,results15,go_sem,y0,y1]
     .exact⟨_,_,_,_,_,_,rfl,LS.o.1,HLc.o,LS.o.2.1,km,LS.o.2.2,_,LE.o.1,LE.o.2⟩
  .have z60:(m6==0)=false:=by simp[h60]
   have LT:=J (B6.o.told H0.o.1 ⟨_,_,_,rfl⟩ N6.o (.slice ad n cp) (.slice adt ns.length cpt));have LE:=J (Lc (bx_notE B6.o ⟨_,_,_,rfl⟩ E6.o.1 (two_else (u0:=.slice ad n cp) (u1:=.slice adt ns.length cpt)).1 (two_else (bp:=bp)).2) E6.o.2);go_wp2_with fail
   refine bodyPost_ret (v:=.agg #[.slice ad n cp,.slice adt ns.length cpt]) ?_ rfl ?_
   .simp[results,results15,go_sem,r0,r1]
   .exact⟨_,_,_,_,_,_,rfl,LT.o.1,by obtain⟨_,_,_,_,_,h⟩:=HTr.o.1;omega,LT.o.2.1,km,LT.o.2.2,_,LE.o.1,LE.o.2⟩
end
end Go.Proofs.YtfbojelpdccjaaaGreatDoor
