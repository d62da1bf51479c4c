import Derived.Test.YtbbffkiobmbkfaaGreatDoorPkV28
open Go.Proofs.Tryz
open Go.Value Go.IntKind
set_option maxHeartbeats 40000000
set_option maxRecDepth 100000
namespace Go.Proofs.YtbbffkiobmbkfaaGreatDoor
open Go.RowKit Go.Deep
variable {a:Act}{ls:Array Bool}{d:Dr}{ns:List Nd}{xs:List Value}{B b bp cp e f g i j k n q rx:Nat}{v v1 ve:Value}{W X X' w:World}
section
open Go.RowKit Go.Deep
theorem made_at (hq:X.heap.size=q) (hB:B<=X.heap.size):(X.alloc (.cells #[] 68)).ownsRow B 68 6 (.slice (some ⟨q,0,none⟩) 0 0) ([]:List Nd).length (rowZ Nd.cell 6 []):=by
 subst hq;exact World.ownsRow_made X #[] 0 hB (Li _) rfl
theorem sp_start {X1:World}{p:Nat}{v5:Value}(h:Rdr d W p) (hq:W.heap.size+2=q) (hn:∀n∈ns,Brief n.a/\Brief n.b/\Brief n.c) (hl:1<=ns.length/\ns.length<=300)
 (hr:X1.ownsRow W.heap.size 68 6 v5 ns.length (rowZ Nd.cell 6 ns)) (hg:(((W.alloc (.cells #[ve,v1] 26)).alloc (.cells #[.slice none 0 0,.slice none 0 0] 26)).alloc (.cells #[] 68)).grownBy X1 (some q)):Sp d W X1 p ve v1 W.heap.size (W.heap.size+1) v5 ns:=by
 have hB:=z13 h.blk;have hb:Below W.heap.size W (((W.alloc (.cells #[ve,v1] 26)).alloc (.cells #[.slice none 0 0,.slice none 0 0] 26)).alloc (.cells #[] 68)):=((Lb.alloc La _).alloc yq _).alloc jd _;have e1:(((W.alloc (.cells #[ve,v1] 26)).alloc (.cells #[.slice none 0 0,.slice none 0 0] 26)).alloc (.cells #[] 68)).heap[W.heap.size]?=some (.cells #[ve,v1] 26):=by
  exact((((Lb.alloc La _).alloc yq _).block W.heap.size yq)).trans (Ld W _).1
 have e2:(((W.alloc (.cells #[ve,v1] 26)).alloc (.cells #[.slice none 0 0,.slice none 0 0] 26)).alloc (.cells #[] 68)).heap[W.heap.size+1]?=some (.cells #[.slice none 0 0,.slice none 0 0] 26):=by
  have:=(Ld (W.alloc (.cells #[ve,v1] 26)) (.cells #[.slice none 0 0,.slice none 0 0] 26)).1;rw[show(W.alloc (.cells #[ve,v1] 26)).heap.size=W.heap.size+1 by simp]at this;exact(((Lb.alloc La _).block (W.heap.size+1) yq)).trans this
 have hs:(((W.alloc (.cells #[ve,v1] 26)).alloc (.cells #[.slice none 0 0,.slice none 0 0] 26)).alloc (.cells #[] 68)).heap.size=W.heap.size+3:=yq;generalize ((W.alloc (.cells #[ve,v1] 26)).alloc (.cells #[.slice none 0 0,.slice none 0 0] 26)).alloc (.cells #[] 68)=W3 at*;have hb2:Below W.heap.size W X1:=hb.grown hg ya (fun k hk=>by cases hk;omega);exact⟨h.below hb2,Grew.of_below hb2,(hg.block _ ya (by intro e;cases e;omega)).trans e1,(hg.block _ ya (by intro e;cases e;omega)).trans e2,ya,hr,hn,hl⟩
theorem row_at {ad:Option Addr}(h:X.ownsRow B 68 6 (.slice ad n cp) ns.length (rowZ Nd.cell 6 ns)) (hk:k<ns.length):∃g,ad=some ⟨g,0,none⟩/\B<=g/\g<X.heap.size/\ ∀c,c<6->X.cell? ⟨g,k*6+c,none⟩=some ((ns.getD k default).cell c):=by
 have h':= h;obtain⟨-,⟨-,h0⟩|⟨g,cap,cur,e,hB,hc,-⟩⟩:=h
 .omega
 .cases e;refine⟨g,rfl,hB,z13 hc,fun c hc'=> ?_⟩;rw[h'.cellAt (k*6+c) ya,z51 Nd.cell 6 yk ns (k*6+c) ya];exact congrArg some (cell_div ns Nd.cell 6 k c hc')
theorem row_fz {m:Nat}(h:X.ownsRow B 68 6 (.slice (some ⟨g,0,none⟩) n cp) m xs):(∀i,X.frozen? ⟨g,i,none⟩=false)/\m<=cp/\ ∃cur,X.heap[g]?=some (.cells cur 68):=by
 obtain⟨-,⟨h1,-⟩|⟨g',cap,cur,e,hB,hc,hnc,-⟩⟩:=h
 .cases h1
 .cases e;exact⟨fun i=>z15 hc i,hnc,cur,hc⟩
def sevenV:Array Value:= #[.string ⟨#[120,48]⟩,.string ⟨#[113]⟩,.string ⟨#[]⟩,.string ⟨#[108,101,116]⟩,.string ⟨#[97,115,107]⟩,.string ⟨#[90,122]⟩,.string ⟨#[97,98,99,100,101,102,103,104,105]⟩]
theorem seven_get (r:Int) (h0:0<=r) (h1:r<7):∃y:ByteArray,Brief y/\sevenV[r.toNat]?=some (.string y):=by
 have h:r=0\/r=1\/r=2\/r=3\/r=4\/r=5\/r=6:=ya;rcases h with rfl|rfl|rfl|rfl|rfl|rfl|rfl<;>exact⟨_,uc,rfl⟩
def fiveV:Array Value:= #[int i64 (-1),int i64 1,int i64 2,int i64 999999999,int i64 1000000000]
theorem five_get (r:Int) (h0:0<=r) (h1:r<5):∃y:Int,fiveV[r.toNat]?=some (int i64 y):=by
 have h:r=0\/r=1\/r=2\/r=3\/r=4:=ya;rcases h with rfl|rfl|rfl|rfl|rfl<;>exact⟨_,rfl⟩
theorem nodes_at (h:X.ownsRow B 68 6 (.slice (some ⟨g,0,none⟩) ns.length cp) ns.length (rowZ Nd.cell 6 ns)) (h0:0<ns.length):NodesAt X g 0 ns:=fun k hk c hc=>by
 have _:=h0;obtain⟨g',e,-,-,hcell⟩:=row_at h (k:=k) hk
 cases e;rw[Nat.zero_add];exact hcell c hc
theorem app_off {l m:List Nd}{off cap:Nat}(hown:W.ownsRow B 68 6 v l.length (rowZ Nd.cell 6 l)) (hc:NodesAt W b off m) (hm:l.length+m.length<=1000000) (hB:B<=W.heap.size) (ty:TypeId) :
 ∃v' W',(Builtin.append_ #[24,24] ty #[v,.slice (some ⟨b,off,none⟩) m.length cap]).run prog W=.ok v' W'/\W'.ownsRow B 68 6 v' (l++m).length (rowZ Nd.cell 6 (l++m))/\W.grownBy W' v.ownBlock:=by
 obtain⟨i0,hinf,hz0,hz1,hz2⟩:=info_parts info_node;obtain⟨v',W',hr,h2,h3,-,-⟩:=run_append_own_at (P:=prog) W B 24 ty 68 i0 _ 6 72 underlying24 hinf hz0 hz1 hz2 rfl yk v l.length (rowZ Nd.cell 6 l) hown ⟨b,off,none⟩ m.length cap (rowZ Nd.cell 6 m) (z78 _ 6 m)
  (fun j u hu=>by
   have hj:j<m.length*6:=by
    have:=(List.getElem?_eq_some_iff.1 hu).1;rwa[z78]at this
   rw[z51 Nd.cell 6 yk m j hj]at hu
   cases hu;rw[Addr.add_lit];have:=hc (j/6) ya (j % 6) ya;rwa[show off+j/6*6+j % 6=off+j by omega]at this)
  (fun u hu=>by
   unfold rowZ at hu;rw[List.mem_flatMap]at hu;obtain⟨x,-,hu⟩:=hu;rw[List.mem_map]at hu;obtain⟨i,-,rfl⟩:=hu;exact nd_one x i) zz ya hB
 refine⟨v',W',hr,?_,h3⟩;rw[Lk,rowZ_app];exact h2
theorem nodes_part {l:List Nd}{r:List Nd}(h:NodesAt W b 0 ns) (hd:ns.drop k=l++r):NodesAt W b (k*6) l:=fun j hj c hc=>by
 have hlen:=congrArg List.length hd;simp only[List.length_drop,Lk]at hlen;have e:=h (k+j) ya c hc;rw[show 0+(k+j)*6+c=k*6+j*6+c by omega]at e;rw[e];congr 2
 have:ns.getD (k+j) default=(ns.drop k).getD j default:=by simp[List.getD,List.getElem?_drop]
 rw[this,hd];simp[List.getD,List.getElem?_append_left hj]
theorem last_part {o:Nat}(h:ns.drop e= []\/o=e*6) (hn:NodesAt W b 0 ns):NodesAt W b o (ns.drop e):=by
 rcases h with h|rfl
 .rw[h];exact fun k hk=>gj
 .exact nodes_part (r:= []) hn yq
theorem parts_brief (hb:∀n∈ns,Brief n.a/\Brief n.b/\Brief n.c):∀n∈(([]:List Nd)++ns.take k)++(ns.drop j).take f++ns.drop e,Brief n.a/\Brief n.b/\Brief n.c:=fun n hn=>by
 simp only[List.nil_append,List.mem_append]at hn;rcases hn with (hn|hn)|hn
 .exact hb n (List.mem_of_mem_take hn)
 .exact hb n (List.mem_of_mem_drop (List.mem_of_mem_take hn))
 .exact hb n (List.mem_of_mem_drop hn)
theorem parts1 (h:ns.length<=300):([]:List Nd).length+(ns.take k).length<=1000000:=by
 simp only[Lm,List.length_take];omega
theorem parts2 (h:ns.length<=300):(([]:List Nd)++ns.take k).length+((ns.drop j).take f).length<=1000000:=by
 simp only[List.nil_append,List.length_take,List.length_drop];omega
theorem parts3 (h:ns.length<=300):((([]:List Nd)++ns.take k)++(ns.drop j).take f).length+(ns.drop e).length<=1000000:=by
 simp only[List.nil_append,Lk,List.length_take,List.length_drop];omega
theorem parts_len (h:ns.length<=300):((([]:List Nd)++ns.take k)++(ns.drop j).take f++ns.drop e).length<=1000:=by
 simp only[List.nil_append,Lk,List.length_take,List.length_drop];omega
theorem row_take (h:X.ownsRow B 68 6 (.slice (some ⟨g,0,none⟩) ns.length cp) ns.length (rowZ Nd.cell 6 ns)) (h1:d.B<B) (h2:d.G<B) (hk:k<=ns.length) (h0:0<ns.length) (hb:∀n∈ns,Brief n.a/\Brief n.b/\Brief n.c):NodesD d X (.slice (some ⟨g,0,none⟩) k cp) (ns.take k):=
 ⟨lies_take (lies_owns (f:=Nd.cell) yk h h1 h2) hk h0 rfl,fun n hn=>hb n (List.mem_of_mem_take hn)⟩
def fourV:Array Value:= #[.string ⟨#[97,115,107]⟩,.string ⟨#[110,101,119]⟩,.string ⟨#[]⟩,.string ⟨#[105,102]⟩]
theorem four_get (r:Int) (h0:0<=r) (h1:r<4):∃y:ByteArray,Brief y/\fourV[r.toNat]?=some (.string y):=by
 have h:r=0\/r=1\/r=2\/r=3:=ya;rcases h with rfl|rfl|rfl|rfl<;>exact⟨_,uc,rfl⟩
theorem four_brief {y:ByteArray}(h:fourV[k]?=some (.string y)):Brief y:=by
 match k with
 |0=>cases h;unfold Brief;decide
 |1=>cases h;unfold Brief;decide
 |2=>cases h;unfold Brief;decide
 |3=>cases h;unfold Brief;decide
 |k+4=>simp[fourV]at h
theorem gef_one (k:Ef) (i:Nat):(k.cell i).oneCell'= true:=by
 match i with
 |0=>rfl
 |1=>rfl
 |_+2=>rfl
theorem info_effZ:(prog.info? 64).map (fun i=>(i.zero,i.size,i.bytes))=some (some (.agg #[.string ByteArray.empty,int i64 0,int i64 0]),3,32):=ye
theorem effs_made (hB:B<=X.heap.size):(X.alloc (.cells #[] 64)).ownsRow B 64 3 (.slice (some ⟨X.heap.size,0,none⟩) 0 0) ([]:List Ef).length (rowZ Ef.cell 3 []):=
 World.ownsRow_made X #[] 0 hB (Li _) rfl
theorem own_ne {c:Array Value}{t:TypeId}(h:X.ownsRow B 64 3 v n xs) (hc:X.heap[q]?=some (.cells c t)) (ht:t≠64):some q≠v.ownBlock:=fun e=>by
 obtain⟨-,c2,hc2⟩:=g_type h e.symm;rw[hc]at hc2;simp only[Option.some.injEq,Obj.cells.injEq]at hc2;exact ht hc2.2.1
theorem bx_own {p0:Nat}(h:Bx d W X q ve v1 bp rx) (h0:Rdr d W p0) (ho:X.ownsRow W.heap.size 64 3 v n xs) (hg:X.grownBy X' v.ownBlock):Bx d W X' q ve v1 bp rx:=by
 have hlo:=h.lo;have hs:=h.gr.size;have hne:∀k,k<W.heap.size->some k≠v.ownBlock:=fun k hk e=>by have:=(ho.lt k e.symm).1;omega
 refine⟨⟨(hg.block _ ya (hne _ hlo.1)).trans h.rd.blk,fun hl=>?_⟩,⟨hg.os.trans h.gr.os,hg.tape.trans h.gr.tape,hg.output.trans h.gr.output,Lf hs hg.size,fun k hk=>(hg.block k yay (hne k hk.1)).trans (h.gr.block k hk)⟩,(hg.block _ (z13 h.box) (own_ne ho h.box yk)).trans h.box,(hg.block _ (z13 h.res) (own_ne ho h.res yk)).trans h.res,hlo⟩;obtain⟨b,off,ea,hq,hz⟩:=h.rd.bytes hl;have hbl:=bytes_low h0 b off ea hl;refine⟨b,off,ea,⟨Le hq.1 hg.size,hq.2⟩,fun i hi=>?_⟩;obtain⟨z,hz,h5⟩:=hz i hi;exact⟨z,(Lj (a:=⟨b,off+i,none⟩) (hg.block b hq.1 (hne b hbl))).trans hz,h5⟩
theorem bx_low (h:Bx d W X q ve v1 bp rx) (hb:Below X.heap.size X X'):Bx d W X' q ve v1 bp rx:=
 ⟨h.rd.below hb,h.gr.trans (Grew.of_below hb),(hb.block _ (z13 h.box)).trans h.box,(hb.block _ (z13 h.res)).trans h.res,h.lo⟩
theorem bx_pick {q':Nat}(h:Bx d W X q ve v1 bp rx) (hr:Rdr d X' q') (hg:Grew d X X') (hG:d.G=d.B):Bx d W X' q' ve v1 bp rx:=
 ⟨hr,h.gr.trans hg,(hg.block bp ⟨z13 h.box,ybf,ybh⟩).trans h.box,(hg.block rx ⟨z13 h.res,ybf,ybh⟩).trans h.res,h.lo⟩
theorem slice_of {e:TypeId}{sz:Nat}(h:X.ownsRow B e sz v n xs):∃ad l c,v=.slice ad l c:=by
 obtain⟨ad,c,e⟩:=g_is h;exact⟨ad,n,c,e⟩
theorem one_eff {qd:Nat}{y:ByteArray}{a b:Int}(h:X.heap[qd]?=some (.cells #[.string y,int i64 a,int i64 b] 64)) (h1:qd≠d.B) (h2:qd≠d.G):Lies d X (.slice (some ⟨qd,0,none⟩) 1 1) [(⟨y,a,b⟩:Ef)].length 3 (fun i=>Ef.cell ([(⟨y,a,b⟩:Ef)].getD (i/3) default) (i % 3)):=by
 refine Or.inr ⟨qd,0,1,rfl,La,rfl,⟨z13 h,h1,h2⟩,fun i hi=>?_⟩;rw[Nat.zero_add,z11 h i];have hi3:i=0\/i=1\/i=2:=by simp at hi;omega
 rcases hi3 with rfl|rfl|rfl<;>rfl
section
variable {P:Program}{l0:List Oper}{Q:Exit->Act->World->Prop}{S:World->Prop}
def PickOne (P:Program) (l0:List Oper) (Q:Exit->Act->World->Prop) (S:World->Prop) (n:Nat) (ls:Array Bool) (a:Act) (w:World) (i:Nat):Prop:=PickMk P l0 Q S n ls a w i\/PickCl P l0 Q S n ls a w i
theorem PickOne.op (h:PickOne P l0 Q S n ls a w i):wpOp P l0.toArray (NoPanic Q) i (fun a' w'=> S w'/\wpAnyH P .any l0.toArray (NoPanic Q) S n (ls.setIfInBounds i true) a' w') a w:=by
 rcases h with h|h
 .exact h.op
 .exact h.op
theorem pick_two (hr:(Region.ready .any l0.toArray ls== [i,j])=true) (h1:PickOne P l0 Q S n ls a w i) (h2:PickOne P l0 Q S n ls a w j):wpAnyH P .any l0.toArray (NoPanic Q) S (n+1) ls a w:=by
 refine zb94 ?_;unhygienic intros
 rcases hk with rfl|rfl
 .exact h1.op
 .exact h2.op
theorem pick_three (hr:(Region.ready .any l0.toArray ls== [i,j,k])=true) (h1:PickOne P l0 Q S n ls a w i) (h2:PickOne P l0 Q S n ls a w j) (h3:PickOne P l0 Q S n ls a w k):wpAnyH P .any l0.toArray (NoPanic Q) S (n+1) ls a w:=by
 refine wpAnyH_all (rs:= [i,j,k]) yy yq (fun x hx=>?_);simp only[List.mem_cons,List.not_mem_nil,or_false]at hx;rcases hx with rfl|rfl|rfl
 .exact h1.op
 .exact h2.op
 .exact h3.op
theorem pick_cap (h:∀(L:List Oper) (QQ:Exit->Act->World->Prop) (aa:Act),O (L=l0)->O (QQ=Q)->O (aa=a)->wpAnyH P .any L.toArray (NoPanic QQ) S n ls aa w):wpAnyH P .any l0.toArray (NoPanic Q) S n ls a w:=h l0 Q a (U rfl) (U rfl) (U rfl)
theorem z39 {L:List Oper}{QQ:Exit->Act->World->Prop}{ls':Array Bool}{a':Act}(hL:L=l0) (hQ:QQ=Q) (hl:ls=ls') (ha:a'= a) (h:wpAnyH P .any L.toArray (NoPanic QQ) S n ls' a' w):wpAnyH P .any l0.toArray (NoPanic Q) S n ls a w:=by
 subst hL;subst hQ;subst hl;subst ha;exact h
theorem z50 {L:List Oper}{QQ:Exit->Act->World->Prop}{a':Act}(hL:L=l0) (hQ:QQ=Q) (ha:a'= a) (h:wpAnyH P .any l0.toArray (NoPanic Q) S n ls a w):wpAnyH P .any L.toArray (NoPanic QQ) S n ls a' w:=by
 subst hL;subst hQ;subst ha;exact h
end
theorem tail_at {p0:Nat}{ms:List Nd}(h:Bx d W X q ve v1 bp rx) (h0:Rdr d W p0) (hve:∃a n c,ve=.slice a n c) (hn:NodesD d X v ms) (j:Nat) (u u0 u1:Value) {w0 w1:Value}(hw:(#[ve,v1]:Array Value).setIfInBounds j u= #[w0,w1]) :
 ∃Y,O (X.setCell ⟨bp,j,none⟩ u=Y)/\O (NodesD d ((Y.setCell ⟨rx,0,none⟩ u0).setCell ⟨rx,1,none⟩ u1) v ms/\Rdr d ((Y.setCell ⟨rx,0,none⟩ u0).setCell ⟨rx,1,none⟩ u1) q/\Grew d W ((Y.setCell ⟨rx,0,none⟩ u0).setCell ⟨rx,1,none⟩ u1))/\
  (X.cell? ⟨bp,0,none⟩=some ve/\X.cell? ⟨bp,1,none⟩=some v1/\X.cell? ⟨rx,0,none⟩=some (.slice none 0 0)/\X.cell? ⟨rx,1,none⟩=some (.slice none 0 0)/\X.frozen? ⟨bp,0,none⟩=false/\X.frozen? ⟨bp,1,none⟩=false/\X.frozen? ⟨rx,0,none⟩=false/\X.frozen? ⟨rx,1,none⟩=false)/\
  Y.cell? ⟨bp,0,none⟩=some w0/\Y.cell? ⟨bp,1,none⟩=some w1/\Y.cell? ⟨rx,0,none⟩=some (.slice none 0 0)/\Y.cell? ⟨rx,1,none⟩=some (.slice none 0 0)/\Y.frozen? ⟨rx,0,none⟩=false/\Y.frozen? ⟨rx,1,none⟩=false:=by
 have hx:=z68 (i:=j) (v:=u) h.box;rw[hw]at hx;have hr:=(Lg X ⟨bp,j,none⟩ u rx (by have:=h.lo;show rx≠bp;omega)).trans h.res;exact⟨_,rfl,last_store h h0 hve hn j u u0 u1,⟨z11 h.box 0,z11 h.box 1,z11 h.res 0,z11 h.res 1,z15 h.box 0,z15 h.box 1,z15 h.res 0,z15 h.res 1⟩,z11 hx 0,z11 hx 1,z11 hr 0,z11 hr 1,z15 hr 0,z15 hr 1⟩
theorem spoil_calls {p:Nat}{ad:Option Addr}{vt:Value}{es:List Ef}(hG:d.G=d.B) (h:Rdr d W p) (hp:p<=900000) (hE:EffsD d W (.slice ad n cp) es) (he4:es.length<=4) (hn:NodesD d W vt ns) (hT:GTr ns) :
 Calls prog 36 #[.pointer (some ⟨d.B,0,none⟩),.agg #[.slice ad n cp,vt]] W (SpoilPostE d W p):=by
 have hl3:1<=ns.length/\ns.length<=300:=by
  obtain⟨m,k,e1,-,-,e4⟩:=hT;exact⟨by rw[e1];simp,e4⟩
 have HT:=U (Lc hT hl3);have HE:=U (Lc hE he4);have HN:=U hn;have H0:=U (Lc h (Lc hp hG));obtain⟨adt,cpt,rfl⟩:=hn.is;obtain⟨i0,hinf,hz0,hz1,hz2⟩:=info_parts info_node;clear hG h hp hE he4 hn hT hl3;go_enter func36,ntmps36
 go_wp2_with (at_builtin;refine z34 rfl _ _ 24 rfl _ _ rfl rfl (fun ty=>app_row (d:=d) nd_one underlying24 hinf hz0 hz1 hz2 rfl yk yk (made_at (B:=W.heap.size) yq jd) (HN.o.1.grew ((((Grew.refl d W).alloc _).alloc _).alloc _)) (by have:=HT.o.2;simp;omega) jd ty) ?_;intro v5 X1 hv5;rw[List.nil_append]at hv5;have HS:=U (sp_start H0.o.1 rfl HN.o.2 HT.o.2 hv5.1 hv5.2);obtain⟨adr,cpr,rfl⟩:=g_is hv5.1;clear hv5)
 have LP:(0:Int)<(ns.length:Int):=ybp;refine(z52 HS.o.rd yv (ns.length:Int) LP).mono ?_;rintro e X2 ⟨k0,rfl,hk0,hk1,hr2,hg2,-,ho2⟩;have HS2:=U (HS.o.pick hr2 hg2 ho2);clear hr2 hg2 ho2 HS;obtain⟨k,rfl⟩:∃k:Nat,k0=(k:Int):=⟨k0.toNat,ya⟩
 obtain⟨q,hqa,hqB,hql,hcell⟩:=row_at HS2.o.row (k:=k) ya;subst hqa;have HQ:=U (Lc hqB hql);obtain⟨m,hm⟩:∃m,ns.getD k default=m:=⟨_,rfl⟩
 have Hm:=U hm;have hbm:Brief m.a/\Brief m.b/\Brief m.c:=by rw[<-hm];exact HS2.o.sml _ (getD_mem ya)
 have HBm:=U hbm;obtain⟨c0,c1,c2,c3,c4,c5⟩:=fsx hcell;rw[hm]at c0 c1 c2 c3 c4 c5;obtain⟨kd,nm,sa,sb,sc,kc⟩:=m;simp only[Nd.cell,Nat.add_zero]at c0 c1 c2 c3 c4 c5;have HS3:=U (HS2.o.below (Lb.alloc La (.cells #[int i64 kd,int i64 nm,.string sa,.string sb,.string sc,int i64 kc] 68)));have NB3:=U (Ld X2 (.cells #[int i64 kd,int i64 nm,.string sa,.string sb,.string sc,int i64 kc] 68)).1;have HX3:=U (fun(k:Nat) (e:k=X2.heap.size)=>(show q≠k by omega));obtain⟨nb,hnb⟩:∃nb,X2.heap.size=nb:=⟨_,rfl⟩
 have HNb:O (W.heap.size<=nb/\nb≠W.heap.size/\nb≠W.heap.size+1/\nb≠q):=by
  have h1:=z13 HS2.o.box;have h2:=z13 HS2.o.res;have h3:=HS2.o.gr.size;have h4:=HQ.o.2;show _/\_;omega
 clear hm hbm hcell hqB hql HX3;go_wp2_with fail
 rw[hnb]at NB3;try rw[hnb]
 clear hnb c0 c1 c2 c3 c4 c5;refine(z52 HS3.o.rd yv 9 yk).mono ?_;rintro e X3 ⟨m9,rfl,hm90,hm91,hr3,hg3,-,ho3⟩;have HS4:=U (HS3.o.pick hr3 hg3 ho3);have NB4:=U ((ho3 nb (by have:=HNb.o;have:=HS3.o.lo;omega)).trans NB3.o);clear hr3 hg3 ho3 HS3 NB3 HS2;have hcs:m9=0\/m9=1\/m9=2\/m9=3\/(m9=4\/m9=5)\/m9=6\/m9=7\/m9=8:=ya;rcases hcs with rfl|rfl|rfl|rfl|h45|rfl|rfl|rfl
 .go_wp2_with fail
  refine(z52 HS4.o.rd yv 29 yw).mono ?_;rintro e X4 ⟨m20,rfl,hm20,hM20,hr,hg,-,ho⟩;have HS5:=U (HS4.o.pick hr hg ho);have NB5:=U ((ho nb (by have:=HNb.o;have:=HS4.o.lo;omega)).trans NB4.o);clear hr hg ho;have a0:X4.cell? ⟨nb,0,none⟩=some (int i64 kd):=z11 NB5.o 0;have fz:=z15 NB5.o 0;have HS7:=U (HS5.o.set H0.o.1 nb 0 (int i64 (m20-1)) HNb.o.1 HNb.o.2.1 HNb.o.2.2.1 HNb.o.2.2.2);have NB7:=U (z68 (i:=0) (v:=int i64 (m20-1)) NB5.o);obtain⟨Y7,hY7⟩:∃Y7,X4.setCell ⟨nb,0,none⟩ (int i64 (m20-1))=Y7:=⟨_,rfl⟩
  rw[hY7]at HS7 NB7;have HY7:=U hY7;clear hY7;have NB8:O (Y7.heap[nb]?=some (.cells #[int i64 (m20-1),int i64 nm,.string sa,.string sb,.string sc,int i64 kc] 68)):=NB7.o;go_upto_region 30 with fail
  rw[HY7.o];clear HY7 a0 fz NB7;refine zb93 ?_;intro n0 n1 n2 n3 n4 n5 q' hqa' hcl;simp only[Option.some.injEq,Addr.mk.injEq]at hqa';obtain⟨rfl,-⟩:=hqa';refine zb29 ?_;intro q0 q1 q2 q3 q4 q5 hrf hrc cur hcur z0 z1 z2 z3 z4 z5;simp only[Nat.add_zero]at q0 z0;clear hcl hrf;generalize (ns.getD k default).cell 0=w0 at q0;generalize (ns.getD k default).cell 1=w1 at q1;generalize (ns.getD k default).cell 2=w2 at q2;generalize (ns.getD k default).cell 3=w3 at q3;generalize (ns.getD k default).cell 4=w4 at q4;generalize (ns.getD k default).cell 5=w5 at q5;have hqb:q≠W.heap.size:=fun e=>ybq
  have hqr:q≠W.heap.size+1:=fun e=>ybr
  have S6:=six_other Y7 q k ⟨m20-1,nm,sa,sb,sc,kc⟩;have B6:=U (HS7.o.bx.other H0.o.1 (nb:=q) S6.1 S6.2 (six_os _ _ _ _) HQ.o.1 hqb hqr);have N6:=U (six_row (k:=k) HS7.o.row ya ⟨m20-1,nm,sa,sb,sc,kc⟩ d ⟨yz,zd,ze⟩ hrc HS7.o.sml HBm.o);clear S6 hcur hrc hqb hqr;obtain⟨Y6,hY6⟩:∃Y6,six Y7 q k ⟨m20-1,nm,sa,sb,sc,kc⟩=Y6:=⟨_,rfl⟩
  rw[hY6]at B6 N6;unfold six at hY6;dsimp only at hY6;have HY6:=U hY6;clear hY6;go_upto_region 31 with fail
  rw[HY6.o];clear HY6 n0 n1 n2 n3 n4 n5 q0 q1 q2 q3 q4 q5 z0 z1 z2 z3 z4 z5;obtain⟨Y9,HY9,LS,⟨b0,b1,r0,r1,fb0,fb1,fr0,fr1⟩,x0,x1,y0,y1,z0,z1⟩:=tail_at B6.o H0.o.1 ⟨_,_,_,rfl⟩ N6.o 1 (.slice (some ⟨q,0,none⟩) ns.length cpr) (.slice ad n cp) (.slice (some ⟨q,0,none⟩) ns.length cpr) rfl;go_upto_region 32 with fail
  rw[HY9.o];clear HY9 b0 b1 r0 r1 fb0 fb1 fr0 fr1;go_wp2_with fail
  refine bodyPost_ret (v:=.agg #[.slice ad n cp,.slice (some ⟨q,0,none⟩) ns.length cpr]) ?_ rfl ?_
  .simp[results,results36,go_sem,y0,y1]
  .exact⟨_,_,_,_,_,_,rfl,LS.o.1,ybs,LS.o.2.1,ya,LS.o.2.2,z77 HE.o LS.o.2.2 ya⟩
 .have HSa:=U (HS4.o.below (Lb.alloc La (.cells sevenV 9)));have RBa:=U (Ld X3 (.cells sevenV 9)).1;have NBa:=U (((Below.refl X3.heap.size X3).alloc La (.cells sevenV 9)).block nb (z13 NB4.o) |>.trans NB4.o);have hBx:=U (show X3.heap.size≠d.B by have:=z13 HS4.o.rd.blk;omega);unfold sevenV at HSa NBa RBa;go_wp2_with fail
  refine(z52 HSa.o.rd yv 7 yk).mono ?_;rintro e X4 ⟨m20,rfl,hm20,hM20,hr,hg,-,ho⟩;have HS5:=U (HSa.o.pick hr hg ho);have NB5:=U ((ho nb ybt).trans NBa.o);have RB5:=U ((ho X3.heap.size hBx.o).trans RBa.o);clear hr hg ho HSa NBa RBa hBx;obtain⟨y,hby,hy⟩:=seven_get m20 hm20 hM20;have HBy:=U hby;clear hby;unfold sevenV at hy;have cy:=(z11 RB5.o m20.toNat).trans hy;have a2:X4.cell? ⟨nb,2,none⟩=some (.string sa):=z11 NB5.o 2;have fz:=z15 NB5.o 2;have HS7:=U (HS5.o.set H0.o.1 nb 2 (.string y) HNb.o.1 HNb.o.2.1 HNb.o.2.2.1 HNb.o.2.2.2);have NB7:=U (z68 (i:=2) (v:=.string y) NB5.o)
  obtain⟨Y7,hY7⟩:∃Y7,X4.setCell ⟨nb,2,none⟩ (.string y)=Y7:=⟨_,rfl⟩
  rw[hY7]at HS7 NB7;have HY7:=U hY7;clear hY7;have NB8:O (Y7.heap[nb]?=some (.cells #[int i64 kd,int i64 nm,.string y,.string sb,.string sc,int i64 kc] 68)):=NB7.o;go_upto_region 30 with fail
  rw[HY7.o];clear HY7 a2 fz NB7 cy hy;refine zb93 ?_;intro n0 n1 n2 n3 n4 n5 q' hqa' hcl;simp only[Option.some.injEq,Addr.mk.injEq]at hqa';obtain⟨rfl,-⟩:=hqa';refine zb29 ?_;intro q0 q1 q2 q3 q4 q5 hrf hrc cur hcur z0 z1 z2 z3 z4 z5;simp only[Nat.add_zero]at q0 z0;clear hcl hrf;generalize (ns.getD k default).cell 0=w0 at q0;generalize (ns.getD k default).cell 1=w1 at q1;generalize (ns.getD k default).cell 2=w2 at q2;generalize (ns.getD k default).cell 3=w3 at q3;generalize (ns.getD k default).cell 4=w4 at q4;generalize (ns.getD k default).cell 5=w5 at q5;have hqb:q≠W.heap.size:=fun e=>ybq
  have hqr:q≠W.heap.size+1:=fun e=>ybr
  have S6:=six_other Y7 q k ⟨kd,nm,y,sb,sc,kc⟩;have B6:=U (HS7.o.bx.other H0.o.1 (nb:=q) S6.1 S6.2 (six_os _ _ _ _) HQ.o.1 hqb hqr);have N6:=U (six_row (k:=k) HS7.o.row ya ⟨kd,nm,y,sb,sc,kc⟩ d ⟨yz,zd,ze⟩ hrc HS7.o.sml ⟨HBy.o,HBm.o.2.1,HBm.o.2.2⟩);clear S6 hcur hrc hqb hqr;obtain⟨Y6,hY6⟩:∃Y6,six Y7 q k ⟨kd,nm,y,sb,sc,kc⟩=Y6:=⟨_,rfl⟩
  rw[hY6]at B6 N6;unfold six at hY6;dsimp only at hY6;have HY6:=U hY6;clear hY6;go_upto_region 31 with fail
  rw[HY6.o];clear HY6 n0 n1 n2 n3 n4 n5 q0 q1 q2 q3 q4 q5 z0 z1 z2 z3 z4 z5;obtain⟨Y9,HY9,LS,⟨b0,b1,r0,r1,fb0,fb1,fr0,fr1⟩,x0,x1,y0,y1,z0,z1⟩:=tail_at B6.o H0.o.1 ⟨_,_,_,rfl⟩ N6.o 1 (.slice (some ⟨q,0,none⟩) ns.length cpr) (.slice ad n cp) (.slice (some ⟨q,0,none⟩) ns.length cpr) rfl;go_upto_region 32 with fail
  rw[HY9.o];clear HY9 b0 b1 r0 r1 fb0 fb1 fr0 fr1;go_wp2_with fail
  refine bodyPost_ret (v:=.agg #[.slice ad n cp,.slice (some ⟨q,0,none⟩) ns.length cpr]) ?_ rfl ?_
  .simp[results,results36,go_sem,y0,y1]
  .exact⟨_,_,_,_,_,_,rfl,LS.o.1,ybs,LS.o.2.1,ya,LS.o.2.2,z77 HE.o LS.o.2.2 ya⟩
 .have HSa:=U (HS4.o.below (Lb.alloc La (.cells fiveV 3)));have RBa:=U (Ld X3 (.cells fiveV 3)).1;have NBa:=U (((Below.refl X3.heap.size X3).alloc La (.cells fiveV 3)).block nb (z13 NB4.o) |>.trans NB4.o);have hBx:=U (show X3.heap.size≠d.B by have:=z13 HS4.o.rd.blk;omega);unfold fiveV at HSa NBa RBa;go_wp2_with fail
  refine(z52 HSa.o.rd yv 5 yk).mono ?_;rintro e X4 ⟨m20,rfl,hm20,hM20,hr,hg,-,ho⟩;have HS5:=U (HSa.o.pick hr hg ho);have NB5:=U ((ho nb ybt).trans NBa.o);have RB5:=U ((ho X3.heap.size hBx.o).trans RBa.o);clear hr hg ho HSa NBa RBa hBx;obtain⟨y,hy⟩:=five_get m20 hm20 hM20;unfold fiveV at hy;have cy:=(z11 RB5.o m20.toNat).trans hy;have a1:X4.cell? ⟨nb,1,none⟩=some (int i64 nm):=z11 NB5.o 1;have fz:=z15 NB5.o 1;have HS7:=U (HS5.o.set H0.o.1 nb 1 (int i64 y) HNb.o.1 HNb.o.2.1 HNb.o.2.2.1 HNb.o.2.2.2);have NB7:=U (z68 (i:=1) (v:=int i64 y) NB5.o)
  obtain⟨Y7,hY7⟩:∃Y7,X4.setCell ⟨nb,1,none⟩ (int i64 y)=Y7:=⟨_,rfl⟩
  rw[hY7]at HS7 NB7;have HY7:=U hY7;clear hY7;have NB8:O (Y7.heap[nb]?=some (.cells #[int i64 kd,int i64 y,.string sa,.string sb,.string sc,int i64 kc] 68)):=NB7.o;go_upto_region 30 with fail
  rw[HY7.o];clear HY7 a1 fz NB7 cy hy;refine zb93 ?_;intro n0 n1 n2 n3 n4 n5 q' hqa' hcl;simp only[Option.some.injEq,Addr.mk.injEq]at hqa';obtain⟨rfl,-⟩:=hqa';refine zb29 ?_;intro q0 q1 q2 q3 q4 q5 hrf hrc cur hcur z0 z1 z2 z3 z4 z5;simp only[Nat.add_zero]at q0 z0;clear hcl hrf;generalize (ns.getD k default).cell 0=w0 at q0;generalize (ns.getD k default).cell 1=w1 at q1;generalize (ns.getD k default).cell 2=w2 at q2;generalize (ns.getD k default).cell 3=w3 at q3;generalize (ns.getD k default).cell 4=w4 at q4;generalize (ns.getD k default).cell 5=w5 at q5;have hqb:q≠W.heap.size:=fun e=>ybq
  have hqr:q≠W.heap.size+1:=fun e=>ybr
  have S6:=six_other Y7 q k ⟨kd,y,sa,sb,sc,kc⟩;have B6:=U (HS7.o.bx.other H0.o.1 (nb:=q) S6.1 S6.2 (six_os _ _ _ _) HQ.o.1 hqb hqr);have N6:=U (six_row (k:=k) HS7.o.row ya ⟨kd,y,sa,sb,sc,kc⟩ d ⟨yz,zd,ze⟩ hrc HS7.o.sml HBm.o);clear S6 hcur hrc hqb hqr;obtain⟨Y6,hY6⟩:∃Y6,six Y7 q k ⟨kd,y,sa,sb,sc,kc⟩=Y6:=⟨_,rfl⟩
  rw[hY6]at B6 N6;unfold six at hY6;dsimp only at hY6;have HY6:=U hY6;clear hY6;go_upto_region 31 with fail
  rw[HY6.o];clear HY6 n0 n1 n2 n3 n4 n5 q0 q1 q2 q3 q4 q5 z0 z1 z2 z3 z4 z5;obtain⟨Y9,HY9,LS,⟨b0,b1,r0,r1,fb0,fb1,fr0,fr1⟩,x0,x1,y0,y1,z0,z1⟩:=tail_at B6.o H0.o.1 ⟨_,_,_,rfl⟩ N6.o 1 (.slice (some ⟨q,0,none⟩) ns.length cpr) (.slice ad n cp) (.slice (some ⟨q,0,none⟩) ns.length cpr) rfl;go_upto_region 32 with fail
  rw[HY9.o];clear HY9 b0 b1 r0 r1 fb0 fb1 fr0 fr1;go_wp2_with fail
  refine bodyPost_ret (v:=.agg #[.slice ad n cp,.slice (some ⟨q,0,none⟩) ns.length cpr]) ?_ rfl ?_
  .simp[results,results36,go_sem,y0,y1]
  .exact⟨_,_,_,_,_,_,rfl,LS.o.1,ybs,LS.o.2.1,ya,LS.o.2.2,z77 HE.o LS.o.2.2 ya⟩
 .have a5:X3.cell? ⟨nb,5,none⟩=some (int i64 kc):=z11 NB4.o 5;go_upto_region 12 with fail
  refine z31 (S:=fun _=>True) ye rfl rfl ?_;have HSd:O (Sp d W X3.drew _ _ _ _ _ _ _):=HS4.o.below Lb.drew;have NBd:O (X3.drew.heap[nb]?=_):=NB4.o;have ad5:X3.drew.cell? ⟨nb,5,none⟩=some (int i64 kc):=a5;clear a5;generalize X3.drew=X5 at*;refine pick_o 0 (.pointer (some ⟨nb,5,none⟩)) trivial ?_;refine pick_o 2 (.pointer (some ⟨d.B,0,none⟩)) trivial ?_;refine z61 (i:=1) (j:=3) ye ?_ ?_
  .refine⟨_,int i64 kc,X5,rfl,rfl,by simp[go_sem,ad5],trivial,?_⟩;refine z25 yg ?_;refine z26 (i:=3) (f:=35) (args:= #[.pointer (some ⟨d.B,0,none⟩),int i64 3]) rfl ye rfl rfl yf ?_;refine zb48 ?_;intro X4 m20 hm20 hM20 HS5 NB5 a5;refine⟨_,rfl,trivial,?_⟩;refine z25 yg ?_;refine pick_o 4 (int i64 (IntKind.i64.wrap (kc+m20))) trivial ?_;refine pick_o 5 (int i64 (IntKind.i64.wrap (IntKind.i64.wrap (kc+m20)-1))) trivial ?_;refine pick_o 6 (.pointer (some ⟨nb,5,none⟩)) trivial ?_;generalize IntKind.i64.wrap (IntKind.i64.wrap (kc+m20)-1)=kc' at*;refine zb79 ?_;intro fz HS7 NB7 Y7 hY7
   rw[hY7]at HS7 NB7;have HY7:=U hY7;clear hY7;have NB8:O (Y7.heap[nb]?=some (.cells #[int i64 kd,int i64 nm,.string sa,.string sb,.string sc,int i64 kc'] 68)):=NB7.o;refine z38 (i:=7) (w1:=Y7) rfl rfl ye rfl rfl ybu trivial ?_;refine z37 ye ?_;go_upto_region 30 with fail
   clear HY7 a5 fz NB7;refine zb93 ?_;intro n0 n1 n2 n3 n4 n5 q' hqa' hcl;simp only[Option.some.injEq,Addr.mk.injEq]at hqa';obtain⟨rfl,-⟩:=hqa';refine zb29 ?_;intro q0 q1 q2 q3 q4 q5 hrf hrc cur hcur z0 z1 z2 z3 z4 z5;simp only[Nat.add_zero]at q0 z0;clear hcl hrf;generalize (ns.getD k default).cell 0=w0 at q0;generalize (ns.getD k default).cell 1=w1 at q1;generalize (ns.getD k default).cell 2=w2 at q2;generalize (ns.getD k default).cell 3=w3 at q3;generalize (ns.getD k default).cell 4=w4 at q4;generalize (ns.getD k default).cell 5=w5 at q5;have hqb:q≠W.heap.size:=fun e=>ybq
   have hqr:q≠W.heap.size+1:=fun e=>ybr
   refine zb56 ?_;intro B6 N6 Y6 hY6;clear hcur hrc hqb hqr;rw[hY6]at B6 N6;unfold six at hY6;dsimp only at hY6;have HY6:=U hY6;clear hY6;go_upto_region 31 with fail
   rw[HY6.o];clear HY6 n0 n1 n2 n3 n4 n5 q0 q1 q2 q3 q4 q5 z0 z1 z2 z3 z4 z5;obtain⟨Y9,HY9,LS,⟨b0,b1,r0,r1,fb0,fb1,fr0,fr1⟩,x0,x1,y0,y1,z0,z1⟩:=tail_at B6.o H0.o.1 ⟨_,_,_,rfl⟩ N6.o 1 (.slice (some ⟨q,0,none⟩) ns.length cpr) (.slice ad n cp) (.slice (some ⟨q,0,none⟩) ns.length cpr) rfl;go_upto_region 32 with fail
   rw[HY9.o];clear HY9 b0 b1 r0 r1 fb0 fb1 fr0 fr1;go_wp2_with fail
   refine bodyPost_ret (v:=.agg #[.slice ad n cp,.slice (some ⟨q,0,none⟩) ns.length cpr]) ?_ rfl ?_
   .simp[results,results36,go_sem,y0,y1]
   .exact⟨_,_,_,_,_,_,rfl,LS.o.1,ybs,LS.o.2.1,ya,LS.o.2.2,z77 HE.o LS.o.2.2 ya⟩
  .refine⟨_,35,#[.pointer (some ⟨d.B,0,none⟩),int i64 3],rfl,rfl,yf,?_⟩;refine zb48 ?_;intro X4 m20 hm20 hM20 HS5 NB5 a5;refine⟨_,rfl,trivial,?_⟩;refine z25 yg ?_;refine z27 (i:=1) (v:=int i64 kc) (w1:=X4) rfl ye rfl rfl (by simp[go_sem,a5]) trivial yg ?_;refine pick_o 4 (int i64 (IntKind.i64.wrap (kc+m20))) trivial ?_;refine pick_o 5 (int i64 (IntKind.i64.wrap (IntKind.i64.wrap (kc+m20)-1))) trivial ?_;refine pick_o 6 (.pointer (some ⟨nb,5,none⟩)) trivial ?_;generalize IntKind.i64.wrap (IntKind.i64.wrap (kc+m20)-1)=kc' at*;refine zb79 ?_;intro fz HS7 NB7 Y7 hY7;rw[hY7]at HS7 NB7
   have HY7:=U hY7;clear hY7;have NB8:O (Y7.heap[nb]?=some (.cells #[int i64 kd,int i64 nm,.string sa,.string sb,.string sc,int i64 kc'] 68)):=NB7.o;refine z38 (i:=7) (w1:=Y7) rfl rfl ye rfl rfl ybu trivial ?_;refine z37 ye ?_;go_upto_region 30 with fail
   clear HY7 a5 fz NB7;refine zb93 ?_;intro n0 n1 n2 n3 n4 n5 q' hqa' hcl;simp only[Option.some.injEq,Addr.mk.injEq]at hqa';obtain⟨rfl,-⟩:=hqa';refine zb29 ?_;intro q0 q1 q2 q3 q4 q5 hrf hrc cur hcur z0 z1 z2 z3 z4 z5;simp only[Nat.add_zero]at q0 z0;clear hcl hrf;generalize (ns.getD k default).cell 0=w0 at q0;generalize (ns.getD k default).cell 1=w1 at q1;generalize (ns.getD k default).cell 2=w2 at q2;generalize (ns.getD k default).cell 3=w3 at q3;generalize (ns.getD k default).cell 4=w4 at q4;generalize (ns.getD k default).cell 5=w5 at q5;have hqb:q≠W.heap.size:=fun e=>ybq
   have hqr:q≠W.heap.size+1:=fun e=>ybr
   refine zb56 ?_;intro B6 N6 Y6 hY6;clear hcur hrc hqb hqr;rw[hY6]at B6 N6;unfold six at hY6;dsimp only at hY6;have HY6:=U hY6;clear hY6;go_upto_region 31 with fail
   rw[HY6.o];clear HY6 n0 n1 n2 n3 n4 n5 q0 q1 q2 q3 q4 q5 z0 z1 z2 z3 z4 z5;obtain⟨Y9,HY9,LS,⟨b0,b1,r0,r1,fb0,fb1,fr0,fr1⟩,x0,x1,y0,y1,z0,z1⟩:=tail_at B6.o H0.o.1 ⟨_,_,_,rfl⟩ N6.o 1 (.slice (some ⟨q,0,none⟩) ns.length cpr) (.slice ad n cp) (.slice (some ⟨q,0,none⟩) ns.length cpr) rfl;go_upto_region 32 with fail
   rw[HY9.o];clear HY9 b0 b1 r0 r1 fb0 fb1 fr0 fr1;go_wp2_with fail
   refine bodyPost_ret (v:=.agg #[.slice ad n cp,.slice (some ⟨q,0,none⟩) ns.length cpr]) ?_ rfl ?_
   .simp[results,results36,go_sem,y0,y1]
   .exact⟨_,_,_,_,_,_,rfl,LS.o.1,ybs,LS.o.2.1,ya,LS.o.2.2,z77 HE.o LS.o.2.2 ya⟩
 .rcases h45 with rfl|rfl
  all_goals
   obtain⟨tn,tk,te1,te2,te3,-⟩:=HT.o.1;obtain⟨e1,he1,hke,hel⟩:=end_in te1 te2 te3 (p:=k) ya;have HTr:=U (Lc te1 (Lc te2 te3));have HNA:=U (nodes_at HS4.o.row ya);have HE1:=U (Lc hke hel);clear te1 te2 te3 hke hel;have HC1:=U (z59 q 0 cpr ns (k:Int) X3 HNA.o ybp);rw[he1]at HC1;clear he1;go_wp2_with fail
   refine HC1.o.mono ?_;rintro e W9 ⟨rfl,rfl⟩;clear HC1;go_wp2_with fail
   refine(z52 HS4.o.rd yv (ns.length:Int) yw).mono ?_;rintro e X4 ⟨m20,rfl,hm20,hM20,hr,hg,-,ho⟩;have HS5:=U (HS4.o.pick hr hg ho);clear hr hg ho;obtain⟨j,rfl⟩:∃j:Nat,m20=(j:Int):=⟨m20.toNat,ya⟩
   obtain⟨f1,hf1,hjf,hfl⟩:=end_in HTr.o.1 HTr.o.2.1 HTr.o.2.2 (p:=j) ya;have HNB:=U (nodes_at HS5.o.row ya);have HC2:=U (z59 q 0 cpr ns (j:Int) X4 HNB.o ybp);rw[hf1]at HC2;clear hf1;go_wp2_with fail
   refine HC2.o.mono ?_;rintro e W9 ⟨rfl,rfl⟩;clear HC2;obtain⟨-,hrc,-,-⟩:=row_fz HS5.o.row;have hkc:(k:Int)<=(cpr:Int):=ya;have hjf':(j:Int)<=(f1:Int):=ya;have hfc:(f1:Int)<=(cpr:Int):=ya;have hel':(e1:Int)<=(ns.length:Int):=by have:=HE1.o;omega
   have he0:(0:Int)<=(e1:Int):=ya;have hj0:(0:Int)<=(j:Int):=ya;go_upto_region 18 with fail
   refine z31 (S:=fun _=>True) ye rfl rfl ?_;have HSd:O (Sp d W X4.drew _ _ _ _ _ _ _):=HS5.o.below Lb.drew;generalize X4.drew=X5 at*;have hk9:¬ cpr<k:=ya;have hf9:f1<=cpr:=ya;have hj9:j<=f1:=ya;have hc9:¬ cpr=j:=ya;have he9:e1<=ns.length:=ya;obtain⟨o3,ho3,hO3⟩:∃o3,(if cpr=e1 then some (⟨q,0,none⟩:Addr) else some ⟨q,e1*6,none⟩)=some ⟨q,o3,none⟩/\(ns.drop e1= []\/o3=e1*6):=by
    by_cases h:cpr=e1
    .exact⟨0,by rw[if_pos h],Or.inl (List.drop_eq_nil_of_le ya)⟩
    .exact⟨e1*6,by rw[if_neg h],Or.inr rfl⟩
   have HO3:=U hO3;clear hO3;refine pick_o 1 (.slice (some ⟨q,0,none⟩) ns.length cpr) trivial ?_;refine pick_o 2 (int i64 (k:Int)) trivial ?_;refine pick_o (hy:=fun w' _=>by simp[go_sem,underlying24,hk9]) 3 (.slice (some ⟨q,0,none⟩) k cpr) trivial ?_;refine pick_o 5 (.slice (some ⟨q,0,none⟩) ns.length cpr) trivial ?_;refine pick_o 6 (int i64 (j:Int)) trivial ?_;refine pick_o 7 (int i64 (f1:Int)) trivial ?_;refine pick_o (hy:=fun w' _=>by simp[go_sem,underlying24,hf9,hj9,hc9]) 8 (.slice (some ⟨q,j*6,none⟩) (f1-j) (cpr-j)) trivial ?_
   refine pick_o 10 (.slice (some ⟨q,0,none⟩) ns.length cpr) trivial ?_;refine pick_o 11 (int i64 (e1:Int)) trivial ?_;refine pick_o (hy:=fun w' _=>by simp[go_sem,underlying24,he9,ho3]) 12 (.slice (some ⟨q,o3,none⟩) (ns.length-e1) (cpr-e1)) trivial ?_;have hl2:((ns.drop j).take (f1-j)).length=f1-j:=by rw[List.length_take,List.length_drop];omega
   have hl3:(ns.drop e1).length=ns.length-e1:=List.length_drop;have hl1:(ns.take k).length=k:=yaw;have HLn:=U (Lc hl1 (Lc hl2 hl3));clear hl1 hl2 hl3 hk9 hf9 hj9 hc9 he9 ho3 hrc hkc hjf' hfc hel' he0;have OW0:=U (made_at (X:=X5) (B:=X5.heap.size) rfl La);have BL0:O (Below X5.heap.size X5 (X5.alloc (.cells #[] 68))):=Lb.alloc La _;refine z27 (i:=0) (v:=.slice (some ⟨X5.heap.size,0,none⟩) 0 0) (w1:=X5.alloc (.cells #[] 68)) rfl ye rfl rfl yf trivial yg ?_;generalize X5.alloc (.cells #[] 68)=Y0 at*
   have HNs:=U (fun(Y:World) (hb:Below X5.heap.size X5 Y)=>(nodes_at (HSd.o.below hb).row ya));obtain⟨v1,Y1,hrun,hown,hgr⟩:=app_off (b:=q) (off:=0) (cap:=cpr) OW0.o (m:=(ns.take k)) (by have h:=nodes_part (k:=0) (l:=ns.take k) (r:=ns.drop k) (HNs.o Y0 BL0.o) (by rw[List.drop_zero,List.take_append_drop]);rwa[Nat.zero_mul]at h) (parts1 HT.o.2.2) BL0.o.size 24;have OW1:=U hown;have BL1:O (Below X5.heap.size X5 Y1):=BL0.o.grown hgr BL0.o.size (fun g hg=>(OW0.o.lt g hg).1);rw[HLn.o.1]at hrun;obtain⟨ad71,cp71,hv1⟩:=g_is hown
   obtain⟨l71,hl71⟩:∃l,(([]:List Nd)++(ns.take k)).length=l:=⟨_,rfl⟩
   rw[hl71]at hv1;subst hv1;clear hown hgr hl71;refine z27 (i:=4) (v:=.slice ad71 l71 cp71) (w1:=Y1) rfl ye rfl rfl (z45 (s:=.tmp 69) (x:=.tmp 72) (t:=24) rfl rfl rfl hrun) trivial yg ?_;clear hrun;obtain⟨v2,Y2,hrun,hown,hgr⟩:=app_off (b:=q) (off:=(j*6)) (cap:=(cpr-j)) OW1.o (m:=((ns.drop j).take (f1-j))) (nodes_part (r:=(ns.drop j).drop (f1-j)) (HNs.o Y1 BL1.o) (by rw[List.take_append_drop])) (parts2 HT.o.2.2) BL1.o.size 24;have OW2:=U hown;have BL2:O (Below X5.heap.size X5 Y2):=BL1.o.grown hgr BL1.o.size (fun g hg=>(OW1.o.lt g hg).1);rw[HLn.o.2.1]at hrun
   obtain⟨ad72,cp72,hv2⟩:=g_is hown;obtain⟨l72,hl72⟩:∃l,((([]:List Nd)++(ns.take k))++((ns.drop j).take (f1-j))).length=l:=⟨_,rfl⟩
   rw[hl72]at hv2;subst hv2;clear hown hgr hl72;refine z27 (i:=9) (v:=.slice ad72 l72 cp72) (w1:=Y2) rfl ye rfl rfl (z45 (s:=.tmp 73) (x:=.tmp 77) (t:=24) rfl rfl rfl hrun) trivial yg ?_;clear hrun;obtain⟨v3,Y3,hrun,hown,hgr⟩:=app_off (b:=q) (off:=o3) (cap:=(cpr-e1)) OW2.o (m:=(ns.drop e1)) (last_part HO3.o (HNs.o Y2 BL2.o)) (parts3 HT.o.2.2) BL2.o.size 24;have OW3:=U hown;have BL3:O (Below X5.heap.size X5 Y3):=BL2.o.grown hgr BL2.o.size (fun g hg=>(OW2.o.lt g hg).1);rw[HLn.o.2.2]at hrun;obtain⟨ad73,cp73,hv3⟩:=g_is hown
   obtain⟨l73,hl73⟩:∃l,(((([]:List Nd)++(ns.take k))++((ns.drop j).take (f1-j)))++(ns.drop e1)).length=l:=⟨_,rfl⟩
   rw[hl73]at hv3;subst hv3;clear hown hgr hl73;refine z27 (i:=13) (v:=.slice ad73 l73 cp73) (w1:=Y3) rfl ye rfl rfl (z45 (s:=.tmp 78) (x:=.tmp 81) (t:=24) rfl rfl rfl hrun) trivial yg ?_;clear hrun;have HSz:=U (HSd.o.below BL3.o);have BX:=U HSz.o.bx;have NT:O (NodesD d Y3 (.slice ad73 l73 cp73) (((([]:List Nd)++(ns.take k))++((ns.drop j).take (f1-j)))++(ns.drop e1))):=⟨lies_owns (f:=Nd.cell) yk OW3.o (by have:=HSd.o.lo;have:=HSd.o.gr.size;omega) (by rw[H0.o.2.2];have:=HSd.o.lo;have:=HSd.o.gr.size;omega),parts_brief HSd.o.sml⟩
   obtain⟨Y9,HY9,LS,⟨b0,b1,r0,r1,fb0,fb1,fr0,fr1⟩,x0,x1,y0,y1,z0,z1⟩:=tail_at BX.o H0.o.1 ⟨_,_,_,rfl⟩ NT.o 1 (.slice ad73 l73 cp73) (.slice ad n cp) (.slice ad73 l73 cp73) rfl;refine pick_o 14 (.pointer (some ⟨W.heap.size,1,none⟩)) trivial ?_;refine z38 (i:=15) (w1:=Y9) rfl rfl ye rfl rfl (by rw[<-HY9.o];simp[go_sem,b1,fb1]) trivial ?_;refine z37 ye ?_;clear HY9 b0 b1 r0 r1 fb0 fb1 fr0 fr1;go_wp2_with fail
   refine bodyPost_ret (v:=.agg #[.slice ad n cp,.slice ad73 l73 cp73]) ?_ rfl ?_
   .simp[results,results36,go_sem,y0,y1]
   .exact⟨_,_,_,_,_,_,rfl,LS.o.1,parts_len HT.o.2.2,LS.o.2.1,ya,LS.o.2.2,z77 HE.o LS.o.2.2 ya⟩
 .obtain⟨ie,hie,he0,he1,he2⟩:=info_parts info_effZ;have HB0:=U HS4.o.bx;go_upto_region 21 with fail
  refine z31 (S:=fun _=>True) (n:=19) (ls:= #[false,false,false,false,false,false,false,false,false,false,false,false,false,false,false,false,false,false,false]) ye rfl ye ?_;have HB:O (Bx d W X3.drew _ _ _ _ _):=bx_low HB0.o Lb.drew;clear HB0;generalize X3.drew=X at*;refine pick_o 1 (.pointer (some ⟨W.heap.size,0,none⟩)) trivial ?_;refine pick_o 5 (.pointer (some ⟨d.B,0,none⟩)) trivial ?_;refine pick_o 9 (.pointer (some ⟨d.B,0,none⟩)) trivial ?_;refine pick_o 11 (.pointer (some ⟨d.B,0,none⟩)) trivial ?_;refine pick_cap ?_;intro L QQ aa HL HQQ HA;clear HS4 NB4 HNb HQ Hm HBm
  have K1111131:O (∀(X:World) (qp:Nat) (HP:O (qp<=p+2+3)) (HB:O (Bx d W X qp (.slice ad n cp) (.slice adt ns.length cpt) W.heap.size (W.heap.size+1))) (qa:Nat) (adb:Option Addr) (lb cpb:Nat) (qc:Nat) (RC:O (X.heap[qc]?=some (.cells fourV 9))) (HQc:O (W.heap.size<=qc)) (m1:Int) (y:ByteArray) (hy:fourV[m1.toNat]?=some (.string y)) (m2:Int) (m3:Int) (qd:Nat) (ade:Option Addr) (le cpe:Nat) (OE:O (X.ownsRow W.heap.size 64 3 (.slice ade le cpe) ((([]:List Ef)++es)++ [(⟨y,m2,1+m3⟩:Ef)]).length (rowZ Ef.cell 3 ((([]:List Ef)++es)++ [(⟨y,m2,1+m3⟩:Ef)])))),wpAnyH prog .any L.toArray (NoPanic QQ) (fun w=>w.cell? ⟨qc,m1.toNat,none⟩=some (.string y)) 2 #[true,true,true,true,true,true,true,true,true,true,true,true,true,true,true,true,true,false,false] (((((((((((((aa.put (some 87) (.slice (some ⟨qa,0,none⟩) 0 0)).put (some 89) (.slice ad n cp)).put (some 90) (.slice adb lb cpb)).put (some 91) (.slice (some ⟨qc,0,none⟩) 4 4)).put (some 93) (int i64 m1)).put (some 94) (.pointer (some ⟨qc,m1.toNat,none⟩))).put (some 95) (.string y)).put (some 97) (int i64 m2)).put (some 99) (int i64 m3)).put (some 100) (int i64 (1+m3))).put (some 101) (.agg #[.string y,int i64 m2,int i64 (1+m3)])).put (some 102) (.slice (some ⟨qd,0,none⟩) 1 1)).put (some 103) (.slice ade le cpe)) X):=by
   refine U (fun X qp HP HB qa adb lb cpb qc RC HQc m1 y hy m2 m3 qd ade le cpe OE=>z50 HL.o HQQ.o ybv ?_);refine pick_o 17 (.pointer (some ⟨W.heap.size,0,none⟩)) ((z11 RC.o m1.toNat).trans hy) ?_;have NT:=U (HN.o.grew HB.o.gr);have hqc:qc≠W.heap.size:=fun e=>by have h:=RC.o;rw[e]at h;have:=h.symm.trans HB.o.box;simp at this
   obtain⟨b0,b1⟩:=fcl2 HB.o.box;obtain⟨r0,r1⟩:=fcl2 HB.o.res;obtain⟨fb0,fb1⟩:=ffz2 HB.o.box;obtain⟨fr0,fr1⟩:=ffz2 HB.o.res;have LS:=U (last_store HB.o H0.o.1 ⟨_,_,_,rfl⟩ NT.o 0 (.slice ade le cpe) (.slice ade le cpe) (.slice adt ns.length cpt));have LE:=U (effs_new (j:=0) (u:=.slice ade le cpe) (u0:=.slice ade le cpe) (u1:=.slice adt ns.length cpt) HB.o ⟨_,_,_,rfl⟩ H0.o.2.2 ⟨HE.o.1.2,HE.o.2⟩ (four_brief hy) OE.o);obtain⟨Y9,hY9⟩:∃Y9,X.setCell ⟨W.heap.size,0,none⟩ (.slice ade le cpe)=Y9:=⟨_,rfl⟩
   have hx9:=z68 (i:=0) (v:=.slice ade le cpe) HB.o.box;have hr9:=(Lg X ⟨W.heap.size,0,none⟩ (.slice ade le cpe) (W.heap.size+1) (by show W.heap.size+1≠W.heap.size;omega)).trans HB.o.res;rw[hY9]at LS LE hx9 hr9;obtain⟨x0,x1⟩:=fcl2 hx9;obtain⟨y0,y1⟩:=fcl2 hr9;obtain⟨z0,z1⟩:=ffz2 hr9;have HY9:=U hY9;have hs9:=(Lj (a:=⟨qc,m1.toNat,none⟩) ((Lg X ⟨W.heap.size,0,none⟩ (.slice ade le cpe) qc hqc))).trans ((z11 RC.o m1.toNat).trans hy);rw[HY9.o]at hs9;clear hY9 hx9 hr9;refine z38 (i:=18) (w1:=Y9) rfl rfl ye rfl rfl (by rw[<-HY9.o];simp[go_sem,b0,fb0]) hs9 ?_;refine z37 ye ?_
   clear hs9 hqc HY9 b0 b1 r0 r1 fb0 fb1 fr0 fr1;go_wp2_with fail
   refine bodyPost_ret (v:=.agg #[.slice ade le cpe,.slice adt ns.length cpt]) ?_ rfl ?_
   .simp[results,results36,go_sem,y0,y1]
   .exact⟨_,_,_,_,ns,_,rfl,LS.o.1,ybp,LS.o.2.1,jf,LS.o.2.2,LE.o⟩
  have K1110131:O (∀(X:World) (qp:Nat) (HP:O (qp<=p+2+3)) (HB:O (Bx d W X qp (.slice ad n cp) (.slice adt ns.length cpt) W.heap.size (W.heap.size+1))) (qa:Nat) (adb:Option Addr) (lb cpb:Nat) (OA:O (X.ownsRow W.heap.size 64 3 (.slice adb lb cpb) (([]:List Ef)++es).length (rowZ Ef.cell 3 (([]:List Ef)++es)))) (qc:Nat) (RC:O (X.heap[qc]?=some (.cells fourV 9))) (HQc:O (W.heap.size<=qc)) (m1:Int) (y:ByteArray) (hy:fourV[m1.toNat]?=some (.string y)) (m2:Int) (m3:Int) (qd:Nat) (RD:O (X.heap[qd]?=some (.cells #[.string y,int i64 m2,int i64 (1+m3)] 64))) (HQd:O (W.heap.size<=qd)),wpAnyH prog .any L.toArray (NoPanic QQ) (fun w=>w.cell? ⟨qc,m1.toNat,none⟩=some (.string y)) 3 #[true,true,true,true,true,true,true,true,true,true,true,true,true,true,true,true,false,false,false] ((((((((((((aa.put (some 87) (.slice (some ⟨qa,0,none⟩) 0 0)).put (some 89) (.slice ad n cp)).put (some 90) (.slice adb lb cpb)).put (some 91) (.slice (some ⟨qc,0,none⟩) 4 4)).put (some 93) (int i64 m1)).put (some 94) (.pointer (some ⟨qc,m1.toNat,none⟩))).put (some 95) (.string y)).put (some 97) (int i64 m2)).put (some 99) (int i64 m3)).put (some 100) (int i64 (1+m3))).put (some 101) (.agg #[.string y,int i64 m2,int i64 (1+m3)])).put (some 102) (.slice (some ⟨qd,0,none⟩) 1 1)) X):=by
   refine U (fun X qp HP HB qa adb lb cpb OA qc RC HQc m1 y hy m2 m3 qd RD HQd=>z50 HL.o HQQ.o ybv ?_);obtain⟨ve2,Z1,hrun,hown,hgr⟩:=app_row (d:=d) gef_one underlying23 hie he0 he1 he2 rfl yk yk OA.o (one_eff RD.o (by have:=HQd.o;have:=HB.o.lo;omega) (by rw[H0.o.2.2];have:=HQd.o;have:=HB.o.lo;omega)) ybw HB.o.gr.size 23;have RC:=U ((hgr.block qc (z13 RC.o) (own_ne OA.o RC.o yk)).trans RC.o);have HB:=U (bx_own HB.o H0.o.1 OA.o hgr);obtain⟨ade,le,cpe,hv⟩:=slice_of hown;subst hv;have OA:=U hown;clear hown hgr
   refine z27 (i:=16) (v:=.slice ade le cpe) (w1:=Z1) rfl ye rfl rfl (z45 (s:=.tmp 90) (x:=.tmp 102) (t:=23) rfl rfl rfl hrun) ((z11 RC.o m1.toNat).trans hy) yg ?_;clear hrun;exact z39 HL.o HQQ.o ye ybx (K1111131.o _ _ (U jf) HB qa adb lb cpb qc RC HQc m1 y hy m2 m3 qd ade le cpe OA)
  have K1110130:O (∀(X:World) (qp:Nat) (HP:O (qp<=p+2+3)) (HB:O (Bx d W X qp (.slice ad n cp) (.slice adt ns.length cpt) W.heap.size (W.heap.size+1))) (qa:Nat) (adb:Option Addr) (lb cpb:Nat) (OA:O (X.ownsRow W.heap.size 64 3 (.slice adb lb cpb) (([]:List Ef)++es).length (rowZ Ef.cell 3 (([]:List Ef)++es)))) (qc:Nat) (RC:O (X.heap[qc]?=some (.cells fourV 9))) (HQc:O (W.heap.size<=qc)) (m1:Int) (y:ByteArray) (hy:fourV[m1.toNat]?=some (.string y)) (m2:Int) (m3:Int),wpAnyH prog .any L.toArray (NoPanic QQ) (fun w=>w.cell? ⟨qc,m1.toNat,none⟩=some (.string y)) 4 #[true,true,true,true,true,true,true,true,true,true,true,true,true,true,true,false,false,false,false] (((((((((((aa.put (some 87) (.slice (some ⟨qa,0,none⟩) 0 0)).put (some 89) (.slice ad n cp)).put (some 90) (.slice adb lb cpb)).put (some 91) (.slice (some ⟨qc,0,none⟩) 4 4)).put (some 93) (int i64 m1)).put (some 94) (.pointer (some ⟨qc,m1.toNat,none⟩))).put (some 95) (.string y)).put (some 97) (int i64 m2)).put (some 99) (int i64 m3)).put (some 100) (int i64 (1+m3))).put (some 101) (.agg #[.string y,int i64 m2,int i64 (1+m3)])) X):=by
   refine U (fun X qp HP HB qa adb lb cpb OA qc RC HQc m1 y hy m2 m3=>z50 HL.o HQQ.o ybv ?_);have bl:Below X.heap.size X (X.alloc (.cells #[.string y,int i64 m2,int i64 (1+m3)] 64)):=Lb.alloc La _;have sz:=HB.o.gr.size;have OA:=U (OA.o.alloc (.cells #[.string y,int i64 m2,int i64 (1+m3)] 64));have RC:=U ((bl.block qc (z13 RC.o)).trans RC.o);have RD:=U (Ld X (.cells #[.string y,int i64 m2,int i64 (1+m3)] 64)).1;have HQd:=U sz;have HB:=U (bx_low HB.o bl);clear bl sz
   refine z27 (i:=15) (v:=.slice (some ⟨X.heap.size,0,none⟩) 1 1) (w1:=X.alloc (.cells #[.string y,int i64 m2,int i64 (1+m3)] 64)) rfl ye rfl rfl yf ((z11 RC.o m1.toNat).trans hy) yg ?_;obtain⟨qd,hq⟩:∃q,X.heap.size=q:=⟨_,rfl⟩
   generalize X.alloc (.cells #[.string y,int i64 m2,int i64 (1+m3)] 64)=Z1 at*;rw[hq]at RD HQd |-;clear hq;exact z39 HL.o HQQ.o ye ybx (K1110131.o _ _ (U jf) HB qa adb lb cpb OA qc RC HQc m1 y hy m2 m3 qd RD HQd)
  have K1110120:O (∀(X:World) (qp:Nat) (HP:O (qp<=p+2+2)) (HB:O (Bx d W X qp (.slice ad n cp) (.slice adt ns.length cpt) W.heap.size (W.heap.size+1))) (qa:Nat) (adb:Option Addr) (lb cpb:Nat) (OA:O (X.ownsRow W.heap.size 64 3 (.slice adb lb cpb) (([]:List Ef)++es).length (rowZ Ef.cell 3 (([]:List Ef)++es)))) (qc:Nat) (RC:O (X.heap[qc]?=some (.cells fourV 9))) (HQc:O (W.heap.size<=qc)) (m1:Int) (y:ByteArray) (hy:fourV[m1.toNat]?=some (.string y)) (m2:Int),wpAnyH prog .any L.toArray (NoPanic QQ) (fun w=>w.cell? ⟨qc,m1.toNat,none⟩=some (.string y)) 7 #[true,true,true,true,true,true,true,true,true,true,true,true,false,false,false,false,false,false,false] ((((((((aa.put (some 87) (.slice (some ⟨qa,0,none⟩) 0 0)).put (some 89) (.slice ad n cp)).put (some 90) (.slice adb lb cpb)).put (some 91) (.slice (some ⟨qc,0,none⟩) 4 4)).put (some 93) (int i64 m1)).put (some 94) (.pointer (some ⟨qc,m1.toNat,none⟩))).put (some 95) (.string y)).put (some 97) (int i64 m2)) X):=by
   refine U (fun X qp HP HB qa adb lb cpb OA qc RC HQc m1 y hy m2=>z50 HL.o HQQ.o ybv ?_);refine z26 (i:=12) (f:=35) (args:= #[.pointer (some ⟨d.B,0,none⟩),int i64 4]) rfl ye rfl rfl yf ?_;refine(z52 HB.o.rd yby 4 yk).mono ?_;rintro e Z1 ⟨m3,rfl,hm3,hM3,hr,hg,-,-⟩;refine zb69 ?_;intro OA RC HB;clear hr hg;refine⟨_,rfl,((z11 RC.o m1.toNat).trans hy),?_⟩;refine z25 yg ?_;have hwr:IntKind.i64.wrap (1+m3)=1+m3:=ym;refine pick_o (hy:=fun w' hw=>nx) 13 (int i64 (1+m3)) ((z11 RC.o m1.toNat).trans hy) ?_;clear hwr
   refine pick_o 14 (.agg #[.string y,int i64 m2,int i64 (1+m3)]) ((z11 RC.o m1.toNat).trans hy) ?_;exact z39 HL.o HQQ.o ye ybx (K1110130.o _ _ (U jf) HB qa adb lb cpb OA qc RC HQc m1 y hy m2 m3)
  have K1110030:O (∀(X:World) (qp:Nat) (HP:O (qp<=p+2+3)) (HB:O (Bx d W X qp (.slice ad n cp) (.slice adt ns.length cpt) W.heap.size (W.heap.size+1))) (qa:Nat) (adb:Option Addr) (lb cpb:Nat) (OA:O (X.ownsRow W.heap.size 64 3 (.slice adb lb cpb) (([]:List Ef)++es).length (rowZ Ef.cell 3 (([]:List Ef)++es)))) (m1:Int) (hm1:0<=m1) (hM1:m1<4) (m2:Int) (m3:Int),wpAnyH prog .any L.toArray (NoPanic QQ) (fun _=>True) 8 #[true,true,true,true,false,true,true,false,false,true,true,true,true,true,false,false,false,false,false] (((((((aa.put (some 87) (.slice (some ⟨qa,0,none⟩) 0 0)).put (some 89) (.slice ad n cp)).put (some 90) (.slice adb lb cpb)).put (some 93) (int i64 m1)).put (some 97) (int i64 m2)).put (some 99) (int i64 m3)).put (some 100) (int i64 (1+m3))) X):=by
   refine U (fun X qp HP HB qa adb lb cpb OA m1 hm1 hM1 m2 m3=>z50 HL.o HQQ.o ybv ?_);have bl:Below X.heap.size X (X.alloc (.cells fourV 9)):=Lb.alloc La _;have sz:=HB.o.gr.size;have OA:=U (OA.o.alloc (.cells fourV 9));have RC:=U (Ld X (.cells fourV 9)).1;have HQc:=U sz;have HB:=U (bx_low HB.o bl);clear bl sz;refine z27 (i:=4) (v:=.slice (some ⟨X.heap.size,0,none⟩) 4 4) (w1:=X.alloc (.cells fourV 9)) rfl ye rfl rfl yn trivial yg ?_;obtain⟨qc,hq⟩:∃q,X.heap.size=q:=⟨_,rfl⟩
   generalize X.alloc (.cells fourV 9)=Z1 at*;rw[hq]at RC HQc |-;clear hq;obtain⟨y,-,hy⟩:=four_get m1 hm1 hM1;refine pick_o (hy:=fun w' hw=>ybz) 7 (.pointer (some ⟨qc,m1.toNat,none⟩)) trivial ?_;refine z54 (fun w=>w.cell? ⟨qc,m1.toNat,none⟩=some (.string y)) (fun _ _=>trivial) ?_;refine pick_o (hy:=fun w' hw=>ut) 8 (.string y) ((z11 RC.o m1.toNat).trans hy) ?_;refine pick_o 14 (.agg #[.string y,int i64 m2,int i64 (1+m3)]) ((z11 RC.o m1.toNat).trans hy) ?_;exact z39 HL.o HQQ.o ye ybx (K1110130.o _ _ (U jf) HB qa adb lb cpb OA qc RC HQc m1 y hy m2 m3)
  have K1110110:O (∀(X:World) (qp:Nat) (HP:O (qp<=p+2+1)) (HB:O (Bx d W X qp (.slice ad n cp) (.slice adt ns.length cpt) W.heap.size (W.heap.size+1))) (qa:Nat) (adb:Option Addr) (lb cpb:Nat) (OA:O (X.ownsRow W.heap.size 64 3 (.slice adb lb cpb) (([]:List Ef)++es).length (rowZ Ef.cell 3 (([]:List Ef)++es)))) (qc:Nat) (RC:O (X.heap[qc]?=some (.cells fourV 9))) (HQc:O (W.heap.size<=qc)) (m1:Int) (y:ByteArray) (hy:fourV[m1.toNat]?=some (.string y)),wpAnyH prog .any L.toArray (NoPanic QQ) (fun w=>w.cell? ⟨qc,m1.toNat,none⟩=some (.string y)) 8 #[true,true,true,true,true,true,true,true,true,true,false,true,false,false,false,false,false,false,false] (((((((aa.put (some 87) (.slice (some ⟨qa,0,none⟩) 0 0)).put (some 89) (.slice ad n cp)).put (some 90) (.slice adb lb cpb)).put (some 91) (.slice (some ⟨qc,0,none⟩) 4 4)).put (some 93) (int i64 m1)).put (some 94) (.pointer (some ⟨qc,m1.toNat,none⟩))).put (some 95) (.string y)) X):=by
   refine U (fun X qp HP HB qa adb lb cpb OA qc RC HQc m1 y hy=>z50 HL.o HQQ.o ybv ?_);refine z26 (i:=10) (f:=35) (args:= #[.pointer (some ⟨d.B,0,none⟩),int i64 6]) rfl ye rfl rfl yf ?_;refine(z52 HB.o.rd yby 6 yk).mono ?_;rintro e Z1 ⟨m2,rfl,hm2,hM2,hr,hg,-,-⟩;refine zb69 ?_;intro OA RC HB;clear hr hg;refine⟨_,rfl,((z11 RC.o m1.toNat).trans hy),?_⟩;refine z25 yg ?_;exact z39 HL.o HQQ.o ye ybx (K1110120.o _ _ (U jf) HB qa adb lb cpb OA qc RC HQc m1 y hy m2)
  have K1110020:O (∀(X:World) (qp:Nat) (HP:O (qp<=p+2+2)) (HB:O (Bx d W X qp (.slice ad n cp) (.slice adt ns.length cpt) W.heap.size (W.heap.size+1))) (qa:Nat) (adb:Option Addr) (lb cpb:Nat) (OA:O (X.ownsRow W.heap.size 64 3 (.slice adb lb cpb) (([]:List Ef)++es).length (rowZ Ef.cell 3 (([]:List Ef)++es)))) (m1:Int) (hm1:0<=m1) (hM1:m1<4) (m2:Int),wpAnyH prog .any L.toArray (NoPanic QQ) (fun _=>True) 10 #[true,true,true,true,false,true,true,false,false,true,true,true,false,false,false,false,false,false,false] (((((aa.put (some 87) (.slice (some ⟨qa,0,none⟩) 0 0)).put (some 89) (.slice ad n cp)).put (some 90) (.slice adb lb cpb)).put (some 93) (int i64 m1)).put (some 97) (int i64 m2)) X):=by
   refine U (fun X qp HP HB qa adb lb cpb OA m1 hm1 hM1 m2=>z50 HL.o HQQ.o ybv ?_);refine pick_two (i:=4) (j:=12) ye ?_ ?_
   .have bl:Below X.heap.size X (X.alloc (.cells fourV 9)):=Lb.alloc La _;refine zb17 ?_;intro OA RC HQc HB qc hq;clear bl;generalize X.alloc (.cells fourV 9)=Z1 at*;rw[hq]at RC HQc |-;clear hq;obtain⟨y,-,hy⟩:=four_get m1 hm1 hM1;refine pick_o (hy:=fun w' hw=>ybz) 7 (.pointer (some ⟨qc,m1.toNat,none⟩)) trivial ?_;refine z54 (fun w=>w.cell? ⟨qc,m1.toNat,none⟩=some (.string y)) (fun _ _=>trivial) ?_;refine pick_o (hy:=fun w' hw=>ut) 8 (.string y) ((z11 RC.o m1.toNat).trans hy) ?_;exact z39 HL.o HQQ.o ye ybx (K1110120.o _ _ (U jf) HB qa adb lb cpb OA qc RC HQc m1 y hy m2)
   .refine Or.inr ⟨_,35,#[.pointer (some ⟨d.B,0,none⟩),int i64 4],rfl,rfl,yf,?_⟩;refine(z52 HB.o.rd yby 4 yk).mono ?_;rintro e Z1 ⟨m3,rfl,hm3,hM3,hr,hg,-,-⟩;have OA:=U (g_grew OA.o HB.o.lo.1 zg hg);have HB:=U (bx_pick HB.o hr hg H0.o.2.2);clear hr hg;refine⟨_,rfl,trivial,?_⟩;refine z25 yg ?_;have hwr:IntKind.i64.wrap (1+m3)=1+m3:=ym;refine pick_o (hy:=fun w' hw=>nx) 13 (int i64 (1+m3)) trivial ?_;clear hwr;exact z39 HL.o HQQ.o ye ybx (K1110030.o _ _ (U jf) HB qa adb lb cpb OA m1 hm1 hM1 m2 m3)
  have K1110100:O (∀(X:World) (qp:Nat) (HP:O (qp<=p+2+0)) (HB:O (Bx d W X qp (.slice ad n cp) (.slice adt ns.length cpt) W.heap.size (W.heap.size+1))) (qa:Nat) (adb:Option Addr) (lb cpb:Nat) (OA:O (X.ownsRow W.heap.size 64 3 (.slice adb lb cpb) (([]:List Ef)++es).length (rowZ Ef.cell 3 (([]:List Ef)++es)))) (qc:Nat) (RC:O (X.heap[qc]?=some (.cells fourV 9))) (HQc:O (W.heap.size<=qc)),wpAnyH prog .any L.toArray (NoPanic QQ) (fun _=>True) 11 #[true,true,true,true,true,true,false,false,false,true,false,true,false,false,false,false,false,false,false] ((((aa.put (some 87) (.slice (some ⟨qa,0,none⟩) 0 0)).put (some 89) (.slice ad n cp)).put (some 90) (.slice adb lb cpb)).put (some 91) (.slice (some ⟨qc,0,none⟩) 4 4)) X):=by
   refine U (fun X qp HP HB qa adb lb cpb OA qc RC HQc=>z50 HL.o HQQ.o ybv ?_);refine z26 (i:=6) (f:=35) (args:= #[.pointer (some ⟨d.B,0,none⟩),int i64 4]) rfl ye rfl rfl yf ?_;refine(z52 HB.o.rd yby 4 yk).mono ?_;rintro e Z1 ⟨m1,rfl,hm1,hM1,hr,hg,-,-⟩;refine zb69 ?_;intro OA RC HB;clear hr hg;refine⟨_,rfl,trivial,?_⟩;refine z25 yg ?_;obtain⟨y,-,hy⟩:=four_get m1 hm1 hM1;refine pick_o (hy:=fun w' hw=>ybz) 7 (.pointer (some ⟨qc,m1.toNat,none⟩)) trivial ?_;refine z54 (fun w=>w.cell? ⟨qc,m1.toNat,none⟩=some (.string y)) (fun _ _=>trivial) ?_
   refine pick_o (hy:=fun w' hw=>ut) 8 (.string y) ((z11 RC.o m1.toNat).trans hy) ?_;exact z39 HL.o HQQ.o ye ybx (K1110110.o _ _ (U jf) HB qa adb lb cpb OA qc RC HQc m1 y hy)
  have K1110010:O (∀(X:World) (qp:Nat) (HP:O (qp<=p+2+1)) (HB:O (Bx d W X qp (.slice ad n cp) (.slice adt ns.length cpt) W.heap.size (W.heap.size+1))) (qa:Nat) (adb:Option Addr) (lb cpb:Nat) (OA:O (X.ownsRow W.heap.size 64 3 (.slice adb lb cpb) (([]:List Ef)++es).length (rowZ Ef.cell 3 (([]:List Ef)++es)))) (m1:Int) (hm1:0<=m1) (hM1:m1<4),wpAnyH prog .any L.toArray (NoPanic QQ) (fun _=>True) 11 #[true,true,true,true,false,true,true,false,false,true,false,true,false,false,false,false,false,false,false] ((((aa.put (some 87) (.slice (some ⟨qa,0,none⟩) 0 0)).put (some 89) (.slice ad n cp)).put (some 90) (.slice adb lb cpb)).put (some 93) (int i64 m1)) X):=by
   refine U (fun X qp HP HB qa adb lb cpb OA m1 hm1 hM1=>z50 HL.o HQQ.o ybv ?_);refine pick_two (i:=4) (j:=10) ye ?_ ?_
   .have bl:Below X.heap.size X (X.alloc (.cells fourV 9)):=Lb.alloc La _;refine zb17 ?_;intro OA RC HQc HB qc hq;clear bl;generalize X.alloc (.cells fourV 9)=Z1 at*;rw[hq]at RC HQc |-;clear hq;obtain⟨y,-,hy⟩:=four_get m1 hm1 hM1;refine pick_o (hy:=fun w' hw=>ybz) 7 (.pointer (some ⟨qc,m1.toNat,none⟩)) trivial ?_;refine z54 (fun w=>w.cell? ⟨qc,m1.toNat,none⟩=some (.string y)) (fun _ _=>trivial) ?_;refine pick_o (hy:=fun w' hw=>ut) 8 (.string y) ((z11 RC.o m1.toNat).trans hy) ?_;exact z39 HL.o HQQ.o ye ybx (K1110110.o _ _ (U jf) HB qa adb lb cpb OA qc RC HQc m1 y hy)
   .refine Or.inr ⟨_,35,#[.pointer (some ⟨d.B,0,none⟩),int i64 6],rfl,rfl,yf,?_⟩;refine(z52 HB.o.rd yby 6 yk).mono ?_;rintro e Z1 ⟨m2,rfl,hm2,hM2,hr,hg,-,-⟩;have OA:=U (g_grew OA.o HB.o.lo.1 zg hg);have HB:=U (bx_pick HB.o hr hg H0.o.2.2);clear hr hg;refine⟨_,rfl,trivial,?_⟩;refine z25 yg ?_;exact z39 HL.o HQQ.o ye ybx (K1110020.o _ _ (U jf) HB qa adb lb cpb OA m1 hm1 hM1 m2)
  have K1100100:O (∀(X:World) (qp:Nat) (HP:O (qp<=p+2+0)) (HB:O (Bx d W X qp (.slice ad n cp) (.slice adt ns.length cpt) W.heap.size (W.heap.size+1))) (qa:Nat) (OA:O (X.ownsRow W.heap.size 64 3 (.slice (some ⟨qa,0,none⟩) 0 0) ([]:List Ef).length (rowZ Ef.cell 3 []))) (qc:Nat) (RC:O (X.heap[qc]?=some (.cells fourV 9))) (HQc:O (W.heap.size<=qc)),wpAnyH prog .any L.toArray (NoPanic QQ) (fun _=>True) 12 #[true,true,true,false,true,true,false,false,false,true,false,true,false,false,false,false,false,false,false] (((aa.put (some 87) (.slice (some ⟨qa,0,none⟩) 0 0)).put (some 89) (.slice ad n cp)).put (some 91) (.slice (some ⟨qc,0,none⟩) 4 4)) X):=by
   refine U (fun X qp HP HB qa OA qc RC HQc=>z50 HL.o HQQ.o ybv ?_);obtain⟨vb,Z1,hrun,hown,hgr⟩:=app_row (d:=d) gef_one underlying23 hie he0 he1 he2 rfl yk yk OA.o (HE.o.1.1.grew HB.o.gr) ybw HB.o.gr.size 23;have RC:=U ((hgr.block qc (z13 RC.o) (own_ne OA.o RC.o yk)).trans RC.o);have HB:=U (bx_own HB.o H0.o.1 OA.o hgr);obtain⟨adb,lb,cpb,hv⟩:=slice_of hown;subst hv;have OA:=U hown;clear hown hgr;refine z27 (i:=3) (v:=.slice adb lb cpb) (w1:=Z1) rfl ye rfl rfl (z45 (s:=.tmp 87) (x:=.tmp 89) (t:=23) rfl rfl rfl hrun) trivial yg ?_;clear hrun
   exact z39 HL.o HQQ.o ye ybx (K1110100.o _ _ HP HB qa adb lb cpb OA qc RC HQc)
  have K1110000:O (∀(X:World) (qp:Nat) (HP:O (qp<=p+2+0)) (HB:O (Bx d W X qp (.slice ad n cp) (.slice adt ns.length cpt) W.heap.size (W.heap.size+1))) (qa:Nat) (adb:Option Addr) (lb cpb:Nat) (OA:O (X.ownsRow W.heap.size 64 3 (.slice adb lb cpb) (([]:List Ef)++es).length (rowZ Ef.cell 3 (([]:List Ef)++es)))),wpAnyH prog .any L.toArray (NoPanic QQ) (fun _=>True) 12 #[true,true,true,true,false,true,false,false,false,true,false,true,false,false,false,false,false,false,false] (((aa.put (some 87) (.slice (some ⟨qa,0,none⟩) 0 0)).put (some 89) (.slice ad n cp)).put (some 90) (.slice adb lb cpb)) X):=by
   refine U (fun X qp HP HB qa adb lb cpb OA=>z50 HL.o HQQ.o ybv ?_);refine pick_two (i:=4) (j:=6) ye ?_ ?_
   .have bl:Below X.heap.size X (X.alloc (.cells fourV 9)):=Lb.alloc La _;refine zb17 ?_;intro OA RC HQc HB qc hq;clear bl;generalize X.alloc (.cells fourV 9)=Z1 at*;rw[hq]at RC HQc |-;clear hq;exact z39 HL.o HQQ.o ye ybx (K1110100.o _ _ HP HB qa adb lb cpb OA qc RC HQc)
   .refine Or.inr ⟨_,35,#[.pointer (some ⟨d.B,0,none⟩),int i64 4],rfl,rfl,yf,?_⟩;refine(z52 HB.o.rd yby 4 yk).mono ?_;rintro e Z1 ⟨m1,rfl,hm1,hM1,hr,hg,-,-⟩;have OA:=U (g_grew OA.o HB.o.lo.1 zg hg);have HB:=U (bx_pick HB.o hr hg H0.o.2.2);clear hr hg;refine⟨_,rfl,trivial,?_⟩;refine z25 yg ?_;exact z39 HL.o HQQ.o ye ybx (K1110010.o _ _ (U jf) HB qa adb lb cpb OA m1 hm1 hM1)
  have K1100000:O (∀(X:World) (qp:Nat) (HP:O (qp<=p+2+0)) (HB:O (Bx d W X qp (.slice ad n cp) (.slice adt ns.length cpt) W.heap.size (W.heap.size+1))) (qa:Nat) (OA:O (X.ownsRow W.heap.size 64 3 (.slice (some ⟨qa,0,none⟩) 0 0) ([]:List Ef).length (rowZ Ef.cell 3 []))),wpAnyH prog .any L.toArray (NoPanic QQ) (fun _=>True) 13 #[true,true,true,false,false,true,false,false,false,true,false,true,false,false,false,false,false,false,false] ((aa.put (some 87) (.slice (some ⟨qa,0,none⟩) 0 0)).put (some 89) (.slice ad n cp)) X):=by
   refine U (fun X qp HP HB qa OA=>z50 HL.o HQQ.o ybv ?_);refine pick_two (i:=3) (j:=4) ye ?_ ?_
   .obtain⟨vb,Z1,hrun,hown,hgr⟩:=app_row (d:=d) gef_one underlying23 hie he0 he1 he2 rfl yk yk OA.o (HE.o.1.1.grew HB.o.gr) ybw HB.o.gr.size 23;have HB:=U (bx_own HB.o H0.o.1 OA.o hgr);obtain⟨adb,lb,cpb,hv⟩:=slice_of hown;subst hv;have OA:=U hown;clear hown hgr;refine Or.inl ⟨_,.slice adb lb cpb,Z1,rfl,rfl,z45 (s:=.tmp 87) (x:=.tmp 89) (t:=23) rfl rfl rfl hrun,trivial,?_⟩;refine z25 yg ?_;clear hrun;exact z39 HL.o HQQ.o ye ybx (K1110000.o _ _ HP HB qa adb lb cpb OA)
   .have bl:Below X.heap.size X (X.alloc (.cells fourV 9)):=Lb.alloc La _;refine zb17 ?_;intro OA RC HQc HB qc hq;clear bl;generalize X.alloc (.cells fourV 9)=Z1 at*;rw[hq]at RC HQc |-;clear hq;exact z39 HL.o HQQ.o ye ybx (K1100100.o _ _ HP HB qa OA qc RC HQc)
  have K0100100:O (∀(X:World) (qp:Nat) (HP:O (qp<=p+2+0)) (HB:O (Bx d W X qp (.slice ad n cp) (.slice adt ns.length cpt) W.heap.size (W.heap.size+1))) (qc:Nat) (RC:O (X.heap[qc]?=some (.cells fourV 9))) (HQc:O (W.heap.size<=qc)),wpAnyH prog .any L.toArray (NoPanic QQ) (fun _=>True) 13 #[false,true,true,false,true,true,false,false,false,true,false,true,false,false,false,false,false,false,false] ((aa.put (some 89) (.slice ad n cp)).put (some 91) (.slice (some ⟨qc,0,none⟩) 4 4)) X):=by
   refine U (fun X qp HP HB qc RC HQc=>z50 HL.o HQQ.o ybv ?_);have bl:Below X.heap.size X (X.alloc (.cells #[] 64)):=Lb.alloc La _;have sz:=HB.o.gr.size;have RC:=U ((bl.block qc (z13 RC.o)).trans RC.o);have OA:=U (effs_made (X:=X) (B:=W.heap.size) sz);have HB:=U (bx_low HB.o bl);clear bl sz;refine z27 (i:=0) (v:=.slice (some ⟨X.heap.size,0,none⟩) 0 0) (w1:=X.alloc (.cells #[] 64)) rfl ye rfl rfl yf trivial yg ?_;obtain⟨qa,hq⟩:∃q,X.heap.size=q:=⟨_,rfl⟩
   generalize X.alloc (.cells #[] 64)=Z1 at*;rw[hq]at OA |-;clear hq;exact z39 HL.o HQQ.o ye ybx (K1100100.o _ _ HP HB qa OA qc RC HQc)
  have K1000100:O (∀(X:World) (qp:Nat) (HP:O (qp<=p+2+0)) (HB:O (Bx d W X qp (.slice ad n cp) (.slice adt ns.length cpt) W.heap.size (W.heap.size+1))) (qa:Nat) (OA:O (X.ownsRow W.heap.size 64 3 (.slice (some ⟨qa,0,none⟩) 0 0) ([]:List Ef).length (rowZ Ef.cell 3 []))) (qc:Nat) (RC:O (X.heap[qc]?=some (.cells fourV 9))) (HQc:O (W.heap.size<=qc)),wpAnyH prog .any L.toArray (NoPanic QQ) (fun _=>True) 13 #[true,true,false,false,true,true,false,false,false,true,false,true,false,false,false,false,false,false,false] ((aa.put (some 87) (.slice (some ⟨qa,0,none⟩) 0 0)).put (some 91) (.slice (some ⟨qc,0,none⟩) 4 4)) X):=by
   refine U (fun X qp HP HB qa OA qc RC HQc=>z50 HL.o HQQ.o ybv ?_);have hb0:=z11 HB.o.box 0;refine z27 (i:=2) (v:=.slice ad n cp) (w1:=X) rfl ye rfl rfl (by simp[go_sem,hb0]) trivial yg ?_;clear hb0;exact z39 HL.o HQQ.o ye ybx (K1100100.o _ _ HP HB qa OA qc RC HQc)
  have K0100000:O (∀(X:World) (qp:Nat) (HP:O (qp<=p+2+0)) (HB:O (Bx d W X qp (.slice ad n cp) (.slice adt ns.length cpt) W.heap.size (W.heap.size+1))),wpAnyH prog .any L.toArray (NoPanic QQ) (fun _=>True) 14 #[false,true,true,false,false,true,false,false,false,true,false,true,false,false,false,false,false,false,false] (aa.put (some 89) (.slice ad n cp)) X):=by
   refine U (fun X qp HP HB=>z50 HL.o HQQ.o ybv ?_);refine pick_two (i:=0) (j:=4) ye ?_ ?_
   .have bl:Below X.heap.size X (X.alloc (.cells #[] 64)):=Lb.alloc La _;refine zb41 ?_;intro OA HB qa hq;clear bl;generalize X.alloc (.cells #[] 64)=Z1 at*;rw[hq]at OA |-;clear hq;exact z39 HL.o HQQ.o ye ybx (K1100000.o _ _ HP HB qa OA)
   .have bl:Below X.heap.size X (X.alloc (.cells fourV 9)):=Lb.alloc La _;refine zb31 ?_;intro RC HQc HB qc hq;clear bl;generalize X.alloc (.cells fourV 9)=Z1 at*;rw[hq]at RC HQc |-;clear hq;exact z39 HL.o HQQ.o ye ybx (K0100100.o _ _ HP HB qc RC HQc)
  have K1000000:O (∀(X:World) (qp:Nat) (HP:O (qp<=p+2+0)) (HB:O (Bx d W X qp (.slice ad n cp) (.slice adt ns.length cpt) W.heap.size (W.heap.size+1))) (qa:Nat) (OA:O (X.ownsRow W.heap.size 64 3 (.slice (some ⟨qa,0,none⟩) 0 0) ([]:List Ef).length (rowZ Ef.cell 3 []))),wpAnyH prog .any L.toArray (NoPanic QQ) (fun _=>True) 14 #[true,true,false,false,false,true,false,false,false,true,false,true,false,false,false,false,false,false,false] (aa.put (some 87) (.slice (some ⟨qa,0,none⟩) 0 0)) X):=by
   refine U (fun X qp HP HB qa OA=>z50 HL.o HQQ.o ybv ?_);refine pick_two (i:=2) (j:=4) ye ?_ ?_
   .have hb0:=z11 HB.o.box 0;refine zb90 ?_;clear hb0;exact z39 HL.o HQQ.o ye ybx (K1100000.o _ _ HP HB qa OA)
   .have bl:Below X.heap.size X (X.alloc (.cells fourV 9)):=Lb.alloc La _;refine zb17 ?_;intro OA RC HQc HB qc hq;clear bl;generalize X.alloc (.cells fourV 9)=Z1 at*;rw[hq]at RC HQc |-;clear hq;exact z39 HL.o HQQ.o ye ybx (K1000100.o _ _ HP HB qa OA qc RC HQc)
  have K0000100:O (∀(X:World) (qp:Nat) (HP:O (qp<=p+2+0)) (HB:O (Bx d W X qp (.slice ad n cp) (.slice adt ns.length cpt) W.heap.size (W.heap.size+1))) (qc:Nat) (RC:O (X.heap[qc]?=some (.cells fourV 9))) (HQc:O (W.heap.size<=qc)),wpAnyH prog .any L.toArray (NoPanic QQ) (fun _=>True) 14 #[false,true,false,false,true,true,false,false,false,true,false,true,false,false,false,false,false,false,false] (aa.put (some 91) (.slice (some ⟨qc,0,none⟩) 4 4)) X):=by
   refine U (fun X qp HP HB qc RC HQc=>z50 HL.o HQQ.o ybv ?_);refine pick_two (i:=0) (j:=2) ye ?_ ?_
   .have bl:Below X.heap.size X (X.alloc (.cells #[] 64)):=Lb.alloc La _;have sz:=HB.o.gr.size;have RC:=U ((bl.block qc (z13 RC.o)).trans RC.o);have OA:=U (effs_made (X:=X) (B:=W.heap.size) sz);have HB:=U (bx_low HB.o bl);clear bl sz;refine Or.inl ⟨_,.slice (some ⟨X.heap.size,0,none⟩) 0 0,X.alloc (.cells #[] 64),rfl,rfl,yf,trivial,?_⟩;refine z25 yg ?_;obtain⟨qa,hq⟩:∃q,X.heap.size=q:=⟨_,rfl⟩
    generalize X.alloc (.cells #[] 64)=Z1 at*;rw[hq]at OA |-;clear hq;exact z39 HL.o HQQ.o ye ybx (K1000100.o _ _ HP HB qa OA qc RC HQc)
   .have hb0:=z11 HB.o.box 0;refine zb90 ?_;clear hb0;exact z39 HL.o HQQ.o ye ybx (K0100100.o _ _ HP HB qc RC HQc)
  refine z50 HL.o HQQ.o HA.o ?_;have HP:=U (show p+1+1<=p+2+0 by omega);refine pick_three (i:=0) (j:=2) (k:=4) ye ?_ ?_ ?_
  .have bl:Below X.heap.size X (X.alloc (.cells #[] 64)):=Lb.alloc La _;refine zb41 ?_;intro OA HB qa hq;clear bl;generalize X.alloc (.cells #[] 64)=Z1 at*;rw[hq]at OA |-;clear hq;exact z39 HL.o HQQ.o ye ybx (K1000000.o _ _ HP HB qa OA)
  .have hb0:=z11 HB.o.box 0;refine zb90 ?_;clear hb0;exact z39 HL.o HQQ.o ye ybx (K0100000.o _ _ HP HB)
  .have bl:Below X.heap.size X (X.alloc (.cells fourV 9)):=Lb.alloc La _;refine zb31 ?_;intro RC HQc HB qc hq;clear bl;generalize X.alloc (.cells fourV 9)=Z1 at*;rw[hq]at RC HQc |-;clear hq;exact z39 HL.o HQQ.o ye ybx (K0000100.o _ _ HP HB qc RC HQc)
 .obtain⟨-,hrc,-,-⟩:=row_fz HS4.o.row;have hkc:(k:Int)<=(cpr:Int):=ya;clear hrc;have NT:=U (row_take (d:=d) (k:=k) HS4.o.row HS4.o.lo.1 (by rw[H0.o.2.2];exact HS4.o.lo.1) ya ya HS4.o.sml);have BX:=U HS4.o.bx;obtain⟨Y9,HY9,LS,⟨b0,b1,r0,r1,fb0,fb1,fr0,fr1⟩,x0,x1,y0,y1,z0,z1⟩:=tail_at BX.o H0.o.1 ⟨_,_,_,rfl⟩ NT.o 1 (.slice (some ⟨q,0,none⟩) k cpr) (.slice ad n cp) (.slice (some ⟨q,0,none⟩) k cpr) rfl;go_upto_region 26 with fail
  rw[HY9.o];clear HY9 b0 b1 r0 r1 fb0 fb1 fr0 fr1;go_wp2_with fail
  refine bodyPost_ret (v:=.agg #[.slice ad n cp,.slice (some ⟨q,0,none⟩) k cpr]) ?_ rfl ?_
  .simp[results,results36,go_sem,y0,y1]
  .exact⟨_,_,_,_,_,_,rfl,LS.o.1,by rw[List.length_take];have:=HT.o.2;omega,LS.o.2.1,ya,LS.o.2.2,z77 HE.o LS.o.2.2 ya⟩
 ·have BX:=U HS4.o.bx;have NT:=U (HN.o.grew HS4.o.gr);have hec:(ad=none/\n=0/\cp=0)\/(∃b off,ad=some ⟨b,off,none⟩)/\n<=cp:=by
   rcases HE.o.1.1 with ⟨h1,h2⟩|⟨b,off,cap,h1,h2,-⟩
   .cases h1;exact Or.inl ⟨rfl,rfl,rfl⟩
   .simp only[Value.slice.injEq]at h1;obtain⟨rfl,rfl,rfl⟩:=h1;exact Or.inr ⟨⟨b,off,rfl⟩,h2⟩
  rcases hec with ⟨rfl,rfl,rfl⟩|⟨⟨eb,eo,rfl⟩,hnc⟩
  .obtain⟨Y9,HY9,LS,⟨b0,b1,r0,r1,fb0,fb1,fr0,fr1⟩,x0,x1,y0,y1,z0,z1⟩:=tail_at BX.o H0.o.1 ⟨_,_,_,rfl⟩ NT.o 0 (.slice none 0 0) (.slice none 0 0) (.slice adt ns.length cpt) rfl;go_upto_region 29 with fail
   rw[HY9.o];clear HY9 b0 b1 r0 r1 fb0 fb1 fr0 fr1;go_wp2_with fail
   refine bodyPost_ret (v:=.agg #[.slice none 0 0,.slice adt ns.length cpt]) ?_ rfl ?_
   .simp[results,results36,go_sem,y0,y1]
   .exact⟨_,_,_,_,ns,_,rfl,LS.o.1,ybp,LS.o.2.1,ya,LS.o.2.2,z77 HE.o LS.o.2.2 ya⟩
  ·have hn4:n<=4:=by
    rcases HE.o.1.1 with ⟨h1,h2⟩|⟨b,off,cap,h1,h2,-⟩
    .cases h1
    .simp only[Value.slice.injEq]at h1;have:=h1.2.1;have:=HE.o.2;omega
   have hn5:n=0\/n=1\/n=2\/n=3\/n=4:=ya;clear hn4;rcases hn5 with rfl|rfl|rfl|rfl|rfl
   .have hn2:(0:Int)<=(cp:Int):=by omega
    obtain⟨Y9,HY9,LS,⟨b0,b1,r0,r1,fb0,fb1,fr0,fr1⟩,x0,x1,y0,y1,z0,z1⟩:=tail_at BX.o H0.o.1 ⟨_,_,_,rfl⟩ NT.o 0 (.slice (some ⟨eb,eo,none⟩) 0 cp) (.slice (some ⟨eb,eo,none⟩) 0 cp) (.slice adt ns.length cpt) rfl;go_upto_region 29 with fail
    rw[HY9.o];clear HY9 b0 b1 r0 r1 fb0 fb1 fr0 fr1;go_wp2_with fail
    refine bodyPost_ret (v:=.agg #[.slice (some ⟨eb,eo,none⟩) 0 cp,.slice adt ns.length cpt]) ?_ rfl ?_
    .simp[results,results36,go_sem,y0,y1]
    .exact⟨_,_,_,_,ns,_,rfl,LS.o.1,ybp,LS.o.2.1,ya,LS.o.2.2,z77 HE.o LS.o.2.2 ya⟩
   .have hn2:(0:Int)<=(cp:Int):=by omega
    obtain⟨Y9,HY9,LS,⟨b0,b1,r0,r1,fb0,fb1,fr0,fr1⟩,x0,x1,y0,y1,z0,z1⟩:=tail_at BX.o H0.o.1 ⟨_,_,_,rfl⟩ NT.o 0 (.slice (some ⟨eb,eo,none⟩) 0 cp) (.slice (some ⟨eb,eo,none⟩) 0 cp) (.slice adt ns.length cpt) rfl;go_upto_region 29 with fail
    rw[HY9.o];clear HY9 b0 b1 r0 r1 fb0 fb1 fr0 fr1;go_wp2_with fail
    refine bodyPost_ret (v:=.agg #[.slice (some ⟨eb,eo,none⟩) 0 cp,.slice adt ns.length cpt]) ?_ rfl ?_
    .simp[results,results36,go_sem,y0,y1]
    .exact⟨_,_,_,_,ns,_,rfl,LS.o.1,ybp,LS.o.2.1,ya,LS.o.2.2,z77 HE.o LS.o.2.2 ya⟩
   .have hn2:(1:Int)<=(cp:Int):=by omega
    obtain⟨Y9,HY9,LS,⟨b0,b1,r0,r1,fb0,fb1,fr0,fr1⟩,x0,x1,y0,y1,z0,z1⟩:=tail_at BX.o H0.o.1 ⟨_,_,_,rfl⟩ NT.o 0 (.slice (some ⟨eb,eo,none⟩) 1 cp) (.slice (some ⟨eb,eo,none⟩) 1 cp) (.slice adt ns.length cpt) rfl;go_upto_region 29 with fail
    rw[HY9.o];clear HY9 b0 b1 r0 r1 fb0 fb1 fr0 fr1;go_wp2_with fail
    refine bodyPost_ret (v:=.agg #[.slice (some ⟨eb,eo,none⟩) 1 cp,.slice adt ns.length cpt]) ?_ rfl ?_
    .simp[results,results36,go_sem,y0,y1]
    .exact⟨_,_,_,_,ns,_,rfl,LS.o.1,ybp,LS.o.2.1,ya,LS.o.2.2,z77 HE.o LS.o.2.2 ya⟩
   .have hn2:(1:Int)<=(cp:Int):=by omega
    obtain⟨Y9,HY9,LS,⟨b0,b1,r0,r1,fb0,fb1,fr0,fr1⟩,x0,x1,y0,y1,z0,z1⟩:=tail_at BX.o H0.o.1 ⟨_,_,_,rfl⟩ NT.o 0 (.slice (some ⟨eb,eo,none⟩) 1 cp) (.slice (some ⟨eb,eo,none⟩) 1 cp) (.slice adt ns.length cpt) rfl;go_upto_region 29 with fail
    rw[HY9.o];clear HY9 b0 b1 r0 r1 fb0 fb1 fr0 fr1;go_wp2_with fail
    refine bodyPost_ret (v:=.agg #[.slice (some ⟨eb,eo,none⟩) 1 cp,.slice adt ns.length cpt]) ?_ rfl ?_
    .simp[results,results36,go_sem,y0,y1]
    .exact⟨_,_,_,_,ns,_,rfl,LS.o.1,ybp,LS.o.2.1,ya,LS.o.2.2,z77 HE.o LS.o.2.2 ya⟩
   .have hn2:(2:Int)<=(cp:Int):=by omega
    obtain⟨Y9,HY9,LS,⟨b0,b1,r0,r1,fb0,fb1,fr0,fr1⟩,x0,x1,y0,y1,z0,z1⟩:=tail_at BX.o H0.o.1 ⟨_,_,_,rfl⟩ NT.o 0 (.slice (some ⟨eb,eo,none⟩) 2 cp) (.slice (some ⟨eb,eo,none⟩) 2 cp) (.slice adt ns.length cpt) rfl;go_upto_region 29 with fail
    rw[HY9.o];clear HY9 b0 b1 r0 r1 fb0 fb1 fr0 fr1;go_wp2_with fail
    refine bodyPost_ret (v:=.agg #[.slice (some ⟨eb,eo,none⟩) 2 cp,.slice adt ns.length cpt]) ?_ rfl ?_
    .simp[results,results36,go_sem,y0,y1]
    .exact⟨_,_,_,_,ns,_,rfl,LS.o.1,ybp,LS.o.2.1,ya,LS.o.2.2,z77 HE.o LS.o.2.2 ya⟩
end
end Go.Proofs.YtbbffkiobmbkfaaGreatDoor
