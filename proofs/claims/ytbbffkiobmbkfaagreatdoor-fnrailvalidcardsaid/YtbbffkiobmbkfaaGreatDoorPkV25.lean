import Derived.Test.YtbbffkiobmbkfaaGreatDoorPkV24
open Go.Proofs.Tryz
open Go.Value Go.IntKind
set_option maxHeartbeats 8000000
set_option maxRecDepth 100000
namespace Go.Proofs.YtbbffkiobmbkfaaGreatDoor
open Go.RowKit Go.Deep
variable {s s1:Cn}{d:Dr}{ms:List Bool}{os:List Nat}{xs:List Value}{B E c i n sz t:Nat}{v ve vi vo:Value}{W W' X X':World}
section
open Go.RowKit Go.Deep
theorem g_type {e:TypeId}(h:W.ownsRow B e sz v n xs) {g:Nat}(hg:v.ownBlock=some g):B<=g/\ ∃cur,W.heap[g]?=some (.cells cur e):=by
 obtain⟨-,⟨rfl,h0⟩|⟨g',cap,cur,rfl,hB,hc,-⟩⟩:=h
 .simp[Value.ownBlock]at hg
 .simp[Value.ownBlock]at hg;subst hg;exact⟨hB,cur,hc⟩
theorem g_same {e:TypeId}(h:W.ownsRow B e sz v n xs) (he:∀g,v.ownBlock=some g->W'.heap[g]?=W.heap[g]?):W'.ownsRow B e sz v n xs:=by
 obtain⟨h0,⟨rfl,h1⟩|⟨g,cap,cur,rfl,hB,hc,hr⟩⟩:=h
 .exact⟨h0,Or.inl ⟨rfl,h1⟩⟩
 .exact⟨h0,Or.inr ⟨g,cap,cur,rfl,hB,(he g (by simp[Value.ownBlock])).trans hc,hr⟩⟩
theorem g_is {e:TypeId}(h:W.ownsRow B e sz v n xs):∃ad c,v=.slice ad n c:=by
 obtain⟨-,⟨rfl,h0⟩|⟨g',cap,cur,rfl,-⟩⟩:=h
 .exact⟨none,0,qe⟩
 .exact⟨_,_,rfl⟩
theorem g_grew {e:TypeId}(h:W.ownsRow B e sz v n xs) (h1:d.B<B) (h2:d.G<B) (g:Grew d W W'):W'.ownsRow B e sz v n xs:=
 g_same h fun k hk=>g.block k ⟨(h.lt k hk).2,by have:=(h.lt k hk).1;omega,by have:=(h.lt k hk).1;omega⟩
theorem g_other {B':Nat}{e e':TypeId}{sz':Nat}{u:Value}{m:Nat}{ys:List Value}(h:W.ownsRow B e sz v n xs) (hu:W.ownsRow B' e' sz' u m ys) (hg:W.grownBy W' u.ownBlock) (hne:e≠e'):W'.ownsRow B e sz v n xs:=
 g_same h fun k hk=>hg.block k (h.lt k hk).2 fun ek=>by
  obtain⟨-,c1,hc1⟩:=g_type h hk;obtain⟨-,c2,hc2⟩:=g_type hu ek.symm;rw[hc1]at hc2
  cases hc2;exact hne rfl
theorem At.own {row:Option Nat}(h:At d ve W s X s1 t c) (h0:Gen d ve W s) (hg:X.grownBy X' row) (hr:∀g,row=some g->W.heap.size<=g):At d ve W s X' s1 t c:=by
 have hs:=h.2.1.size;have h1:=h0.ltB;have h2:=h0.ltG;have hne:∀q,q<W.heap.size->some q≠row:=fun q hq e=>by have:=hr q e.symm;omega
 have hgr:Grew d W X':= ⟨hg.os.trans h.2.1.os,hg.tape.trans h.2.1.tape,hg.output.trans h.2.1.output,Lf hs hg.size,fun q hq=>(hg.block q (by have:=hq.1;omega) (hne q hq.1)).trans (h.2.1.block q hq)⟩
 refine⟨⟨⟨(hg.block _ ya (hne _ h1)).trans h.1.rd.blk,fun hl=>?_⟩,(hg.block _ ya (hne _ h2)).trans h.1.blk,h.1.ne⟩,hgr,h.2.2⟩;obtain⟨b,off,ea,hq,hz⟩:=h0.rd.bytes hl;refine⟨b,off,ea,hq.grew hgr,fun i hi=>?_⟩;obtain⟨z,hz,h3⟩:=hz i hi;exact⟨z,(hgr.cell (p:=⟨b,off+i,none⟩) hq).trans hz,h3⟩
theorem Lies.congr {F H:Nat->Value}(h:Lies d W v n sz F) (e:∀i,i<n*sz->F i=H i):Lies d W v n sz H:=by
 rcases h with h|⟨b,off,cap,h1,h2,h3,h4,h5⟩
 .exact Or.inl h
 .exact Or.inr ⟨b,off,cap,h1,h2,h3,h4,fun i hi=>by rw[h5 i hi,e i hi]⟩
def boV (b:Bool) (_:Nat):Value:=.bool b
def gnV (j:Nat) (_:Nat):Value:=int i64 (j:Int)
theorem info_bool:(prog.info? 4).map (fun i=>(i.zero,i.size,i.bytes))=some (some (.bool false),1,1):=ye
theorem info_int:(prog.info? 3).map (fun i=>(i.zero,i.size,i.bytes))=some (some (int i64 0),1,8):=ye
theorem info_list:(prog.info? 24).map (fun i=>(i.zero,i.size,i.bytes))=some (some (.slice none 0 0),1,24):=ye
theorem bools_lies (h:BoolsD d W v ms):Lies d W v ms.length 1 (fun i=>boV (ms.getD (i/1) default) (i % 1)):=
 Lies.congr h fun i _=>yaj
theorem bools_own (h:W.ownsRow B 4 1 v ms.length (rowZ boV 1 ms)) (h1:d.B<B) (h2:d.G<B):BoolsD d W v ms:=
 (lies_owns (f:=boV) yk h h1 h2).congr fun i _=>yaj
theorem rowZ_set (ms:List Bool) (i:Nat) (b:Bool):(rowZ boV 1 ms).set i (.bool b)=rowZ boV 1 (ms.set i b):=by
 have e:∀l:List Bool,rowZ boV 1 l=l.map fun x=> .bool x:=fun l=>by
  unfold rowZ;induction l with
  |nil=>rfl
  |cons x l ih=>rw[List.flatMap_cons,ih];rfl
 rw[e,e,List.map_set]
theorem bools_set (h:W.ownsRow B 4 1 v ms.length (rowZ boV 1 ms)) (hi:i<ms.length) (b:Bool) :
 ∃g cap u,v=.slice (some ⟨g,0,none⟩) ms.length cap/\B<=g/\g<W.heap.size/\W.cell? ⟨g,i,none⟩=some u/\W.frozen? ⟨g,i,none⟩=false/\(W.setCell ⟨g,i,none⟩ (.bool b)).ownsRow B 4 1 v (ms.set i b).length (rowZ boV 1 (ms.set i b))/\W.grownBy (W.setCell ⟨g,i,none⟩ (.bool b)) (some g):=by
 have h':= h;obtain⟨-,⟨-,h0⟩|⟨g,cap,cur,rfl,hB,hc,hnc,hcm,hsz,htake⟩⟩:=h
 .omega
 .refine⟨g,cap,_,rfl,hB,z13 hc,(h'.cellAt i ya).trans (z51 boV 1 yk ms i ya),z15 hc i,?_,kept_set (kept_refl W (some g)) i _⟩;refine⟨z78 _ _ _,Or.inr ⟨g,cap,cur.setIfInBounds i (.bool b),by rw[List.length_set],hB,?_,by rw[List.length_set];exact hnc,hcm,by simpa using hsz,?_⟩⟩
  .rw[setCell_eq_setRow W g i cur 4 (0,0) (.bool b) hc];exact setRow_heap W g _ _ 4 _ hc
  .rw[<-rowZ_set,<-htake,List.length_set,Array.toList_setIfInBounds,List.take_set]
structure Kd where
 ad:Option Addr
 cp:Nat
 ns:List Nd
instance:Inhabited Kd:=⟨⟨none,0,[]⟩⟩
def Kd.val (k:Kd):Value:=.slice k.ad k.ns.length k.cp
def kdV (k:Kd) (_:Nat):Value:=k.val
theorem kd_one (k:Kd) (i:Nat):(kdV k i).oneCell'= true:=rfl
theorem in_one (j i:Nat):(gnV j i).oneCell'= true:=rfl
theorem bo_one (b:Bool) (i:Nat):(boV b i).oneCell'= true:=rfl
def kdL (ls:List Kd):List (Value×List Nd):=ls.map fun k=>(k.val,k.ns)
theorem kids_own {ls:List Kd}(h:X.ownsRow B 24 1 v ls.length (rowZ kdV 1 ls)) (h1:d.B<B) (h2:d.G<B) (hn:∀k∈ls,NodesD d X k.val k.ns):KidsV d X v (kdL ls):=by
 refine⟨?_,fun x hx=>?_⟩
 .have hl:(kdL ls).length=ls.length:=by simp[kdL]
  rw[hl];refine(lies_owns (f:=kdV) yk h h1 h2).congr fun i hi=>?_
  rw[Nat.div_one];rw[Nat.mul_one]at hi;simp[kdL,kdV,List.getD,hi]
 .unfold kdL at hx;rw[List.mem_map]at hx;obtain⟨k,hk,rfl⟩:=hx;exact hn k hk
theorem NodesD.other {u:Value}{ns:List Nd}{ls:List Kd}(h:NodesD d X v ns) (hu:X.ownsRow B 24 1 u ls.length (rowZ kdV 1 ls)) (h1:1<=ls.length) (hg:X.grownBy X' u.ownBlock):NodesD d X' v ns:=by
 obtain⟨h,hb⟩:=h;refine⟨?_,hb⟩;rcases h with h|⟨b,off,cap,rfl,hn,rfl,hq,hc⟩
 .exact Or.inl h
 ·refine Or.inr ⟨b,0,cap,rfl,hn,rfl,⟨Le hq.1 hg.size,hq.2⟩,fun i hi=>?_⟩;have hne:some b≠u.ownBlock:=fun e=>by
   have h':= hu;obtain⟨-,⟨-,h0⟩|⟨g,cap',cur,rfl,hB,hcc,-⟩⟩:=hu
   .omega
   .simp[Value.ownBlock]at e;subst e;have e1:=h'.cellAt 0 ya;rw[z51 kdV 1 yk ls 0 ya]at e1;have e2:=hc 0 ya;rw[Nat.zero_add,e1]at e2
    cases e2
  exact(Lj (a:=⟨b,0+i,none⟩) (hg.block b hq.1 hne)).trans (hc i hi)
structure Hn (d:Dr) (ve:Value) (W:World) (s:Cn) (X:World) (s1:Cn) (t c:Nat) (vk:Value) (ls:List Kd) (vo:Value) (os:List Nat):Prop where
 at_:At d ve W s X s1 t c
 kids:X.ownsRow W.heap.size 24 1 vk ls.length (rowZ kdV 1 ls)
 ops:X.ownsRow W.heap.size 3 1 vo os.length (rowZ gnV 1 os)
 nodes:∀k∈ls,NodesD d X k.val k.ns
 some_:1<=ls.length
theorem kd_lit (X:World) (k:Kd) (h1:d.B<X.heap.size) (h2:d.G<X.heap.size):Lies d (X.alloc (.cells #[.slice k.ad k.ns.length k.cp] 24)) (.slice (some ⟨X.heap.size,0,none⟩) 1 1) [k].length 1 (fun i=>kdV ([k].getD (i/1) default) (i % 1)):=
 lies_lit (f:=kdV) (sz:=1) yk X 24 [k] _ rfl h1 h2
theorem hn_start (ha:At d ve W s X s1 t c) (ho:X.ownsRow W.heap.size 3 1 vo os.length (rowZ gnV 1 os)) (k1 k2:Kd) (h1:NodesD d X k1.val k1.ns) (h2:NodesD d X k2.val k2.ns) :
 Hn d ve W s (X.alloc (.cells #[k1.val,k2.val] 24)) s1 t c (.slice (some ⟨X.heap.size,0,none⟩) 2 2) [k1,k2] vo os:=by
 have hg:Grew d X (X.alloc (.cells #[k1.val,k2.val] 24)):=(Grew.refl d X).alloc _;refine⟨ha.alloc _,World.ownsRow_lit (base:=W.heap.size) (e:=24) (size:=1) X #[k1.val,k2.val] 2 ha.2.1.size zz rfl,ho.alloc _,fun k hk=>?_,yq⟩;simp at hk;rcases hk with rfl|rfl
 .exact h1.grew hg
 .exact h2.grew hg
def boxW (X:World) (nm:ByteArray) (ar re:Int):World:=(((X.alloc (.cells #[.string ⟨#[]⟩,int i64 0,int i64 0] 64)).setCell ⟨X.heap.size,0,none⟩ (.string nm)).setCell ⟨X.heap.size,1,none⟩ (int i64 ar)).setCell ⟨X.heap.size,2,none⟩ (int i64 re)
theorem z68 {g:Nat}{c:Array Value}{t:TypeId}(h:W.heap[g]?=some (.cells c t)):(W.setCell ⟨g,i,none⟩ v).heap[g]?=some (.cells (c.setIfInBounds i v) t):=by
 rw[setCell_eq_setRow W g i c t (0,0) v h];exact setRow_heap W g _ _ t _ h
theorem boxW_heap (X:World) (nm:ByteArray) (ar re:Int):(boxW X nm ar re).heap[X.heap.size]?=some (.cells #[.string nm,int i64 ar,int i64 re] 64):=
 z68 (z68 (z68 (Ld X _).1))
theorem boxW_below (X:World) (nm:ByteArray) (ar re:Int):Below X.heap.size X (boxW X nm ar re):=
 ((((Lb.alloc La _).setCell La _).setCell La _).setCell La _)
theorem ops_at {ad:Option Addr}{cp:Nat}(h:X.ownsRow B 3 1 (.slice ad n cp) os.length (rowZ gnV 1 os)) (hi:i<os.length):∃g j,ad=some ⟨g,0,none⟩/\j∈os/\B<=g/\g<X.heap.size/\X.cell? ⟨g,i,none⟩=some (int i64 (j:Int)):=by
 have h':= h;obtain⟨-,⟨-,h0⟩|⟨g,cap,cur,e,hB,hc,-⟩⟩:=h
 .omega
 .cases e;exact⟨g,os.getD i default,rfl,getD_mem hi,hB,z13 hc,(h'.cellAt i ya).trans ((z51 gnV 1 yk os i ya).trans yaj)⟩
theorem Hn.app {wr:World}{s2:Cn}{t' c':Nat}{vk:Value}{ls:List Kd}(h:Hn d ve W s wr s1 t c vk ls vo os) (h0:Gen d ve W s) (ha:At d ve W s X s2 t' c') (hg:Grew d wr X) (k:Kd) (hk:NodesD d X k.val k.ns) (hl:ls.length<=1000) (ty:TypeId) :
 ∃v' X',(Builtin.append_ #[273,273] ty #[vk,.slice (some ⟨X.heap.size,0,none⟩) 1 1]).run prog (X.alloc (.cells #[.slice k.ad k.ns.length k.cp] 24))=.ok v' X'/\Hn d ve W s X' s2 t' c' v' (ls++ [k]) vo os:=by
 obtain⟨i0,hinf,hz0,hz1,hz2⟩:=info_parts info_list;have hkX:=(g_grew h.kids h0.ltB h0.ltG hg).alloc (.cells #[.slice k.ad k.ns.length k.cp] 24);have hoX:=(g_grew h.ops h0.ltB h0.ltG hg).alloc (.cells #[.slice k.ad k.ns.length k.cp] 24);have haX:=ha.alloc (.cells #[.slice k.ad k.ns.length k.cp] 24);have hgX:Grew d X (X.alloc (.cells #[.slice k.ad k.ns.length k.cp] 24)):=(Grew.refl d X).alloc _;have hli:=kd_lit X k ha.1.ltB ha.1.ltG;obtain⟨v',X',hr,ho,hgr⟩:=app_row (d:=d) kd_one underlying273 hinf hz0 hz1 hz2 rfl yk yk hkX hli jd haX.2.1.size ty
 refine⟨v',X',hr,haX.own h0 hgr (fun g hg=>(hkX.lt g hg).1),ho,g_other hoX hkX hgr yk,fun x hx=>?_,yq⟩;rw[List.mem_append,Ls]at hx;rcases hx with hx|rfl
 .exact(((h.nodes x hx).grew hg).grew hgX).other hkX h.some_ hgr
 .exact(hk.grew hgX).other hkX h.some_ hgr
theorem bo_start (hs:W.heap.size<=X.heap.size):(X.alloc (.cells #[] 4)).ownsRow W.heap.size 4 1 (.slice (some ⟨X.heap.size,0,none⟩) 0 0) ([]:List Bool).length (rowZ boV 1 []):=World.ownsRow_made X #[] 0 hs (Li _) rfl
structure Pk (d:Dr) (ve:Value) (W:World) (s:Cn) (X:World) (s1:Cn) (t c:Nat) (vi:Value) (ms:List Bool) (vo:Value) (os:List Nat) (E:Nat):Prop where
 at_:At d ve W s X s1 t c
 may:X.ownsRow W.heap.size 4 1 vi ms.length (rowZ boV 1 ms)
 ops:X.ownsRow W.heap.size 3 1 vo os.length (rowZ gnV 1 os)
 len:ms.length=E
 lt:∀j∈os,j<E
 few:os.length<=4
theorem Pk.grew {s2:Cn}{t' c':Nat}(h:Pk d ve W s X s1 t c vi ms vo os E) (h0:Gen d ve W s) (ha:At d ve W s X' s2 t' c') (hg:Grew d X X'):Pk d ve W s X' s2 t' c' vi ms vo os E:=
 ⟨ha,g_grew h.may h0.ltB h0.ltG hg,g_grew h.ops h0.ltB h0.ltG hg,h.len,h.lt,h.few⟩
theorem in_lit (X:World) (j:Nat) (h1:d.B<X.heap.size) (h2:d.G<X.heap.size):Lies d (X.alloc (.cells #[int i64 (j:Int)] 3)) (.slice (some ⟨X.heap.size,0,none⟩) 1 1) [j].length 1 (fun i=>gnV ([j].getD (i/1) default) (i % 1)):=
 lies_lit (f:=gnV) (sz:=1) yk X 3 [j] _ rfl h1 h2
theorem Pk.app (h:Pk d ve W s X s1 t c vi ms vo os E) (h0:Gen d ve W s) (j:Nat) (hj:j<E) (hf:os.length<4) (ty:TypeId) :
 ∃v' X',(Builtin.append_ #[71,71] ty #[vo,.slice (some ⟨X.heap.size,0,none⟩) 1 1]).run prog (X.alloc (.cells #[int i64 (j:Int)] 3))=.ok v' X'/\Pk d ve W s X' s1 t c vi ms v' (os++ [j]) E:=by
 obtain⟨i0,hinf,hz0,hz1,hz2⟩:=info_parts info_int;have hmX:=h.may.alloc (.cells #[int i64 (j:Int)] 3);have hoX:=h.ops.alloc (.cells #[int i64 (j:Int)] 3);have haX:=h.at_.alloc (.cells #[int i64 (j:Int)] 3);obtain⟨v',X',hr,ho,hgr⟩:=app_row (d:=d) in_one underlying71 hinf hz0 hz1 hz2 rfl yk yk hoX (in_lit X j h.at_.1.ltB h.at_.1.ltG) jd haX.2.1.size ty;refine⟨v',X',hr,haX.own h0 hgr (fun g hg=>(hoX.lt g hg).1),g_other hmX hoX hgr yk,ho,h.len,fun x hx=>?_,jd⟩;rw[List.mem_append,Ls]at hx;rcases hx with hx|rfl
 .exact h.lt x hx
 .exact hj
theorem Pk.set (h:Pk d ve W s X s1 t c vi ms vo os E) (h0:Gen d ve W s) (j:Nat) (hj:j<E) :
 ∃g cap u,vi=.slice (some ⟨g,0,none⟩) E cap/\X.cell? ⟨g,j,none⟩=some u/\X.frozen? ⟨g,j,none⟩=false/\Pk d ve W s (X.setCell ⟨g,j,none⟩ (.bool true)) s1 t c vi (ms.set j true) vo os E:=by
 obtain⟨g,cap,u,rfl,hB,hlt,hc,hf,hown,hgr⟩:=bools_set h.may (i:=j) (by rw[h.len];exact hj) true;refine⟨g,cap,u,by rw[h.len],hc,hf,h.at_.own h0 hgr (fun k hk=>by cases hk;exact hB),hown,g_same h.ops (fun k hk=>hgr.block k (h.ops.lt k hk).2 (fun e=>?_)),by rw[List.length_set];exact h.len,h.lt,h.few⟩
 cases e;obtain⟨-,c1,hc1⟩:=g_type h.ops hk;obtain⟨-,c2,hc2⟩:=g_type h.may (g:=g) rfl;rw[hc1]at hc2
 cases hc2
theorem handler_calls {vm:Value}{es:List Ef}{ks:List Kn}{D:Nat}(ty:Int) (deep:Int) (hO:OfC d ve es D) (h1:deep<=D) (h2:-90<=deep) (h3:D<=100) (h:Gen d ve W s) (hf:Fit s 250) (hE:Env d ve es W v ks vm ms (D+1)) :
 Calls prog 123 #[.pointer (some ⟨d.G,0,none⟩),int i64 ty,v,vm,int i64 deep] W (NodesPost d ve W s 250):=by
 have HF:=U hf;have HO:=U hO;have A0:=U (At.start h);have HE:=U hE;have HD:=U (Lc h1 (Lc h2 h3));have hdu:deep<=1000:=ya;obtain⟨ad,cp,rfl⟩:=hE.know.is;obtain⟨adm,cpm,rfl⟩:=hE.may.is;have H0:=U h;obtain⟨ade,cpe,rfl⟩:=hE.effs.is;clear hO h1 h3 h hf hE;have HL:O (es.length<=4/\ms.length=es.length):=⟨HE.o.few,HE.o.len⟩
 obtain⟨ib,hbi,hb0,hb1,hb2⟩:=info_parts info_bool;go_enter func123,ntmps123
 have HEW:=HE;have g0:=A0.o.1.c0;go_wp2_with fail
 refine(A0.o.pick HF.o ya 4 yk).mono ?_;rintro e X1 ⟨m1,s1,rfl,hm1,hM1,ha,(G1:O _)⟩;have A1:=U ha;clear ha;clear g0;have hcs:m1=0\/1<=m1:=ya;rcases hcs with rfl|h1
 .clear hm1;have bs:=U (bo_start (W:=W) (X:=X1) A1.o.2.1.size);go_wp2_with (at_builtin;refine z34 rfl _ _ 164 rfl _ _ rfl rfl (fun ty=>app_row (d:=d) bo_one underlying164 hbi hb0 hb1 hb2 rfl yk yk bs.o (bools_lies ((HE.o.grew G1.o).may.grew ((Grew.refl d X1).alloc _))) (by have:=HL.o;simp;omega) (by have:=A1.o.2.1.size;simp;omega) ty) ?_;intro vi Xi hvi;have AI:=U (Lc ((A1.o.alloc _).own H0.o hvi.2 (fun g hg=>(bs.o.lt g hg).1)) hvi.1);clear hvi)
  rw[List.nil_append]at AI;obtain⟨adi,cpi,rfl⟩:=g_is AI.o.2;have P0:O (Pk d (.slice ade es.length cpe) W s Xi _ _ _ (.slice adi ms.length cpi) ms (.slice none 0 0) [] es.length):=⟨AI.o.1,AI.o.2,World.ownsRow_nil _ _ _ _,HL.o.2,fun j hj=>by simp at hj,yq⟩
  clear bs AI;go_loopw [13,14] (fun o i wr=> ∃(i':Nat) (ms':List Bool) (os':List Nat) (s':Cn) (t' c':Nat),i=int i64 i'/\i'<=es.length/\O (Pk d (.slice ade es.length cpe) W s wr s' t' c' (.slice adi ms.length cpi) ms' o os' es.length)/\O (c'<=1+i')) (fun _ i _=>es.length-(intOf i).toNat)
  case atStart=>exact⟨0,ms,[],_,_,_,rfl,Li _,P0,yp⟩
  case round=>
   obtain⟨i',ms',os',s',t',c',rfl,hle,HP,HC⟩:=hrel;obtain⟨ado,cpo,rfl⟩:=g_is HP.o.ops;have g0:=HP.o.at_.1.c0;have g1:=HP.o.at_.1.c1;by_cases hi:(i':Int)<(es.length:Int)
   .obtain⟨g,cap,u,hv,-,-,-⟩:=HP.o.set H0.o i' ya;simp only[Value.slice.injEq]at hv;obtain⟨rfl,-,rfl⟩:=hv;have hi0:(0:Int)<=(i':Int):=ya;have hi2:(i':Int)<(ms.length:Int):=ny;have hstep:es.length-(intOf (int i64 ((i'+ 1:Nat):Int))).toNat<es.length-(intOf (int i64 (i':Int))).toNat:=z55 hi;go_wp2_with fail
    refine(HP.o.at_.pick HF.o yak 2 yk).mono ?_;rintro e X2 ⟨m,s2,rfl,hm0,hm1,ha,hg⟩;have HP2:=U (HP.o.grew H0.o ha hg);clear ha hg g0 g1 HP P0;by_cases hm:m=0
    .subst hm;by_cases hf:(os'.length:Int)<4
     .go_wp2_with (at_builtin;refine z34 rfl _ _ 71 rfl _ _ rfl rfl (fun ty=>HP2.o.app H0.o i' ya ya ty) ?_;intro v3 X3 hv3;obtain⟨ad3,cp3,hv9⟩:=g_is hv3.ops;rw[show(os'++ [i']).length=os'.length+1 by simp]at hv9;subst hv9;obtain⟨g',cap',u',hv',hcu,hfu,hset⟩:=hv3.set H0.o i' ya;have HP4:=U hset;simp only[Value.slice.injEq,Option.some.injEq,Addr.mk.injEq]at hv';obtain⟨⟨rfl,-⟩,-,rfl⟩:=hv';clear hv3 hset)
      rw[z30 ud];exact⟨⟨i'+ 1,_,_,s2,t'+ 1,c'+ 1,rfl,ya,HP4,yal⟩,hstep⟩
     .go_wp2_with fail
      rw[z30 ud];exact⟨⟨i'+ 1,_,_,s2,t'+ 1,c'+ 1,rfl,ya,HP2,yal⟩,hstep⟩
    .have hz:(m==0)=false:=by simp[hm]
     go_wp2_with fail
     rw[z30 ud];exact⟨⟨i'+ 1,_,_,s2,t'+ 1,c'+ 1,rfl,ya,HP2,yal⟩,hstep⟩
   .have ei:i'= es.length:=by omega
    have hc5:c'<=5:=yak;have AH:=U HP.o.at_;have HE2:=U (HE.o.grew AH.o.2.1);have MI:=U (Lc (bools_own (d:=d) HP.o.may H0.o.ltB H0.o.ltG) HP.o.len);have HOs:=U (Lc HP.o.lt HP.o.few);have OR:=U HP.o.ops;clear HE HP P0 HC ei;have HE:=HE2;clear HE2;rename World=>Y0
    go_wp2_with fail
    refine(AH.o.name HF.o ya).mono ?_;refine zb58 ?_;intro X2 x2 s2 G2 A2 B2;clear g0 g1;go_wp2_with fail
    refine nE (A2.o.nodes (HO.o deep ty _ _ _ _ _ _ nw nw (A2.o.fit HF.o 10 ya) A2.o.1 ((HE.o.grew G2.o).let (MI.o.1.grew G2.o) MI.o.2))) fun X3 ad3 cp3 n3 s3 t3 N3 A3 G3=>?_
    go_wp2_with fail
    refine(A3.o.add x2 ty 0 (HE.o.grew (G2.o.trans G3.o)).know B2.o nu).mono ?_;rintro e X4 ⟨u4,ks4,rfl,hk4,hkl4,ha,(G4:O _)⟩;have A4:=U ha;clear ha;have K4:=U (Lc hk4 hkl4);obtain⟨ad4,cp4,rfl⟩:=hk4.is;clear hk4 hkl4;go_wp2_with fail
    refine nE (A4.o.nodes (HO.o deep ty _ _ _ _ _ _ nw nw (A4.o.fit HF.o 10 ya) A4.o.1 ((HE.o.grew (G2.o.trans (G3.o.trans G4.o))).with K4.o.1 (by have:=K4.o.2;omega)))) fun X5 ad5 cp5 n5 s5 t5 N5 A5 G5=>?_
    go_wp2_with fail
    refine zb82 ?_;intro X6 ad6 cp6 n6 N6 A6 G6 HS hfl;go_wp2_with fail
    go_loopw [16,17] (fun kv i wr=> ∃(i2:Nat) (ls:List Kd) (s2:Cn) (t2 c2:Nat),i=int i64 i2/\i2<=os'.length/\O (Hn d (.slice ade es.length cpe) W s wr s2 t2 c2 kv ls (.slice ado os'.length cpo) os')/\O (c2<=30+40*i2/\ls.length=2+i2/\(flatL (kdL ls)).length<=t2+3+8*i2)) (fun _ i _=>os'.length-(intOf i).toNat)
    case atStart=>exact⟨0,[⟨ad3,cp3,n3⟩,⟨ad6,cp6,n6⟩],_,_,_,rfl,Li _,HS,ya,rfl,yam⟩
    case round=>
     obtain⟨i2,ls,s2,t2,c2,rfl,hle2,HH,HB⟩:=hrel;obtain⟨adk,cpk,rfl⟩:=g_is HH.o.kids;by_cases hj:(i2:Int)<(os'.length:Int)
     .rename World=>Y1
      have hc2:c2+40<=190:=yan;have AR:=U HH.o.at_;obtain⟨go,j,rfl,hjo,hgB,hgl,cj⟩:=ops_at HH.o.ops (i:=i2) ya;have hjE:j<es.length:=HOs.o.1 j hjo;have HEr:=U (HEW.o.grew AR.o.2.1);obtain⟨be,oe,xn,xa,xr,rfl,-,hbr,hqe,c0,c1,c2'⟩:=HEr.o.effs.at (i:=j) hjE;refine zb38 ?_;intro HQ HE hj0 hj1 hi20 hstep;clear hqe hbr hgl hgB hjE hjo;go_upto_region 17 with fail
      refine zb85 ?_;intro A7 G7;generalize Y1.drew=X7 at*;refine zb1 ?_;intro A8 G8 EB A9 G9 HQ2 bq hbq;generalize boxW X7 xn xa xr=X9 at*;rw[hbq]at EB HQ2 |-;clear hbq cj c0 c1 c2' A8 G8;go_wp2_with fail
      refine(A9.o.name HF.o ya).mono ?_;rintro e X10 ⟨x10,s10,rfl,hb10,ha,(G10:O _)⟩;have A10:=U ha;clear ha;have B10:=U hb10;clear hb10;go_wp2_with fail
      refine zb40 ?_;intro X11 x11 s11 G11 A11 B11 ec;have ec:X11.cell? ⟨bq,1,none⟩=some (int i64 xa):=ec;go_wp2_with fail
      refine(z71 xa _).mono ?_;rintro e W9 ⟨rfl,rfl⟩;clear ec;go_wp2_with fail
      refine(A11.o.add x10 xa 0 (HE.o.grew (G7.o.trans (G9.o.trans (G10.o.trans G11.o)))).know B10.o nu).mono ?_;rintro e X12 ⟨u12,ks12,rfl,hk12,hkl12,ha,(G12:O _)⟩;have A12:=U ha;clear ha;have K12:=U (Lc hk12 hkl12);obtain⟨ad12,cp12,rfl⟩:=hk12.is;clear hk12 hkl12;have g0:=A12.o.1.c0;go_wp2_with fail
      refine(A12.o.pick HF.o ya 6 yk).mono ?_;rintro e X13 ⟨m13,s13,rfl,hm13,hM13,ha,(G13:O _)⟩;have A13:=U ha;clear ha;clear g0;by_cases hm6:m13=0
      .subst hm6;have ec:=(((G10.o.trans (G11.o.trans (G12.o.trans G13.o)))).cell (p:=⟨bq,2,none⟩) ⟨z13 EB.o,(show bq≠d.B by have:=HQ2.o.1;omega),(show bq≠d.G by have:=HQ2.o.2;omega)⟩).trans (z11 EB.o 2);have ec:X13.cell? ⟨bq,2,none⟩=some (int i64 xr):=ec;go_wp2_with fail
       refine(z71 xr _).mono ?_;rintro e W9 ⟨rfl,rfl⟩;clear ec;go_wp2_with fail
       refine(A13.o.add x11 (wrap64 (10+ty)) xr (K12.o.1.grew G13.o) B11.o yao).mono ?_;rintro e X14 ⟨u14,ks14,rfl,hk14,hkl14,ha,(G14:O _)⟩;have A14:=U ha;clear ha;have K14:=U (Lc hk14 hkl14);obtain⟨ad14,cp14,rfl⟩:=hk14.is;clear hk14 hkl14;go_wp2_with fail
       refine nE (A14.o.nodes (HO.o deep ty _ _ _ _ _ _ nw nw (A14.o.fit HF.o 10 ya) A14.o.1 ((HE.o.grew (G7.o.trans (G9.o.trans (G10.o.trans (G11.o.trans (G12.o.trans (G13.o.trans G14.o))))))).with K14.o.1 (by have:=K12.o.2;have:=K14.o.2;omega)))) fun X15 ad15 cp15 n15 s15 t15 N15 A15 G15=>?_
       have ec:=(((G10.o.trans (G11.o.trans (G12.o.trans (G13.o.trans (G14.o.trans G15.o)))))).cell (p:=⟨bq,0,none⟩) ⟨z13 EB.o,(show bq≠d.B by have:=HQ2.o.1;omega),(show bq≠d.G by have:=HQ2.o.2;omega)⟩).trans (z11 EB.o 0);have ec:X15.cell? ⟨bq,0,none⟩=some (.string xn):=ec;go_wp2_with fail
       refine vE (A15.o.put1 26 0 0 xn x10 x11 N15.o.1 ⟨HQ.o.2.1,B10.o,B11.o⟩ (by have:=A15.o.bound HF.o ya yk;have:=N15.o.2;omega)) fun X16 ad16 cp16 n16 N16 A16 G16=>?_
       clear ec;have HFl:O ((flatL (kdL (ls++ [⟨ad16,cp16,n16⟩]))).length=(flatL (kdL ls)).length+n16.length):=yap;have HLL:O (ls.length<=1000):=yaq;go_wp2_with (at_builtin;refine z34 rfl _ _ 273 rfl _ _ rfl rfl (fun ty_=>HH.o.app H0.o A16.o (G7.o.trans (G9.o.trans (G10.o.trans (G11.o.trans (G12.o.trans (G13.o.trans (G14.o.trans (G15.o.trans G16.o)))))))) ⟨ad16,cp16,n16⟩ N16.o.1 HLL.o ty_) ?_;intro vq Xq hvq;have HQQ:=U hvq;clear hvq)
       rw[z30 yar];exact⟨⟨i2+1,ls++ [⟨ad16,cp16,n16⟩],_,_,_,rfl,ya,HQQ,uw,yas,by have:=HB.o;have:=HFl.o;have:=N16.o.2;have:=N15.o.2;omega⟩,hstep⟩
      .have z6:(m13==0)=false:=by simp[hm6]
       go_wp2_with fail
       refine nE (A13.o.nodes (HO.o deep ty _ _ _ _ _ _ nw nw (A13.o.fit HF.o 10 ya) A13.o.1 ((HE.o.grew (G7.o.trans (G9.o.trans (G10.o.trans (G11.o.trans (G12.o.trans G13.o)))))).with (K12.o.1.grew G13.o) (by have:=K12.o.2;omega)))) fun X14 ad14 cp14 n14 s14 t14 N14 A14 G14=>?_
       have ec:=(((G10.o.trans (G11.o.trans (G12.o.trans (G13.o.trans G14.o))))).cell (p:=⟨bq,0,none⟩) ⟨z13 EB.o,(show bq≠d.B by have:=HQ2.o.1;omega),(show bq≠d.G by have:=HQ2.o.2;omega)⟩).trans (z11 EB.o 0);have ec:X14.cell? ⟨bq,0,none⟩=some (.string xn):=ec;go_wp2_with fail
       refine vE (A14.o.put1 26 0 0 xn x10 x11 N14.o.1 ⟨HQ.o.2.1,B10.o,B11.o⟩ (by have:=A14.o.bound HF.o ya yk;have:=N14.o.2;omega)) fun X15 ad15 cp15 n15 N15 A15 G15=>?_
       clear ec;have HFl:O ((flatL (kdL (ls++ [⟨ad15,cp15,n15⟩]))).length=(flatL (kdL ls)).length+n15.length):=yap;have HLL:O (ls.length<=1000):=yaq;go_wp2_with (at_builtin;refine z34 rfl _ _ 273 rfl _ _ rfl rfl (fun ty_=>HH.o.app H0.o A15.o (G7.o.trans (G9.o.trans (G10.o.trans (G11.o.trans (G12.o.trans (G13.o.trans (G14.o.trans G15.o))))))) ⟨ad15,cp15,n15⟩ N15.o.1 HLL.o ty_) ?_;intro vq Xq hvq;have HQQ:=U hvq;clear hvq)
       rw[z30 yar];exact⟨⟨i2+1,ls++ [⟨ad15,cp15,n15⟩],_,_,_,rfl,ya,HQQ,uw,yas,by have:=HB.o;have:=HFl.o;have:=N15.o.2;have:=N14.o.2;omega⟩,hstep⟩
     .have e2:i2=os'.length:=by omega
      have hb4:=HOs.o.2;have hcz:c2<=190/\(flatL (kdL ls)).length<=t2+35:=uw;have AZ:=U HH.o.at_;have HKZ:=U (kids_own HH.o.kids H0.o.ltB H0.o.ltG HH.o.nodes);go_wp2_with fail
      refine(AZ.o.put_kids 24 0 0 ⟨#[]⟩ ⟨#[]⟩ ⟨#[]⟩ HKZ.o ⟨z14,z14,z14⟩ (by simp[kdL];have:=HB.o;omega) yat).mono ?_;rintro e XZ ⟨vz,nz,rfl,hnz,hlz,haz,hgz⟩;have NZ:=U (Lc haz (Lc hnz hlz));clear haz hnz hlz hgz;go_wp2_with fail
      go_ret;exact NZ.o.1.done 36 NZ.o.2.1 (by have:=NZ.o.2.2;omega) ya
 .have z0:(m1==0)=false:=by simp;omega
  have bs:=U (bo_start (W:=W) (X:=X1) A1.o.2.1.size);go_wp2_with (at_builtin;refine z34 rfl _ _ 164 rfl _ _ rfl rfl (fun ty=>app_row (d:=d) bo_one underlying164 hbi hb0 hb1 hb2 rfl yk yk bs.o (bools_lies ((HE.o.grew G1.o).may.grew ((Grew.refl d X1).alloc _))) (by have:=HL.o;simp;omega) (by have:=A1.o.2.1.size;simp;omega) ty) ?_;intro vi Xi hvi;have AI:=U (Lc ((A1.o.alloc _).own H0.o hvi.2 (fun g hg=>(bs.o.lt g hg).1)) hvi.1);clear hvi)
  rw[List.nil_append]at AI;obtain⟨adi,cpi,rfl⟩:=g_is AI.o.2;have P0:O (Pk d (.slice ade es.length cpe) W s Xi _ _ _ (.slice adi ms.length cpi) ms (.slice none 0 0) [] es.length):=⟨AI.o.1,AI.o.2,World.ownsRow_nil _ _ _ _,HL.o.2,fun j hj=>by simp at hj,yq⟩
  clear bs AI;go_loopw [13,14] (fun o i wr=> ∃(i':Nat) (ms':List Bool) (os':List Nat) (s':Cn) (t' c':Nat),i=int i64 i'/\i'<=es.length/\O (Pk d (.slice ade es.length cpe) W s wr s' t' c' (.slice adi ms.length cpi) ms' o os' es.length)/\O (c'<=1+i')) (fun _ i _=>es.length-(intOf i).toNat)
  case atStart=>exact⟨0,ms,[],_,_,_,rfl,Li _,P0,yp⟩
  case round=>
   obtain⟨i',ms',os',s',t',c',rfl,hle,HP,HC⟩:=hrel;obtain⟨ado,cpo,rfl⟩:=g_is HP.o.ops;have g0:=HP.o.at_.1.c0;have g1:=HP.o.at_.1.c1;by_cases hi:(i':Int)<(es.length:Int)
   .obtain⟨g,cap,u,hv,-,-,-⟩:=HP.o.set H0.o i' ya;simp only[Value.slice.injEq]at hv;obtain⟨rfl,-,rfl⟩:=hv;have hi0:(0:Int)<=(i':Int):=ya;have hi2:(i':Int)<(ms.length:Int):=ny;have hstep:es.length-(intOf (int i64 ((i'+ 1:Nat):Int))).toNat<es.length-(intOf (int i64 (i':Int))).toNat:=z55 hi;go_wp2_with fail
    refine(HP.o.at_.pick HF.o yak 2 yk).mono ?_;rintro e X2 ⟨m,s2,rfl,hm0,hm1,ha,hg⟩;have HP2:=U (HP.o.grew H0.o ha hg);clear ha hg g0 g1 HP P0;by_cases hm:m=0
    .subst hm;by_cases hf:(os'.length:Int)<4
     .go_wp2_with (at_builtin;refine z34 rfl _ _ 71 rfl _ _ rfl rfl (fun ty=>HP2.o.app H0.o i' ya ya ty) ?_;intro v3 X3 hv3;obtain⟨ad3,cp3,hv9⟩:=g_is hv3.ops;rw[show(os'++ [i']).length=os'.length+1 by simp]at hv9;subst hv9;obtain⟨g',cap',u',hv',hcu,hfu,hset⟩:=hv3.set H0.o i' ya;have HP4:=U hset;simp only[Value.slice.injEq,Option.some.injEq,Addr.mk.injEq]at hv';obtain⟨⟨rfl,-⟩,-,rfl⟩:=hv';clear hv3 hset)
      rw[z30 ud];exact⟨⟨i'+ 1,_,_,s2,t'+ 1,c'+ 1,rfl,ya,HP4,yal⟩,hstep⟩
     .go_wp2_with fail
      rw[z30 ud];exact⟨⟨i'+ 1,_,_,s2,t'+ 1,c'+ 1,rfl,ya,HP2,yal⟩,hstep⟩
    .have hz:(m==0)=false:=by simp[hm]
     go_wp2_with fail
     rw[z30 ud];exact⟨⟨i'+ 1,_,_,s2,t'+ 1,c'+ 1,rfl,ya,HP2,yal⟩,hstep⟩
   .have ei:i'= es.length:=by omega
    have hc5:c'<=5:=yak;have AH:=U HP.o.at_;have HE2:=U (HE.o.grew AH.o.2.1);have MI:=U (Lc (bools_own (d:=d) HP.o.may H0.o.ltB H0.o.ltG) HP.o.len);have HOs:=U (Lc HP.o.lt HP.o.few);have OR:=U HP.o.ops;clear HE HP P0 HC ei;have HE:=HE2;clear HE2;rename World=>Y0
    go_wp2_with fail
    refine(AH.o.name HF.o ya).mono ?_;refine zb58 ?_;intro X2 x2 s2 G2 A2 B2;clear g0 g1;go_wp2_with fail
    refine nE (A2.o.nodes (HO.o deep ty _ _ _ _ _ _ nw nw (A2.o.fit HF.o 10 ya) A2.o.1 ((HE.o.grew G2.o).let (MI.o.1.grew G2.o) MI.o.2))) fun X3 ad3 cp3 n3 s3 t3 N3 A3 G3=>?_
    go_wp2_with fail
    refine(A3.o.add x2 ty 0 (HE.o.grew (G2.o.trans G3.o)).know B2.o nu).mono ?_;rintro e X4 ⟨u4,ks4,rfl,hk4,hkl4,ha,(G4:O _)⟩;have A4:=U ha;clear ha;have K4:=U (Lc hk4 hkl4);obtain⟨ad4,cp4,rfl⟩:=hk4.is;clear hk4 hkl4;go_wp2_with fail
    refine nE (A4.o.nodes (HO.o deep ty _ _ _ _ _ _ nw nw (A4.o.fit HF.o 10 ya) A4.o.1 ((HE.o.grew (G2.o.trans (G3.o.trans G4.o))).with K4.o.1 (by have:=K4.o.2;omega)))) fun X5 ad5 cp5 n5 s5 t5 N5 A5 G5=>?_
    go_wp2_with fail
    refine zb82 ?_;intro X6 ad6 cp6 n6 N6 A6 G6 HS hfl;go_wp2_with fail
    go_loopw [16,17] (fun kv i wr=> ∃(i2:Nat) (ls:List Kd) (s2:Cn) (t2 c2:Nat),i=int i64 i2/\i2<=os'.length/\O (Hn d (.slice ade es.length cpe) W s wr s2 t2 c2 kv ls (.slice ado os'.length cpo) os')/\O (c2<=30+40*i2/\ls.length=2+i2/\(flatL (kdL ls)).length<=t2+3+8*i2)) (fun _ i _=>os'.length-(intOf i).toNat)
    case atStart=>exact⟨0,[⟨ad3,cp3,n3⟩,⟨ad6,cp6,n6⟩],_,_,_,rfl,Li _,HS,ya,rfl,yam⟩
    case round=>
     obtain⟨i2,ls,s2,t2,c2,rfl,hle2,HH,HB⟩:=hrel;obtain⟨adk,cpk,rfl⟩:=g_is HH.o.kids;by_cases hj:(i2:Int)<(os'.length:Int)
     .rename World=>Y1
      have hc2:c2+40<=190:=yan;have AR:=U HH.o.at_;obtain⟨go,j,rfl,hjo,hgB,hgl,cj⟩:=ops_at HH.o.ops (i:=i2) ya;have hjE:j<es.length:=HOs.o.1 j hjo;have HEr:=U (HEW.o.grew AR.o.2.1);obtain⟨be,oe,xn,xa,xr,rfl,-,hbr,hqe,c0,c1,c2'⟩:=HEr.o.effs.at (i:=j) hjE;refine zb38 ?_;intro HQ HE hj0 hj1 hi20 hstep;clear hqe hbr hgl hgB hjE hjo;go_upto_region 17 with fail
      refine zb85 ?_;intro A7 G7;generalize Y1.drew=X7 at*;refine zb1 ?_;intro A8 G8 EB A9 G9 HQ2 bq hbq;generalize boxW X7 xn xa xr=X9 at*;rw[hbq]at EB HQ2 |-;clear hbq cj c0 c1 c2' A8 G8;go_wp2_with fail
      refine(A9.o.name HF.o ya).mono ?_;rintro e X10 ⟨x10,s10,rfl,hb10,ha,(G10:O _)⟩;have A10:=U ha;clear ha;have B10:=U hb10;clear hb10;go_wp2_with fail
      refine zb40 ?_;intro X11 x11 s11 G11 A11 B11 ec;have ec:X11.cell? ⟨bq,1,none⟩=some (int i64 xa):=ec;go_wp2_with fail
      refine(z71 xa _).mono ?_;rintro e W9 ⟨rfl,rfl⟩;clear ec;go_wp2_with fail
      refine(A11.o.add x10 xa 0 (HE.o.grew (G7.o.trans (G9.o.trans (G10.o.trans G11.o)))).know B10.o nu).mono ?_;rintro e X12 ⟨u12,ks12,rfl,hk12,hkl12,ha,(G12:O _)⟩;have A12:=U ha;clear ha;have K12:=U (Lc hk12 hkl12);obtain⟨ad12,cp12,rfl⟩:=hk12.is;clear hk12 hkl12;have ec:=(((G10.o.trans (G11.o.trans G12.o))).cell (p:=⟨bq,2,none⟩) ⟨z13 EB.o,(show bq≠d.B by have:=HQ2.o.1;omega),(show bq≠d.G by have:=HQ2.o.2;omega)⟩).trans (z11 EB.o 2);have ec:X12.cell? ⟨bq,2,none⟩=some (int i64 xr):=ec;go_wp2_with fail
      refine(z71 xr _).mono ?_;rintro e W9 ⟨rfl,rfl⟩;clear ec;go_wp2_with fail
      refine(A12.o.add x11 (wrap64 (10+ty)) xr K12.o.1 B11.o yao).mono ?_;rintro e X13 ⟨u13,ks13,rfl,hk13,hkl13,ha,(G13:O _)⟩;have A13:=U ha;clear ha;have K13:=U (Lc hk13 hkl13);obtain⟨ad13,cp13,rfl⟩:=hk13.is;clear hk13 hkl13;go_wp2_with fail
      refine nE (A13.o.nodes (HO.o deep ty _ _ _ _ _ _ nw nw (A13.o.fit HF.o 10 ya) A13.o.1 ((HE.o.grew (G7.o.trans (G9.o.trans (G10.o.trans (G11.o.trans (G12.o.trans G13.o)))))).with K13.o.1 (by have:=K12.o.2;have:=K13.o.2;omega)))) fun X14 ad14 cp14 n14 s14 t14 N14 A14 G14=>?_
      have g0:=A14.o.1.c0;go_wp2_with fail
      refine(A14.o.pick HF.o ya 3 yk).mono ?_;rintro e X15 ⟨m15,s15,rfl,hm15,hM15,ha,(G15:O _)⟩;have A15:=U ha;clear ha;clear g0;by_cases hm3:0<m15
      .have N16:=U (Lc (nd_lit_at (d:=d) X15 ⟨5,0,x11,ByteArray.empty,ByteArray.empty,0⟩ (X15.heap.size) yq A15.o.1.ltB A15.o.1.ltG ⟨B11.o,z14,z14⟩) (show [(⟨5,0,x11,ByteArray.empty,ByteArray.empty,0⟩:Nd)].length=1 from rfl));have A16:=U (A15.o.alloc (.cells #[int i64 5,int i64 0,.string x11,.string ByteArray.empty,.string ByteArray.empty,int i64 0] 68));have G16:=U ((Grew.refl d X15).alloc (.cells #[int i64 5,int i64 0,.string x11,.string ByteArray.empty,.string ByteArray.empty,int i64 0] 68))
       have ec:=(((G10.o.trans (G11.o.trans (G12.o.trans (G13.o.trans (G14.o.trans (G15.o.trans G16.o))))))).cell (p:=⟨bq,2,none⟩) ⟨z13 EB.o,(show bq≠d.B by have:=HQ2.o.1;omega),(show bq≠d.G by have:=HQ2.o.2;omega)⟩).trans (z11 EB.o 2);have ec:(X15.alloc (.cells #[int i64 5,int i64 0,.string x11,.string ⟨#[]⟩,.string ⟨#[]⟩,int i64 0] 68)).cell? ⟨bq,2,none⟩=some (int i64 xr):=ec;go_wp2_with fail
       refine(z71 xr _).mono ?_;rintro e W9 ⟨rfl,rfl⟩;clear ec;go_wp2_with fail
       refine(A16.o.add x11 0 0 (K13.o.1.grew (G14.o.trans (G15.o.trans G16.o))) B11.o yau).mono ?_;rintro e X17 ⟨u17,ks17,rfl,hk17,hkl17,ha,(G17:O _)⟩;have A17:=U ha;clear ha;have K17:=U (Lc hk17 hkl17);obtain⟨ad17,cp17,rfl⟩:=hk17.is;clear hk17 hkl17;go_wp2_with fail
       refine nE (A17.o.nodes (HO.o (deep-1) xr _ _ _ _ _ _ nw nw (A17.o.fit HF.o 10 ya) A17.o.1 ((HE.o.grew (G7.o.trans (G9.o.trans (G10.o.trans (G11.o.trans (G12.o.trans (G13.o.trans (G14.o.trans (G15.o.trans (G16.o.trans G17.o)))))))))).with K17.o.1 (by have:=K12.o.2;have:=K13.o.2;have:=K17.o.2;omega)))) fun X18 ad18 cp18 n18 s18 t18 N18 A18 G18=>?_
       go_wp2_with fail
       refine vE (A18.o.put2 7 0 0 ByteArray.empty ByteArray.empty ByteArray.empty (N16.o.1.grew (G17.o.trans G18.o)) N18.o.1 ⟨z14,z14,z14⟩ (by have:=A18.o.bound HF.o ya yk;have:=N16.o.2;have:=N18.o.2;omega)) fun X19 ad19 cp19 n19 N19 A19 G19=>?_
       by_cases hty1:ty=1
       .subst hty1;have g0:=A19.o.1.c0;go_wp2_with fail
        refine(A19.o.pick HF.o ya 4 yk).mono ?_;rintro e X20 ⟨m20,s20,rfl,hm20,hM20,ha,(G20:O _)⟩;have A20:=U ha;clear ha;clear g0;by_cases hm4:m20=0
        .subst hm4;have N21:=U (Lc (nd_lit_at (d:=d) X20 ⟨5,0,x11,ByteArray.empty,ByteArray.empty,0⟩ (X20.heap.size) yq A20.o.1.ltB A20.o.1.ltG ⟨B11.o,z14,z14⟩) (show [(⟨5,0,x11,ByteArray.empty,ByteArray.empty,0⟩:Nd)].length=1 from rfl));have A21:=U (A20.o.alloc (.cells #[int i64 5,int i64 0,.string x11,.string ByteArray.empty,.string ByteArray.empty,int i64 0] 68));have G21:=U ((Grew.refl d X20).alloc (.cells #[int i64 5,int i64 0,.string x11,.string ByteArray.empty,.string ByteArray.empty,int i64 0] 68))
         have ec:=(((G10.o.trans (G11.o.trans (G12.o.trans (G13.o.trans (G14.o.trans (G15.o.trans (G16.o.trans (G17.o.trans (G18.o.trans (G19.o.trans (G20.o.trans G21.o)))))))))))).cell (p:=⟨bq,2,none⟩) ⟨z13 EB.o,(show bq≠d.B by have:=HQ2.o.1;omega),(show bq≠d.G by have:=HQ2.o.2;omega)⟩).trans (z11 EB.o 2);have ec:(X20.alloc (.cells #[int i64 5,int i64 0,.string x11,.string ⟨#[]⟩,.string ⟨#[]⟩,int i64 0] 68)).cell? ⟨bq,2,none⟩=some (int i64 xr):=ec;go_wp2_with fail
         refine(z71 xr _).mono ?_;rintro e W9 ⟨rfl,rfl⟩;clear ec;go_wp2_with fail
         refine(A21.o.add x11 0 0 (K13.o.1.grew (G14.o.trans (G15.o.trans (G16.o.trans (G17.o.trans (G18.o.trans (G19.o.trans (G20.o.trans G21.o)))))))) B11.o yau).mono ?_;rintro e X22 ⟨u22,ks22,rfl,hk22,hkl22,ha,(G22:O _)⟩;have A22:=U ha;clear ha;have K22:=U (Lc hk22 hkl22);obtain⟨ad22,cp22,rfl⟩:=hk22.is;clear hk22 hkl22;go_wp2_with fail
         refine nE (A22.o.nodes (leaf_calls xr A22.o.1 (A22.o.fit HF.o 10 ya) K22.o.1 (by have:=HE.o.room;have:=K12.o.2;have:=K13.o.2;have:=K22.o.2;omega))) fun X23 ad23 cp23 n23 s23 t23 N23 A23 G23=>?_
         go_wp2_with fail
         refine vE (A23.o.put2 7 0 0 ByteArray.empty ByteArray.empty ByteArray.empty (N21.o.1.grew (G22.o.trans G23.o)) N23.o.1 ⟨z14,z14,z14⟩ (by have:=A23.o.bound HF.o ya yk;have:=N21.o.2;have:=N23.o.2;omega)) fun X24 ad24 cp24 n24 N24 A24 G24=>?_
         go_wp2_with fail
         refine vE (A24.o.put2 11 0 0 ByteArray.empty ByteArray.empty ByteArray.empty (N19.o.1.grew (G20.o.trans (G21.o.trans (G22.o.trans (G23.o.trans G24.o))))) N24.o.1 ⟨z14,z14,z14⟩ (by have:=A24.o.bound HF.o ya yk;have:=N19.o.2;have:=N16.o.2;have:=N18.o.2;have:=N24.o.2;have:=N21.o.2;have:=N23.o.2;omega)) fun X25 ad25 cp25 n25 N25 A25 G25=>?_
         have ec:=(((G10.o.trans (G11.o.trans (G12.o.trans (G13.o.trans (G14.o.trans (G15.o.trans (G16.o.trans (G17.o.trans (G18.o.trans (G19.o.trans (G20.o.trans (G21.o.trans (G22.o.trans (G23.o.trans (G24.o.trans G25.o)))))))))))))))).cell (p:=⟨bq,0,none⟩) ⟨z13 EB.o,(show bq≠d.B by have:=HQ2.o.1;omega),(show bq≠d.G by have:=HQ2.o.2;omega)⟩).trans (z11 EB.o 0);have ec:X25.cell? ⟨bq,0,none⟩=some (.string xn):=ec;go_wp2_with fail
         refine vE (A25.o.put1 26 0 0 xn x10 x11 N25.o.1 ⟨HQ.o.2.1,B10.o,B11.o⟩ (by have:=A25.o.bound HF.o ya yk;have:=N25.o.2;have:=N19.o.2;have:=N16.o.2;have:=N18.o.2;have:=N24.o.2;have:=N21.o.2;have:=N23.o.2;omega)) fun X26 ad26 cp26 n26 N26 A26 G26=>?_
         clear ec;have HFl:O ((flatL (kdL (ls++ [⟨ad26,cp26,n26⟩]))).length=(flatL (kdL ls)).length+n26.length):=yap;have HLL:O (ls.length<=1000):=yaq;go_wp2_with (at_builtin;refine z34 rfl _ _ 273 rfl _ _ rfl rfl (fun ty_=>HH.o.app H0.o A26.o (G7.o.trans (G9.o.trans (G10.o.trans (G11.o.trans (G12.o.trans (G13.o.trans (G14.o.trans (G15.o.trans (G16.o.trans (G17.o.trans (G18.o.trans (G19.o.trans (G20.o.trans (G21.o.trans (G22.o.trans (G23.o.trans (G24.o.trans (G25.o.trans G26.o)))))))))))))))))) ⟨ad26,cp26,n26⟩ N26.o.1 HLL.o ty_) ?_;intro vq Xq hvq;have HQQ:=U hvq;clear hvq)
         rw[z30 yar];exact⟨⟨i2+1,ls++ [⟨ad26,cp26,n26⟩],_,_,_,rfl,ya,HQQ,uw,yas,by have:=HB.o;have:=HFl.o;have:=N26.o.2;have:=N25.o.2;have:=N19.o.2;have:=N16.o.2;have:=N18.o.2;have:=N24.o.2;have:=N21.o.2;have:=N23.o.2;omega⟩,hstep⟩
        .have z4:(m20==0)=false:=by simp[hm4]
         have ec:=(((G10.o.trans (G11.o.trans (G12.o.trans (G13.o.trans (G14.o.trans (G15.o.trans (G16.o.trans (G17.o.trans (G18.o.trans (G19.o.trans G20.o))))))))))).cell (p:=⟨bq,0,none⟩) ⟨z13 EB.o,(show bq≠d.B by have:=HQ2.o.1;omega),(show bq≠d.G by have:=HQ2.o.2;omega)⟩).trans (z11 EB.o 0);have ec:X20.cell? ⟨bq,0,none⟩=some (.string xn):=ec;go_wp2_with fail
         refine vE (A20.o.put1 26 0 0 xn x10 x11 (N19.o.1.grew G20.o) ⟨HQ.o.2.1,B10.o,B11.o⟩ (by have:=A20.o.bound HF.o ya yk;have:=N19.o.2;have:=N16.o.2;have:=N18.o.2;omega)) fun X21 ad21 cp21 n21 N21 A21 G21=>?_
         clear ec;have HFl:O ((flatL (kdL (ls++ [⟨ad21,cp21,n21⟩]))).length=(flatL (kdL ls)).length+n21.length):=yap;have HLL:O (ls.length<=1000):=yaq;go_wp2_with (at_builtin;refine z34 rfl _ _ 273 rfl _ _ rfl rfl (fun ty_=>HH.o.app H0.o A21.o (G7.o.trans (G9.o.trans (G10.o.trans (G11.o.trans (G12.o.trans (G13.o.trans (G14.o.trans (G15.o.trans (G16.o.trans (G17.o.trans (G18.o.trans (G19.o.trans (G20.o.trans G21.o))))))))))))) ⟨ad21,cp21,n21⟩ N21.o.1 HLL.o ty_) ?_;intro vq Xq hvq;have HQQ:=U hvq;clear hvq)
         rw[z30 yar];exact⟨⟨i2+1,ls++ [⟨ad21,cp21,n21⟩],_,_,_,rfl,ya,HQQ,uw,yas,by have:=HB.o;have:=HFl.o;have:=N21.o.2;have:=N19.o.2;have:=N16.o.2;have:=N18.o.2;omega⟩,hstep⟩
       .have zt:(ty==1)=false:=by simp[hty1]
        have ec:=(((G10.o.trans (G11.o.trans (G12.o.trans (G13.o.trans (G14.o.trans (G15.o.trans (G16.o.trans (G17.o.trans (G18.o.trans G19.o)))))))))).cell (p:=⟨bq,0,none⟩) ⟨z13 EB.o,(show bq≠d.B by have:=HQ2.o.1;omega),(show bq≠d.G by have:=HQ2.o.2;omega)⟩).trans (z11 EB.o 0);have ec:X19.cell? ⟨bq,0,none⟩=some (.string xn):=ec;go_wp2_with fail
        refine vE (A19.o.put1 26 0 0 xn x10 x11 N19.o.1 ⟨HQ.o.2.1,B10.o,B11.o⟩ (by have:=A19.o.bound HF.o ya yk;have:=N19.o.2;have:=N16.o.2;have:=N18.o.2;omega)) fun X20 ad20 cp20 n20 N20 A20 G20=>?_
        clear ec;have HFl:O ((flatL (kdL (ls++ [⟨ad20,cp20,n20⟩]))).length=(flatL (kdL ls)).length+n20.length):=yap;have HLL:O (ls.length<=1000):=yaq;go_wp2_with (at_builtin;refine z34 rfl _ _ 273 rfl _ _ rfl rfl (fun ty_=>HH.o.app H0.o A20.o (G7.o.trans (G9.o.trans (G10.o.trans (G11.o.trans (G12.o.trans (G13.o.trans (G14.o.trans (G15.o.trans (G16.o.trans (G17.o.trans (G18.o.trans (G19.o.trans G20.o)))))))))))) ⟨ad20,cp20,n20⟩ N20.o.1 HLL.o ty_) ?_;intro vq Xq hvq;have HQQ:=U hvq;clear hvq)
        rw[z30 yar];exact⟨⟨i2+1,ls++ [⟨ad20,cp20,n20⟩],_,_,_,rfl,ya,HQQ,uw,yas,by have:=HB.o;have:=HFl.o;have:=N20.o.2;have:=N19.o.2;have:=N16.o.2;have:=N18.o.2;omega⟩,hstep⟩
      .have hm30:m15=0:=by omega
       subst hm30;have ec:=(((G10.o.trans (G11.o.trans (G12.o.trans (G13.o.trans (G14.o.trans G15.o)))))).cell (p:=⟨bq,0,none⟩) ⟨z13 EB.o,(show bq≠d.B by have:=HQ2.o.1;omega),(show bq≠d.G by have:=HQ2.o.2;omega)⟩).trans (z11 EB.o 0);have ec:X15.cell? ⟨bq,0,none⟩=some (.string xn):=ec;go_wp2_with fail
       refine vE (A15.o.put1 26 0 0 xn x10 x11 (N14.o.1.grew G15.o) ⟨HQ.o.2.1,B10.o,B11.o⟩ (by have:=A15.o.bound HF.o ya yk;have:=N14.o.2;omega)) fun X16 ad16 cp16 n16 N16 A16 G16=>?_
       clear ec;have HFl:O ((flatL (kdL (ls++ [⟨ad16,cp16,n16⟩]))).length=(flatL (kdL ls)).length+n16.length):=yap;have HLL:O (ls.length<=1000):=yaq;go_wp2_with (at_builtin;refine z34 rfl _ _ 273 rfl _ _ rfl rfl (fun ty_=>HH.o.app H0.o A16.o (G7.o.trans (G9.o.trans (G10.o.trans (G11.o.trans (G12.o.trans (G13.o.trans (G14.o.trans (G15.o.trans G16.o)))))))) ⟨ad16,cp16,n16⟩ N16.o.1 HLL.o ty_) ?_;intro vq Xq hvq;have HQQ:=U hvq;clear hvq)
       rw[z30 yar];exact⟨⟨i2+1,ls++ [⟨ad16,cp16,n16⟩],_,_,_,rfl,ya,HQQ,uw,yas,by have:=HB.o;have:=HFl.o;have:=N16.o.2;have:=N14.o.2;omega⟩,hstep⟩
     .have e2:i2=os'.length:=by omega
      have hb4:=HOs.o.2;have hcz:c2<=190/\(flatL (kdL ls)).length<=t2+35:=uw;have AZ:=U HH.o.at_;have HKZ:=U (kids_own HH.o.kids H0.o.ltB H0.o.ltG HH.o.nodes);go_wp2_with fail
      refine(AZ.o.put_kids 23 0 0 ⟨#[]⟩ ⟨#[]⟩ ⟨#[]⟩ HKZ.o ⟨z14,z14,z14⟩ (by simp[kdL];have:=HB.o;omega) yat).mono ?_;rintro e XZ ⟨vz,nz,rfl,hnz,hlz,haz,hgz⟩;have NZ:=U (Lc haz (Lc hnz hlz));clear haz hnz hlz hgz;go_wp2_with fail
      go_ret;exact NZ.o.1.done 36 NZ.o.2.1 (by have:=NZ.o.2.2;omega) ya
end
end Go.Proofs.YtbbffkiobmbkfaaGreatDoor
