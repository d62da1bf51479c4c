import Derived.Test.YtbbffkiobmbkfaaGreatDoorPkV32
open Go.Proofs.Tryz
open Go.Value Go.IntKind
set_option maxHeartbeats 8000000
set_option maxRecDepth 100000
namespace Go.Proofs.YtbbffkiobmbkfaaGreatDoor
open Go.RowKit Go.Conc
variable {a b:Act}{ops:Array Oper}{closed:Bool}{Q:Exit->Act->World->Prop}{d:Int}{wk:List Nat}{T:List Sq}{Fb N cc ch gs k s:Nat}{vs:Nat->Value}{ac:Option Addr}{P:Program}{vc:Value}{W W' W0 w:World}
section
open Go.RowKit Go.Conc
def spc (s:Sq):Nat->Value
 |0=>int i64 s.n
 |1=>int i64 s.v
 |_=>int i64 s.p
def spF (T:List Sq) (i:Nat):Value:=spc (tg T (i/3)) (i % 3)
def wkA (wk:List Nat):Array Value:=(wk.map (fun(k:Nat)=>Value.int .i64 (k:Int))).toArray
theorem tgF_mem (hk:k<T.length):tg T k∈T:=by
 unfold tg;rw[List.getD_eq_getElem?_getD,Lr hk];exact List.getElem_mem _
structure Fl (W0:World) (Fb:Nat) (vc:Value) (gs ch N:Nat) (T:List Sq) (wk:List Nat) (d:Int) (closed:Bool) (W:World):Prop where
 blk:W.heap[Fb]?=some (.cells #[vc,.slice (some ⟨gs,0,none⟩) N N,.chan (some ch),int i64 (d+wk.length)] 150)
 row:W.rowIs gs 153 (3*N) (spF T)
 chb:∃s r,W.heap[ch]?=some (.chan N (wkA wk) closed s r false)
 lo:W0.heap.size<=Fb/\W0.heap.size<=gs/\W0.heap.size<=ch
 bel:Below W0.heap.size W0 W
 len:T.length=N
 nl:N<=1500
 sane:∀s∈T,SaneS s
 room:wk.length+free T<=N
 dl:0<=d/\d<=1
structure Fz (W W':World):Prop where
 size:W.heap.size<=W'.heap.size
 block:∀(q:Nat) (c:Array Value) (t:TypeId),W.heap[q]?=some (Obj.cells c t)->t≠153->t≠150->W'.heap[q]?=W.heap[q]?
theorem Fz.of_below (h:Below W.heap.size W W'):Fz W W':= ⟨h.size,fun q _ _ hq _ _=>h.block q (z13 hq)⟩
theorem Fz.refl (W:World):Fz W W:=Fz.of_below Lb
theorem Fz.trans {W'':World}(h:Fz W W') (h':Fz W' W''):Fz W W'':=
 ⟨Lf h.size h'.size,fun q c t hq h1 h2=>by
  have e:=h.block q c t hq h1 h2;exact(h'.block q c t (e.trans hq) h1 h2).trans e⟩
theorem z75 (W:World) (c cap:Nat) (buf:Array Value) (cl:Bool) (s r:Nat) (tm:Bool) {q:Nat}(hq:q≠c):(W.setChan c cap buf cl s r tm).heap[q]?=W.heap[q]? :=by
 simp only[World.setChan];rw[Array.getElem?_setIfInBounds_ne (Ne.symm hq)]
theorem Fl.below (h:Fl W0 Fb vc gs ch N T wk d closed W) (hb:Below W.heap.size W W'):Fl W0 Fb vc gs ch N T wk d closed W':= by
 obtain⟨s,r,hc⟩:=h.chb;exact⟨(hb.block _ (z13 h.blk)).trans h.blk,h.row.of_block (hb.block _ h.row.lt),⟨s,r,(hb.block _ (z13 hc)).trans hc⟩,h.lo,h.bel.trans (hb.mono h.bel.size),h.len,h.nl,h.sane,h.room,h.dl⟩
theorem Fl.ne (h:Fl W0 Fb vc gs ch N T wk d closed W):Fb≠gs/\Fb≠ch/\gs≠ch:=by
 obtain⟨s,r,hc⟩:=h.chb;obtain⟨c,hb,-⟩:=h.row;refine⟨fun e=>?_,fun e=>?_,fun e=>?_⟩
 .subst e;rw[h.blk]at hb
  cases hb
 .subst e;rw[h.blk]at hc
  cases hc
 .subst e;rw[hb]at hc
  cases hc
theorem Fl.cells (h:Fl W0 Fb vc gs ch N T wk d closed W) (hk:k<N) :
 W.cell? ⟨gs,k*3,none⟩=some (int i64 (tg T k).n)/\W.cell? ⟨gs,k*3+1,none⟩=some (int i64 (tg T k).v)/\W.cell? ⟨gs,k*3+2,none⟩=some (int i64 (tg T k).p)/\W.frozen? ⟨gs,k*3,none⟩=false/\W.frozen? ⟨gs,k*3+1,none⟩=false/\W.frozen? ⟨gs,k*3+2,none⟩=false:=by
 refine⟨?_,?_,?_,h.row.frozen _,h.row.frozen _,h.row.frozen _⟩
 .rw[h.row.cell (show k*3<3*N by omega)];show some (spc (tg T (k*3/3)) (k*3 % 3))=_;rw[show k*3/3=k by omega,show k*3 % 3=0 by omega];rfl
 .rw[h.row.cell (show k*3+1<3*N by omega)];show some (spc (tg T ((k*3+1)/3)) ((k*3+1) % 3))=_;rw[show(k*3+1)/3=k by omega,show(k*3+1) % 3=1 by omega];rfl
 .rw[h.row.cell (show k*3+2<3*N by omega)];show some (spc (tg T ((k*3+2)/3)) ((k*3+2) % 3))=_;rw[show(k*3+2)/3=k by omega,show(k*3+2) % 3=2 by omega];rfl
def spot3 (W:World) (gs k:Nat) (s:Sq):World:=((W.setCell ⟨gs,k*3,none⟩ (int i64 s.n)).setCell ⟨gs,k*3+1,none⟩ (int i64 s.v)).setCell ⟨gs,k*3+2,none⟩ (int i64 s.p)
theorem Fl.push (h:Fl W0 Fb vc gs ch N T wk d false W) (hk:k<N) (h0:(tg T k).p=0) {s:Sq}(hs:SaneS s) (hp:s.p≠0) {s0 r0:Nat}(hc:W.heap[ch]?=some (.chan N (wkA wk) false s0 r0 false)) :
 Fl W0 Fb vc gs ch N (T.set k s) (wk++ [k]) d false ((((spot3 W gs k s).setCell ⟨Fb,3,none⟩ (int i64 (d+wk.length+1))).drew).setChan ch N ((wkA wk).push (int i64 (k:Int))) false (s0+1) r0 false)/\Fz W ((((spot3 W gs k s).setCell ⟨Fb,3,none⟩ (int i64 (d+wk.length+1))).drew).setChan ch N ((wkA wk).push (int i64 (k:Int))) false (s0+1) r0 false):=by
 have hf:=free_set T k (by rw[h.len];exact hk) h0 s hp;have hr:=h.room;obtain⟨n1,n2,n3⟩:=h.ne;obtain⟨l1,l2,l3⟩:=h.lo;obtain⟨cg,hcg,-⟩:=id h.row;have hg1:∀q,q≠gs->(spot3 W gs k s).heap[q]?=W.heap[q]? :=fun q hq=>by
  unfold spot3;rw[Lg _ ⟨gs,k*3+2,none⟩ _ q hq,Lg _ ⟨gs,k*3+1,none⟩ _ q hq,Lg _ ⟨gs,k*3,none⟩ _ q hq]
 have hg2:∀q,q≠gs->q≠Fb->q≠ch->((((spot3 W gs k s).setCell ⟨Fb,3,none⟩ (int i64 (d+wk.length+1))).drew).setChan ch N ((wkA wk).push (int i64 (k:Int))) false (s0+1) r0 false).heap[q]?=W.heap[q]? :=fun q q1 q2 q3=>by
  rw[z75 _ _ _ _ _ _ _ _ q3];show((spot3 W gs k s).setCell ⟨Fb,3,none⟩ (int i64 (d+wk.length+1))).heap[q]?=_;rw[Lg _ ⟨Fb,3,none⟩ _ q q2,hg1 q q1]
 have hsz:((((spot3 W gs k s).setCell ⟨Fb,3,none⟩ (int i64 (d+wk.length+1))).drew).setChan ch N ((wkA wk).push (int i64 (k:Int))) false (s0+1) r0 false).heap.size=W.heap.size:=by
  rw[size_setChan];show((spot3 W gs k s).setCell ⟨Fb,3,none⟩ (int i64 (d+wk.length+1))).heap.size=_;simp[spot3,World.setCell]
 have hbF:(spot3 W gs k s).heap[Fb]?=_:=(hg1 Fb n1).trans h.blk;refine⟨⟨?_,?_,⟨s0+1,r0,?_⟩,h.lo,?_,by rw[List.length_set];exact h.len,h.nl,fun s' hs'=> ?_,ycj,h.dl⟩,⟨by rw[hsz];exact La,fun q c t hq t1 t2=>hg2 q (fun e=>?_) (fun e=>?_) (fun e=>?_)⟩⟩
 .rw[z75 _ _ _ _ _ _ _ _ n2];show((spot3 W gs k s).setCell ⟨Fb,3,none⟩ (int i64 (d+wk.length+1))).heap[Fb]?=_;have e:(d+((wk++ [k]).length:Int))=d+wk.length+1:=ycj;rw[e];simp[World.setCell,Array.getElem?_modify,hbF]
 ·have r3:=((h.row.set (k*3) (int i64 s.n)).set (k*3+1) (int i64 s.v)).set (k*3+2) (int i64 s.p);have r4:(spot3 W gs k s).rowIs gs 153 (3*N) (spF (T.set k s)):=r3.congr (fun i hi=>by
   have hts:=tg_set (T:=T) (show k<T.length by rw[h.len];exact hk) s;show _=spc (tg (T.set k s) (i/3)) (i % 3);rw[hts];by_cases e:i/3=k
   .rw[if_pos e];have h3:i=k*3\/i=k*3+1\/i=k*3+2:=ya;rcases h3 with rfl|rfl|rfl
    .rw[if_neg ya,if_neg ya,if_pos rfl,show k*3 % 3=0 by omega];rfl
    .rw[if_neg ya,if_pos rfl,show(k*3+1) % 3=1 by omega];rfl
    .rw[if_pos rfl,show(k*3+2) % 3=2 by omega];rfl
   .rw[if_neg e,if_neg ya,if_neg ya,if_neg ya];rfl)
  have e5:((((spot3 W gs k s).setCell ⟨Fb,3,none⟩ (int i64 (d+wk.length+1))).drew).setChan ch N ((wkA wk).push (int i64 (k:Int))) false (s0+1) r0 false).heap[gs]?=(spot3 W gs k s).heap[gs]? :=by
   rw[z75 _ _ _ _ _ _ _ _ n3];show((spot3 W gs k s).setCell ⟨Fb,3,none⟩ (int i64 (d+wk.length+1))).heap[gs]?=_;exact Lg (spot3 W gs k s) ⟨Fb,3,none⟩ _ gs (Ne.symm n1)
  exact r4.of_block e5
 .have e:wkA (wk++ [k])=(wkA wk).push (int i64 (k:Int)):=by simp[wkA]
  rw[e];refine heap_setChan _ _ _ _ _ _ _ _ ?_;show ch<((spot3 W gs k s).setCell ⟨Fb,3,none⟩ (int i64 (d+wk.length+1))).heap.size;have:=z13 hc;simpa[spot3,World.setCell]using this
 .refine⟨h.bel.os,h.bel.tape,h.bel.output,by rw[hsz];exact h.bel.size,fun q hq=>(hg2 q ya ya ya).trans (h.bel.block q hq)⟩
 .rcases List.mem_or_eq_of_mem_set hs' with h1|rfl
  .exact h.sane s' h1
  .exact hs
 .subst e;rw[hcg]at hq
  cases hq;exact t1 rfl
 .subst e;rw[h.blk]at hq
  cases hq;exact t2 rfl
 .subst e;rw[hc]at hq
  cases hq
def IsBad (e:Ending):Prop:= ∃pb,e=.returned (.iface 144 (.pointer (some ⟨pb,0,none⟩)))
def ComeI (W0:World) (Fb:Nat) (vc:Value) (gs ch N:Nat) (d:Int) (W:World) (r:Option (List Sq×List Nat)) (e:Ending) (W':World):Prop:=
 Below W0.heap.size W0 W'/\Fz W W'/\(r=none->IsBad e)/\ ∀x,r=some x->e=.returned .nilIface/\Fl W0 Fb vc gs ch N x.1 x.2 d false W'
def lst2 (i j:Nat):Array Bool:= #[decide (0<i),decide (1<i),decide (2<i),decide (3<i),decide (0<j),decide (1<j),false]
def rd2 (i j:Nat):List Nat:=(if i<4 then [i] else [])++(if j<2 then [4+j] else [])++(if i=4/\j=2 then [6] else [])
structure Got2 (a:Act) (s:Nat) (vs:Nat->Value) (i j:Nat) (b:Act):Prop where
 size:b.tmps.size=a.tmps.size
 old:∀t,t<s\/s+6<=t->b.tmps[t]?=a.tmps[t]?
 ga:∀k,k<i->b.tmps[s+k]?=some (vs k)
 gb:∀k,k<j->b.tmps[s+4+k]?=some (vs (4+k))
 ua:∀k,i<=k->k<4->b.tmps[s+k]?=a.tmps[s+k]?
 ub:∀k,j<=k->k<2->b.tmps[s+4+k]?=a.tmps[s+4+k]?
 defers:b.defers=a.defers
theorem put_get {t u:Nat}{v:Value}(ht:t<b.tmps.size):(b.put (some t) v).tmps[u]?=if u=t then some v else b.tmps[u]? :=by
 unfold Act.put;dsimp only;rw[Array.getElem?_setIfInBounds];by_cases h:t=u
 .subst h;simp[ht]
 .rw[if_neg h,if_neg (Ne.symm h)]
theorem Got2.nextA {i j:Nat}(h:Got2 a s vs i j b) (hs:s+6<=a.tmps.size) (hi:i<4):Got2 a s vs (i+1) j (b.put (some (s+i)) (vs i)):=by
 have hg:=fun u=>put_get (b:=b) (t:=s+i) (u:=u) (v:=vs i) (by rw[h.size];omega)
 refine⟨by simp[Act.put,h.size],fun t ht=>?_,fun k hk=>?_,fun k hk=>?_,fun k h1 h2=>?_,fun k h1 h2=>?_,h.defers⟩
 .rw[hg,if_neg ya];exact h.old t ht
 .rw[hg];by_cases e:k=i
  .rw[e,if_pos rfl]
  .rw[if_neg ya];exact h.ga k ya
 .rw[hg,if_neg ya];by_cases e:k<2
  .exact h.gb k hk
  .exact h.gb k hk
 .rw[hg,if_neg ya];exact h.ua k ya h2
 .rw[hg,if_neg ya];exact h.ub k h1 h2
theorem Got2.nextB {i j:Nat}(h:Got2 a s vs i j b) (hs:s+6<=a.tmps.size) (hi:i<=4) (hj:j<2):Got2 a s vs i (j+1) (b.put (some (s+4+j)) (vs (4+j))):=by
 have hg:=fun u=>put_get (b:=b) (t:=s+4+j) (u:=u) (v:=vs (4+j)) (by rw[h.size];omega)
 refine⟨by simp[Act.put,h.size],fun t ht=>?_,fun k hk=>?_,fun k hk=>?_,fun k h1 h2=>?_,fun k h1 h2=>?_,h.defers⟩
 .rw[hg,if_neg ya];exact h.old t ht
 .rw[hg,if_neg ya];exact h.ga k hk
 .rw[hg];by_cases e:k=j
  .rw[e,if_pos rfl]
  .rw[if_neg ya];exact h.gb k ya
 .rw[hg,if_neg ya];exact h.ua k h1 h2
 .rw[hg,if_neg ya];exact h.ub k ya h2
theorem Got2.all (h:Got2 a s vs 4 2 b) (hs:s+6<=a.tmps.size) :
 b=(((((a.put (some s) (vs 0)).put (some (s+1)) (vs 1)).put (some (s+2)) (vs 2)).put (some (s+3)) (vs 3)).put (some (s+4)) (vs 4)).put (some (s+5)) (vs 5):=by
 have sz:∀(c:Act) t v,(c.put (some t) v).tmps.size=c.tmps.size:=fun c t v=>by simp[Act.put]
 have df:∀(c:Act) t v,(c.put (some t) v).defers=c.defers:=fun c t v=>rfl
 obtain⟨a1,h1⟩:∃x,a.put (some s) (vs 0)=x:=⟨_,rfl⟩
 have z1:a1.tmps.size=a.tmps.size:=by rw[<-h1,sz]
 have d1:a1.defers=a.defers:=by rw[<-h1,df]
 have g1:∀u,a1.tmps[u]?=if u=s then some (vs 0) else a.tmps[u]? :=fun u=>by rw[<-h1];exact put_get ya
 rw[h1];clear h1;obtain⟨a2,h2⟩:∃x,a1.put (some (s+1)) (vs 1)=x:=⟨_,rfl⟩
 have z2:a2.tmps.size=a.tmps.size:=by rw[<-h2,sz];exact z1
 have d2:a2.defers=a.defers:=by rw[<-h2,df];exact d1
 have g2:∀u,a2.tmps[u]?=if u=(s+1) then some (vs 1) else a1.tmps[u]? :=fun u=>by rw[<-h2];exact put_get (by rw[z1];omega)
 rw[h2];clear h2;obtain⟨a3,h3⟩:∃x,a2.put (some (s+2)) (vs 2)=x:=⟨_,rfl⟩
 have z3:a3.tmps.size=a.tmps.size:=by rw[<-h3,sz];exact z2
 have d3:a3.defers=a.defers:=by rw[<-h3,df];exact d2
 have g3:∀u,a3.tmps[u]?=if u=(s+2) then some (vs 2) else a2.tmps[u]? :=fun u=>by rw[<-h3];exact put_get (by rw[z2];omega)
 rw[h3];clear h3;obtain⟨a4,h4⟩:∃x,a3.put (some (s+3)) (vs 3)=x:=⟨_,rfl⟩
 have z4:a4.tmps.size=a.tmps.size:=by rw[<-h4,sz];exact z3
 have d4:a4.defers=a.defers:=by rw[<-h4,df];exact d3
 have g4:∀u,a4.tmps[u]?=if u=(s+3) then some (vs 3) else a3.tmps[u]? :=fun u=>by rw[<-h4];exact put_get (by rw[z3];omega)
 rw[h4];clear h4;obtain⟨a5,h5⟩:∃x,a4.put (some (s+4)) (vs 4)=x:=⟨_,rfl⟩
 have z5:a5.tmps.size=a.tmps.size:=by rw[<-h5,sz];exact z4
 have d5:a5.defers=a.defers:=by rw[<-h5,df];exact d4
 have g5:∀u,a5.tmps[u]?=if u=(s+4) then some (vs 4) else a4.tmps[u]? :=fun u=>by rw[<-h5];exact put_get (by rw[z4];omega)
 rw[h5];clear h5;obtain⟨a6,h6⟩:∃x,a5.put (some (s+5)) (vs 5)=x:=⟨_,rfl⟩
 have z6:a6.tmps.size=a.tmps.size:=by rw[<-h6,sz];exact z5
 have d6:a6.defers=a.defers:=by rw[<-h6,df];exact d5
 have g6:∀u,a6.tmps[u]?=if u=(s+5) then some (vs 5) else a5.tmps[u]? :=fun u=>by rw[<-h6];exact put_get (by rw[z5];omega)
 rw[h6];clear h6;obtain⟨bt,bd⟩:=b;obtain⟨t6,e6⟩:=a6;have hd:=h.defers;dsimp only at hd d6;have e:bt=t6:=by
  apply Array.ext_getElem?;intro u;have gu:=g6 u;dsimp only at gu;rw[gu,g5,g4,g3,g2,g1];by_cases u5:u=s+5
  .rw[if_pos u5,u5];exact h.gb 1 ya
  rw[if_neg u5];by_cases u4:u=s+4
  .rw[if_pos u4,u4];exact h.gb 0 ya
  rw[if_neg u4];by_cases u3:u=s+3
  .rw[if_pos u3,u3];exact h.ga 3 ya
  rw[if_neg u3];by_cases u2:u=s+2
  .rw[if_pos u2,u2];exact h.ga 2 ya
  rw[if_neg u2];by_cases u1:u=s+1
  .rw[if_pos u1,u1];exact h.ga 1 ya
  rw[if_neg u1];by_cases u0:u=s
  .rw[if_pos u0,u0];exact h.ga 0 ya
  rw[if_neg u0];exact h.old u ya
 rw[e,hd,d6]
structure Sends (P:Program) (ops:Array Oper) (a:Act) (s:Nat) (vs:Nat->Value) (c:Nat) (z:Value) (x:Value) (w:World):Prop where
 size:ops.size=7
 room:s+6<=a.tmps.size
 rdyB:((List.range 5).all fun i=>(List.range 3).all fun j=>Region.ready .any ops (lst2 i j)==rd2 i j)=true
 dst:∀k,k<6->(ops[k]?).map (fun o=>(o.dst,o.guard))=some (some (s+k),none)
 dst6:(ops[6]?).map (fun o=>(o.dst,o.guard))=some (none,none)
 runA:∀i,i<4-> ∀b j,Got2 a s vs i j b-> ∀o,ops[i]?=some o->(execOp b.eval o).run P w=.ok (.value (vs i)) w
 runB:∀j,j<2-> ∀b i,Got2 a s vs i j b-> ∀o,ops[4+j]?=some o->(execOp b.eval o).run P w=.ok (.value (vs (4+j))) w
 run6:∀b,Got2 a s vs 4 2 b-> ∀o,ops[6]?=some o->(execOp b.eval o).run P w=.ok (.comm #[scase c x z] true .send) w
theorem Sends.rdy {c:Nat}{z x:Value}(h:Sends P ops a s vs c z x w) (i:Nat) (hi:i<=4) (j:Nat) (hj:j<=2):Region.ready .any ops (lst2 i j)=rd2 i j:=by
 have h1:=List.all_eq_true.1 h.rdyB i (List.mem_range.2 ya);have h2:=List.all_eq_true.1 h1 j (List.mem_range.2 ya);simpa using h2
theorem setA2:∀i,i<4-> ∀j,j<=2->(lst2 i j).setIfInBounds i true=lst2 (i+1) j:=fun i hi j hj=>by
 have hi':i=0\/i=1\/i=2\/i=3:=ya;have hj':j=0\/j=1\/j=2:=ya;rcases hi' with rfl|rfl|rfl|rfl<;>rcases hj' with rfl|rfl|rfl<;>decide
theorem setB2:∀i,i<=4-> ∀j,j<2->(lst2 i j).setIfInBounds (4+j) true=lst2 i (j+1):=fun i hi j hj=>by
 have hi':i=0\/i=1\/i=2\/i=3\/i=4:=ya;have hj':j=0\/j=1:=ya;rcases hi' with rfl|rfl|rfl|rfl|rfl<;>rcases hj' with rfl|rfl<;>decide
theorem wanted_none {o:Oper}{ts:Array Value}(h:o.guard=none):Region.wanted o (yielded ops ts)=true:=by
 unfold Region.wanted;rw[h]
theorem anyN_sends {c cap s0 r0:Nat}{z x:Value}{buf:Array Value}(h:Sends P ops a s vs c z x w) (hc:w.heap[c]?=some (.chan cap buf false s0 r0 false)) (hroom:buf.size<cap)
 (hQ:Q .normal ((((((a.put (some s) (vs 0)).put (some (s+1)) (vs 1)).put (some (s+2)) (vs 2)).put (some (s+3)) (vs 3)).put (some (s+4)) (vs 4)).put (some (s+5)) (vs 5)) (w.setChan c cap (buf.push x) false (s0+1) r0 false)) :
 ∀n i j b,i<=4->j<=2->n+i+j=6->Got2 a s vs i j b->AnyN P ops Q (n+1) (lst2 i j) b w:=by
 intro n;induction n with
 | zero=>
   intro i j b hi hj hn hg;obtain rfl:i=4:=ya;obtain rfl:j=2:=ya;refine anyN_next (h.rdy 4 ya 2 ya) yk (fun k hk t=>?_);have e:k=6:=by simpa[rd2]using hk
   subst e;have h6:=h.dst6
   cases ho:ops[6]? with
   |none=>rw[ho]at h6;cases h6
   | some o=>
     rw[ho]at h6;have h6':= Option.some.inj h6;dsimp only at h6';have e1:o.dst=none:=congrArg Prod.fst h6';have e2:o.guard=none:=congrArg Prod.snd h6';refine inR_send ho (wanted_none e2) (h.run6 b hg o ho) hc hroom ?_;have e3:Region.linearise.go .any ops 0 t ((lst2 4 2).setIfInBounds 6 true) []= []:=by simp[Region.linearise.go]
     rw[e3,e1];refine inR_of ?_;have e4:=hg.all h.room;subst e4;simpa[wpOps,Act.put]using hQ
 | succ n ih=>
   intro i j b hi hj hn hg;refine anyN_next (h.rdy i hi j hj) (by
    unfold rd2;by_cases h4:i<4
    .rw[if_pos h4];simp
    .rw[if_neg h4,if_pos ya];simp) (fun k hk=>?_)
   have hk2:(i<4/\k=i)\/(j<2/\k=4+j):=by
    unfold rd2 at hk;simp only[List.mem_append]at hk;rcases hk with (hk|hk)|hk
    .split at hk
     .exact Or.inl ⟨zy,by simpa using hk⟩
     .cases hk
    .split at hk
     .exact Or.inr ⟨zy,by simpa using hk⟩
     .cases hk
    .rw[if_neg ya]at hk
     cases hk
   intro t;rcases hk2 with ⟨h4,rfl⟩|⟨h2,rfl⟩
   .have hd:=h.dst k ya
    cases ho:ops[k]? with
    |none=>rw[ho]at hd;cases hd
    | some o=>
      rw[ho]at hd;have hd':= Option.some.inj hd;dsimp only at hd';have e1:o.dst=some (s+k):=congrArg Prod.fst hd';have e2:o.guard=none:=congrArg Prod.snd hd';refine inR_value ho (wanted_none e2) (h.runA k h4 b j hg o ho) ?_;rw[setA2 k h4 j hj,e1];exact ih (k+1) j _ ya hj ya (hg.nextA h.room h4) t
   .have hd:=h.dst (4+j) ya
    cases ho:ops[4+j]? with
    |none=>rw[ho]at hd;cases hd
    | some o=>
      rw[ho]at hd;have hd':= Option.some.inj hd;dsimp only at hd';have e1:o.dst=some (s+(4+j)):=congrArg Prod.fst hd';have e2:o.guard=none:=congrArg Prod.snd hd';refine inR_value ho (wanted_none e2) (h.runB j h2 b i hg o ho) ?_;rw[setB2 i hi j h2,e1,show s+(4+j)=s+4+j by omega];exact ih i (j+1) _ hi ya ya (hg.nextB h.room hi h2) t
theorem z57 {x y:Code}(h:∀K:Act->World->Prop,(∀a w,wpN P y Q a w->K a w)->x.wp P (Exit.then K Q) a w):wpN P (.seq x y) Q a w:=wpN_seq_wp (h _ fun _ _ h=>h)
theorem spot3_other (W:World) (gs k:Nat) (s:Sq) {q:Nat}(hq:q≠gs):(spot3 W gs k s).heap[q]?=W.heap[q]? :=by
 unfold spot3;rw[Lg _ ⟨gs,k*3+2,none⟩ _ q hq,Lg _ ⟨gs,k*3+1,none⟩ _ q hq,Lg _ ⟨gs,k*3,none⟩ _ q hq]
theorem wp_at {c:Code}{a':Act}(e:a=a') (h:c.wp P Q a' w):c.wp P Q a w:=by
 subst e;exact h
theorem fcl4 {x y z u:Value}{t:TypeId}{b:Nat}(h:w.heap[b]?=some (.cells #[x,y,z,u] t)):w.cell? ⟨b,0,none⟩=some x/\w.cell? ⟨b,1,none⟩=some y/\w.cell? ⟨b,2,none⟩=some z:=⟨z11 h 0,z11 h 1,z11 h 2⟩
theorem comeI_push (h:Fl W0 Fb (.slice ac N cc) gs ch N T wk d false W) (k:Nat) (n v p:Int) (hk:k<N) (hn:0<=n) (hn1:n<=100) (hv:0<=v) (hv1:v<=100) (hp0:1<=p) (hp1:p<=3) (hz:(tg T k).p=0) :
 Calls prog 79 #[.pointer (some ⟨Fb,0,none⟩),.agg #[int i64 (k:Int),int i64 n,int i64 v,int i64 p]] W fun e W'=> e=.returned .nilIface/\Fl W0 Fb (.slice ac N cc) gs ch N (T.set k ⟨n,v,p⟩) (wk++ [k]) d false W'/\Fz W W':= by
 refine zb61 ?_;unhygienic intros
 have hs0:tg T k=⟨0,0,0⟩:=sane_zero (h.sane _ (tgF_mem (by rw[h.len];exact hk))) hz;have hcell:=h1.cells hk;rw[hs0]at hcell;obtain⟨c0,c1,c2,-,-,-⟩:=hcell;have hEl:=z13 hV1;have hFl:=z13 h1.blk;have hgl:=h1.row.lt;obtain⟨Eb,hEb⟩:∃Eb,W.heap.size=Eb:=⟨_,rfl⟩
 rw[hEb]at hV1 hEl;have e0:=z11 hV1 0;have e1:=z11 hV1 1;have e2:=z11 hV1 2;have e3:=z11 hV1 3;have f0:=z11 h1.blk 0;have f1:=z11 h1.blk 1;simp at e0 e1 e2 e3 f0 f1;have pe0:∀y:Later V.heap.size V,y.w.cell? ⟨Eb,0,none⟩=_:=fun y=>y.cell hEl e0
 have pf0:∀y:Later V.heap.size V,y.w.cell? ⟨Fb,0,none⟩=_:=fun y=>y.cell hFl f0
 have HV:=U hV;have HEb:=U hEb;have HV1:=U hV1;have H1:=U h1;have HW:=U hVb;have HB:O (k<N/\0<=n/\n<=100/\0<=v/\v<=100/\1<=p/\p<=3/\(tg T k).p=0):=⟨hk,hn,hn1,hv,hv1,hp0,hp1,hz⟩
 have q1:decide ((N:Int)<=(k:Int))=false:=decide_eq_false ya;have q1n:decide (N<=k)=false:=decide_eq_false ya;have q2:¬ 100<n:=ya;have q3:¬ 100<v:=ya;have q4:(0==p)=false:=jd;have k0:(0:Int)<=(k:Int):=ya;have k1:(k:Int)<(N:Int):=ya;clear h hV hV1 hVb h1 hk hn hn1 hv hv1 hp0 hp1 hz hs0 e0 e1 e2 e3 f0;refine zb44 ?_;intro K hK;go_wp2_with fail
 rw[HV.o];clear hEb;refine z57 fun K hK=>?_
 go_wp2_with fail
 refine z28 V.heap.size ye ye ?_;repeat(go_big_quiet_step (fail))
 refine wpQuiet_nil ?_;rintro w5 ⟨y,rfl⟩;have HY1:=U y.h;clear pe0 pf0;have hf1:=(y.h.block Eb hEl).trans HV1.o;generalize y.w=X1 at*;have e1:=z11 hf1 1;have e2:=z11 hf1 2;simp at e1 e2;go_wp2_with fail
 clear c0 c1 c2 f1 e1 e2 hFl hgl;have HX1:=U (H1.o.below HY1.o);have hBX1:=z13 HX1.o.blk;have hGX1:=HX1.o.row.lt;have hEX1:=z13 hf1;have cX1:=HX1.o.cells HB.o.1;rw[sane_zero (HX1.o.sane _ (tgF_mem (by rw[HX1.o.len];exact HB.o.1))) HB.o.2.2.2.2.2.2.2]at cX1;obtain⟨c0,c1,c2,zc0,zc1,zc2⟩:=cX1;dsimp only at c0 c1 c2;have f1:=z11 HX1.o.blk 1;have e0:=z11 hf1 0;have e1:=z11 hf1 1;have e2:=z11 hf1 2;have e3:=z11 hf1 3;simp at f1 e0 e1 e2 e3;have pe0:∀y:Later X1.heap.size X1,y.w.cell? ⟨Eb,0,none⟩=_:=fun y=>y.cell hEX1 e0
 have pe1:∀y:Later X1.heap.size X1,y.w.cell? ⟨Eb,1,none⟩=_:=fun y=>y.cell hEX1 e1
 have pe2:∀y:Later X1.heap.size X1,y.w.cell? ⟨Eb,2,none⟩=_:=fun y=>y.cell hEX1 e2
 have pe3:∀y:Later X1.heap.size X1,y.w.cell? ⟨Eb,3,none⟩=_:=fun y=>y.cell hEX1 e3
 have pf1:∀y:Later X1.heap.size X1,y.w.cell? ⟨Fb,1,none⟩=_:=fun y=>y.cell hBX1 f1
 have pc0:∀y:Later X1.heap.size X1,y.w.cell? ⟨gs,k*3,none⟩=_:=fun y=>y.cell hGX1 c0
 have pc1:∀y:Later X1.heap.size X1,y.w.cell? ⟨gs,k*3+1,none⟩=_:=fun y=>y.cell hGX1 c1
 have pc2:∀y:Later X1.heap.size X1,y.w.cell? ⟨gs,k*3+2,none⟩=_:=fun y=>y.cell hGX1 c2
 refine z28 X1.heap.size ye ye ?_;repeat(go_big_quiet_step (fail))
 refine wpQuiet_nil ?_;rintro w5 ⟨y,rfl⟩;have HYX2:=U y.h;have hfX2:=(y.h.block Eb hEX1).trans hf1;generalize y.w=X2 at*;clear pe0 pe1 pe2 pe3 pf1 pc0 pc1 pc2 c0 c1 c2 zc0 zc1 zc2 f1 e0 e1 e2 e3;go_wp2_with fail
 have HX2:=U (HX1.o.below HYX2.o);have hBX2:=z13 HX2.o.blk;have hGX2:=HX2.o.row.lt;have hEX2:=z13 hfX2;have cX2:=HX2.o.cells HB.o.1;rw[sane_zero (HX2.o.sane _ (tgF_mem (by rw[HX2.o.len];exact HB.o.1))) HB.o.2.2.2.2.2.2.2]at cX2;obtain⟨c0,c1,c2,zc0,zc1,zc2⟩:=cX2;dsimp only at c0 c1 c2;have f1:=z11 HX2.o.blk 1;have e0:=z11 hfX2 0;have e1:=z11 hfX2 1;have e2:=z11 hfX2 2;have e3:=z11 hfX2 3;simp at f1 e0 e1 e2 e3;have pe0:∀y:Later X2.heap.size X2,y.w.cell? ⟨Eb,0,none⟩=_:=fun y=>y.cell hEX2 e0
 have pe1:∀y:Later X2.heap.size X2,y.w.cell? ⟨Eb,1,none⟩=_:=fun y=>y.cell hEX2 e1
 have pe2:∀y:Later X2.heap.size X2,y.w.cell? ⟨Eb,2,none⟩=_:=fun y=>y.cell hEX2 e2
 have pe3:∀y:Later X2.heap.size X2,y.w.cell? ⟨Eb,3,none⟩=_:=fun y=>y.cell hEX2 e3
 have pf1:∀y:Later X2.heap.size X2,y.w.cell? ⟨Fb,1,none⟩=_:=fun y=>y.cell hBX2 f1
 have pc0:∀y:Later X2.heap.size X2,y.w.cell? ⟨gs,k*3,none⟩=_:=fun y=>y.cell hGX2 c0
 have pc1:∀y:Later X2.heap.size X2,y.w.cell? ⟨gs,k*3+1,none⟩=_:=fun y=>y.cell hGX2 c1
 have pc2:∀y:Later X2.heap.size X2,y.w.cell? ⟨gs,k*3+2,none⟩=_:=fun y=>y.cell hGX2 c2
 refine z28 X2.heap.size ye ye ?_;repeat(go_big_quiet_step (fail))
 refine wpQuiet_nil ?_;rintro w5 ⟨y,rfl⟩;have HYX3:=U y.h;have hfX3:=(y.h.block Eb hEX2).trans hfX2;generalize y.w=X3 at*;clear pe0 pe1 pe2 pe3 pf1 pc0 pc1 pc2 c0 c1 c2 zc0 zc1 zc2 f1 e0 e1 e2 e3;go_wp2_with fail
 have HX3:=U (HX2.o.below HYX3.o);have hBX3:=z13 HX3.o.blk;have hGX3:=HX3.o.row.lt;have hEX3:=z13 hfX3;have cX3:=HX3.o.cells HB.o.1;rw[sane_zero (HX3.o.sane _ (tgF_mem (by rw[HX3.o.len];exact HB.o.1))) HB.o.2.2.2.2.2.2.2]at cX3;obtain⟨c0,c1,c2,zc0,zc1,zc2⟩:=cX3;dsimp only at c0 c1 c2;have f1:=z11 HX3.o.blk 1;have e0:=z11 hfX3 0;have e1:=z11 hfX3 1;have e2:=z11 hfX3 2;have e3:=z11 hfX3 3;simp at f1 e0 e1 e2 e3;refine z57 fun K hK=>?_
 go_wp2_with fail
 go_region
 go_wp2_with fail
 have HZb:O (Fl W0 Fb (.slice ac N cc) gs ch N T wk d false X3.drew):=HX3.o.below Lb.drew;obtain⟨s0,r0,hch⟩:=HZb.o.chb;have hpush:=HZb.o.push (s:=⟨n,v,p⟩) HB.o.1 HB.o.2.2.2.2.2.2.2 (Or.inr ⟨HB.o.2.2.2.2.2.1,HB.o.2.2.2.2.2.2.1,HB.o.2.1,HB.o.2.2.1,HB.o.2.2.2.1,HB.o.2.2.2.2.1⟩) (by dsimp only;have:=HB.o;omega) hch;obtain⟨Z,hZ⟩:∃Z,spot3 X3.drew gs k ⟨n,v,p⟩=Z:=⟨_,rfl⟩
 rw[hZ]at hpush;have hZF:Z.heap[Fb]?=X3.heap[Fb]? :=by rw[<-hZ];exact spot3_other X3.drew gs k _ HX3.o.ne.1
 have hZE:Z.heap[Eb]?=X3.heap[Eb]? :=by
  rw[<-hZ];refine spot3_other X3.drew gs k _ (fun e=>?_);obtain⟨cg,hcg,-⟩:=HX3.o.row;subst e;rw[hfX3]at hcg
  cases hcg
 have hZC:Z.heap[ch]?=X3.heap[ch]? :=by rw[<-hZ];exact spot3_other X3.drew gs k _ (Ne.symm HX3.o.ne.2.2)
 have HP:=U hpush;have HCh:O (Z.heap[ch]?=some (.chan N (wkA wk) false s0 r0 false)):=hZC.trans hch;have HZE:=U (hZE.trans hfX3);have HZF:=U (hZF.trans HX3.o.blk);have f3:=z11 HZF.o 3;have zf3:=z15 HZF.o 3;simp at f3;have hw3:wrap64 (d+(wk.length:Int)+1)=d+wk.length+1:=by
  rw[wrap64];have:=HX3.o.dl;have:=HX3.o.room;have:=HX3.o.nl;omega
 have HRm:O (wk.length<N):=by
  show _<_;have h1:=HX3.o.room;have h2:=free_set T k (by rw[HX3.o.len];exact HB.o.1) HB.o.2.2.2.2.2.2.2 ⟨n,v,p⟩ (by dsimp only;have:=HB.o;omega);omega
 have HFb:O (Fb≠Eb/\ch≠Fb):=by
  refine⟨fun e=>?_,Ne.symm HX3.o.ne.2.1⟩;subst e;have h1:=HZF.o;rw[HZE.o]at h1
  cases h1
 change wpN _ _ _ _ (spot3 X3.drew gs k ⟨n,v,p⟩);rw[hZ];clear hZ hpush hZF hZE hZC hch HZb c0 c1 c2 zc0 zc1 zc2 f1 e0 e1 e2 e3;refine z57 fun K hK=>?_
 go_wp2_with fail
 obtain⟨Z2,hZ2⟩:∃Z2,Z.setCell ⟨Fb,3,none⟩ (int i64 (d+wk.length+1))=Z2:=⟨_,rfl⟩
 have HF2:O (∃u,Z2.heap[Fb]?=some (.cells #[.slice ac N cc,.slice (some ⟨gs,0,none⟩) N N,.chan (some ch),u] 150)):=⟨int i64 (d+wk.length+1),by rw[<-hZ2];simp[World.setCell,Array.getElem?_modify,HZF.o]⟩
 have HE2:O (Z2.heap[Eb]?=_):=(by rw[<-hZ2];exact Lg Z ⟨Fb,3,none⟩ _ Eb (Ne.symm HFb.o.1):Z2.heap[Eb]?=Z.heap[Eb]?).trans HZE.o;have HC2:O (Z2.heap[ch]?=_):=(by rw[<-hZ2];exact Lg Z ⟨Fb,3,none⟩ _ ch HFb.o.2:Z2.heap[ch]?=Z.heap[ch]?).trans HCh.o;rw[hZ2]at HP |-;clear hZ2 f3 zf3 hw3;obtain⟨u3,hF2⟩:=HF2.o;have f2:=z11 hF2 2;have e0:=z11 HE2.o 0;simp at f2 e0;have f2:Z2.drew.cell? ⟨Fb,2,none⟩=some (.chan (some ch)):=f2;have e0:Z2.drew.cell? ⟨Eb,0,none⟩=some (int i64 (k:Int)):=e0;refine wpN_seq ?_;refine wpN_region_any ye ?_;change AnyN _ _ _ (6+1) (lst2 0 0) _ _
 refine anyN_sends (w:=Z2.drew) (s:=79) (vs:=fun|0=> .pointer (some ⟨Fb,0,none⟩)|1=> .pointer (some ⟨Fb,0,none⟩)|2=> .pointer (some ⟨Fb,2,none⟩)|3=> .chan (some ch)|4=> .pointer (some ⟨Eb,0,none⟩)|_=>int i64 (k:Int)) (c:=ch) (z:=.tuple #[]) (x:=int i64 (k:Int)) (cap:=N) (buf:=wkA wk) (s0:=s0) (r0:=r0) ?_ (show Z2.drew.heap[ch]?=_ from HC2.o) (by simp[wkA];exact HRm.o) ?_ 6 0 0 _ ya ya rfl ⟨rfl,fun _ _=>rfl,fun k hk=>absurd hk ya,fun k hk=>absurd hk ya,fun _ _ _=>rfl,fun _ _ _=>rfl,rfl⟩
 .refine⟨rfl,?_,ye,?_,rfl,?_,?_,?_⟩
  .exact Nat.le_refl 85
  .intro i hi;have hi':i=0\/i=1\/i=2\/i=3\/i=4\/i=5:=ya;rcases hi' with rfl|rfl|rfl|rfl|rfl|rfl<;>rfl
  .intro i hi b j hg o ho;have hi':i=0\/i=1\/i=2\/i=3:=ya;rcases hi' with rfl|rfl|rfl|rfl
   .have e:b.tmps[0]?=some (.pointer (some ⟨Fb,0,none⟩)):=(hg.old 0 ya).trans rfl
    cases ho;simp[go_sem,e]
   .have e:b.tmps[79]?=some (.pointer (some ⟨Fb,0,none⟩)):=hg.ga 0 ya
    cases ho;simp[go_sem,e]
   .have e:b.tmps[80]?=some (.pointer (some ⟨Fb,0,none⟩)):=hg.ga 1 ya
    cases ho;simp[go_sem,e]
   .have e:b.tmps[81]?=some (.pointer (some ⟨Fb,2,none⟩)):=hg.ga 2 ya
    cases ho;simp[go_sem,e,f2]
  .intro j hj b i hg o ho;have hj':j=0\/j=1:=ya;rcases hj' with rfl|rfl
   .have e:b.tmps[3]?=some (.pointer (some ⟨Eb,0,none⟩)):=(hg.old 3 ya).trans rfl
    cases ho;simp[go_sem,e]
   .have e:b.tmps[83]?=some (.pointer (some ⟨Eb,0,none⟩)):=hg.gb 0 ya
    cases ho;simp[go_sem,e,e0]
  .intro b hg o ho;have e:b.tmps[82]?=some (.chan (some ch)):=hg.ga 3 ya;have e':b.tmps[84]?=some (int i64 (k:Int)):=hg.gb 1 ya
   cases ho;simp[go_sem,e,e',scase]
 .show wpN _ _ _ _ _;refine wpN_of (wp_at yg ?_);have HPz:=U HP.o;change Code.wp _ _ _ _ (Z2.drew.setChan ch N ((wkA wk).push (int i64 (k:Int))) false (s0+1) r0 false);generalize Z2.drew.setChan ch N ((wkA wk).push (int i64 (k:Int))) false (s0+1) r0 false=Z4 at*;clear f2 e0 hF2;go_wp2_with fail
  go_ret;refine⟨rfl,HPz.o.1,?_⟩;exact((Fz.of_below HW.o).trans ((Fz.of_below HY1.o).trans ((Fz.of_below HYX2.o).trans ((Fz.of_below HYX3.o).trans (Fz.of_below Lb.drew))))).trans HPz.o.2
def BadP (W:World) (e:Ending) (W':World):Prop:=IsBad e/\Below W.heap.size W W'
def SameP (W:World) (e:Ending) (W':World):Prop:=e=.returned .nilIface/\Below W.heap.size W W'
theorem badP {X:World}{o:Obj}(hb:Below W.heap.size W X):BadP W (.returned (.iface 144 (.pointer (some ⟨X.heap.size,0,none⟩)))) (X.alloc o):=⟨⟨X.heap.size,rfl⟩,hb.alloc hb.size o⟩
theorem comeI_out (h:Fl W0 Fb (.slice ac N cc) gs ch N T wk d false W) (tt n v p:Int) (hto:(N:Int)<=tt) :
 Calls prog 79 #[.pointer (some ⟨Fb,0,none⟩),.agg #[int i64 tt,int i64 n,int i64 v,int i64 p]] W (BadP W):=by
 have hV1:=(Ld W (.cells #[int i64 tt,int i64 n,int i64 v,int i64 p] 155)).1;have hVb:=(Below.refl W.heap.size W).alloc La (.cells #[int i64 tt,int i64 n,int i64 v,int i64 p] 155);obtain⟨V,hV⟩:∃V,W.alloc (.cells #[int i64 tt,int i64 n,int i64 v,int i64 p] 155)=V:=⟨_,rfl⟩
 rw[hV]at hV1 hVb;have h1:=h.below hVb;have hEl:=z13 hV1;have hFl:=z13 h1.blk;obtain⟨Eb,hEb⟩:∃Eb,W.heap.size=Eb:=⟨_,rfl⟩
 rw[hEb]at hV1 hEl;refine zb16 ?_;unhygienic intros
 have q1:decide ((N:Int)<=tt)=true:=decide_eq_true hto;clear h hV hV1 hVb h1 e0 f0 hto;refine zb44 ?_;intro K hK;go_wp2_with fail
 rw[HV.o];clear hEb;refine z57 fun K hK=>?_
 go_wp2_with fail
 refine z28 V.heap.size ye ye ?_;repeat(go_big_quiet_step (fail))
 refine wpQuiet_nil ?_;rintro w5 ⟨y,rfl⟩;have HY1:=U y.h;clear pe0 pf0;have hf1:=(y.h.block Eb hEl).trans HV1.o;generalize y.w=X1 at*;obtain⟨e0,e1,e2⟩:=fcl4 hf1;have HB1:=U (HW.o.trans (HY1.o.mono HW.o.size));go_wp2_with fail
 go_ret;exact badP HB1.o
theorem comeI_many (h:Fl W0 Fb (.slice ac N cc) gs ch N T wk d false W) (k:Nat) (n v p:Int) (hk:k<N) (hm:100<n\/100<v) :
 Calls prog 79 #[.pointer (some ⟨Fb,0,none⟩),.agg #[int i64 (k:Int),int i64 n,int i64 v,int i64 p]] W (BadP W):=by
 refine zb61 ?_;unhygienic intros
 have hEl:=z13 hV1;have hFl:=z13 h1.blk;obtain⟨Eb,hEb⟩:∃Eb,W.heap.size=Eb:=⟨_,rfl⟩
 rw[hEb]at hV1 hEl;refine zb16 ?_;unhygienic intros
 have q1:decide ((N:Int)<=(k:Int))=false:=decide_eq_false ya;have q1n:decide (N<=k)=false:=decide_eq_false ya;clear h hV hV1 hVb h1 e0 f0 hk;refine zb44 ?_;intro K hK;go_wp2_with fail
 rw[HV.o];clear hEb;refine z57 fun K hK=>?_
 go_wp2_with fail
 refine z28 V.heap.size ye ye ?_;repeat(go_big_quiet_step (fail))
 refine wpQuiet_nil ?_;rintro w5 ⟨y,rfl⟩;have HY1:=U y.h;clear pe0 pf0;have hf1:=(y.h.block Eb hEl).trans HV1.o;generalize y.w=X1 at*;obtain⟨e0,e1,e2⟩:=fcl4 hf1;have HB1:=U (HW.o.trans (HY1.o.mono HW.o.size));by_cases h5:100<n
 .clear hm;go_wp2_with fail
  go_ret;exact badP HB1.o
 .have h6:100<v:=by omega
  clear hm;go_wp2_with fail
  go_ret;exact badP HB1.o
theorem comeI_same (h:Fl W0 Fb (.slice ac N cc) gs ch N T wk d false W) (k:Nat) (n v p:Int) (hk:k<N) (hn1:n<=100) (hv1:v<=100) (ht:tg T k=⟨n,v,p⟩) :
 Calls prog 79 #[.pointer (some ⟨Fb,0,none⟩),.agg #[int i64 (k:Int),int i64 n,int i64 v,int i64 p]] W (SameP W):=by
 refine zb0 ?_;unhygienic intros
 clear h hV hV1 hVb h1 e0 f0 hk ht hn1 hv1;refine zb44 ?_;intro K hK;go_wp2_with fail
 rw[HV.o];clear hEb;refine z57 fun K hK=>?_
 go_wp2_with fail
 refine z28 V.heap.size ye ye ?_;repeat(go_big_quiet_step (fail))
 refine wpQuiet_nil ?_;rintro w5 ⟨y,rfl⟩;have HY1:=U y.h;clear pe0 pf0;have hf1:=(y.h.block Eb hEl).trans HV1.o;generalize y.w=X1 at*;obtain⟨e0,e1,e2⟩:=fcl4 hf1;have HB1:=U (HW.o.trans (HY1.o.mono HW.o.size));go_wp2_with fail
 clear e0 e1 e2;refine zb5 ?_;unhygienic intros
 have e0:=z11 hf1 0;have e1:=z11 hf1 1;have e2:=z11 hf1 2;have e3:=z11 hf1 3;simp at f1 e0 e1 e2 e3;have pe0:∀y:Later X1.heap.size X1,y.w.cell? ⟨Eb,0,none⟩=_:=fun y=>y.cell hEX1 e0
 have pe1:∀y:Later X1.heap.size X1,y.w.cell? ⟨Eb,1,none⟩=_:=fun y=>y.cell hEX1 e1
 have pe2:∀y:Later X1.heap.size X1,y.w.cell? ⟨Eb,2,none⟩=_:=fun y=>y.cell hEX1 e2
 have pe3:∀y:Later X1.heap.size X1,y.w.cell? ⟨Eb,3,none⟩=_:=fun y=>y.cell hEX1 e3
 have pf1:∀y:Later X1.heap.size X1,y.w.cell? ⟨Fb,1,none⟩=_:=fun y=>y.cell hBX1 f1
 have pc0:∀y:Later X1.heap.size X1,y.w.cell? ⟨gs,k*3,none⟩=_:=fun y=>y.cell hGX1 c0
 have pc1:∀y:Later X1.heap.size X1,y.w.cell? ⟨gs,k*3+1,none⟩=_:=fun y=>y.cell hGX1 c1
 have pc2:∀y:Later X1.heap.size X1,y.w.cell? ⟨gs,k*3+2,none⟩=_:=fun y=>y.cell hGX1 c2
 refine z28 X1.heap.size ye ye ?_;repeat(go_big_quiet_step (fail))
 refine wpQuiet_nil ?_;rintro w5 ⟨y,rfl⟩;have HYX2:=U y.h;have hfX2:=(y.h.block Eb hEX1).trans hf1;generalize y.w=X2 at*;clear pe0 pe1 pe2 pe3 pf1 pc0 pc1 pc2 c0 c1 c2 f1 e0 e1 e2 e3;go_wp2_with fail
 go_ret;exact⟨rfl,HB1.o.trans (HYX2.o.mono HB1.o.size)⟩
theorem comeI_otherN (h:Fl W0 Fb (.slice ac N cc) gs ch N T wk d false W) (k:Nat) (n v p x y z:Int) (hk:k<N) (hn1:n<=100) (hv1:v<=100) (ht:tg T k=⟨x,y,z⟩) (hz:z≠0) (hc:x≠n) :
 Calls prog 79 #[.pointer (some ⟨Fb,0,none⟩),.agg #[int i64 (k:Int),int i64 n,int i64 v,int i64 p]] W (BadP W):=by
 refine zb0 ?_;unhygienic intros
 have g1:(x==n)=false:=by simp[hc]
 have z1:(z !=0)=true:=ycd;clear h hV hV1 hVb h1 e0 f0 hk ht hn1 hv1 hz hc;refine zb44 ?_;intro K hK;go_wp2_with fail
 rw[HV.o];clear hEb;refine z57 fun K hK=>?_
 go_wp2_with fail
 refine z28 V.heap.size ye ye ?_;repeat(go_big_quiet_step (fail))
 refine wpQuiet_nil ?_;rintro w5 ⟨y,rfl⟩;have HY1:=U y.h;clear pe0 pf0;have hf1:=(y.h.block Eb hEl).trans HV1.o;generalize y.w=X1 at*;obtain⟨e0,e1,e2⟩:=fcl4 hf1;have HB1:=U (HW.o.trans (HY1.o.mono HW.o.size));go_wp2_with fail
 clear e0 e1 e2;refine zb5 ?_;unhygienic intros
 have e0:=z11 hf1 0;have e1:=z11 hf1 1;have e2:=z11 hf1 2;have e3:=z11 hf1 3;simp at f1 e0 e1 e2 e3;have pe0:∀y:Later X1.heap.size X1,y.w.cell? ⟨Eb,0,none⟩=_:=fun y=>y.cell hEX1 e0
 have pe1:∀y:Later X1.heap.size X1,y.w.cell? ⟨Eb,1,none⟩=_:=fun y=>y.cell hEX1 e1
 have pe2:∀y:Later X1.heap.size X1,y.w.cell? ⟨Eb,2,none⟩=_:=fun y=>y.cell hEX1 e2
 have pe3:∀y:Later X1.heap.size X1,y.w.cell? ⟨Eb,3,none⟩=_:=fun y=>y.cell hEX1 e3
 have pf1:∀y:Later X1.heap.size X1,y.w.cell? ⟨Fb,1,none⟩=_:=fun y=>y.cell hBX1 f1
 have pc0:∀y:Later X1.heap.size X1,y.w.cell? ⟨gs,k*3,none⟩=_:=fun y=>y.cell hGX1 c0
 have pc1:∀y:Later X1.heap.size X1,y.w.cell? ⟨gs,k*3+1,none⟩=_:=fun y=>y.cell hGX1 c1
 have pc2:∀y:Later X1.heap.size X1,y.w.cell? ⟨gs,k*3+2,none⟩=_:=fun y=>y.cell hGX1 c2
 refine z28 X1.heap.size ye ye ?_;repeat(go_big_quiet_step (fail))
 refine wpQuiet_nil ?_;rintro w5 ⟨y,rfl⟩;have HYX2:=U y.h;have hfX2:=(y.h.block Eb hEX1).trans hf1;generalize y.w=X2 at*;clear pe0 pe1 pe2 pe3 pf1 pc0 pc1 pc2 c0 c1 c2 f1 e0 e1 e2 e3;go_wp2_with fail
 refine zb39 ?_;unhygienic intros
 obtain⟨c0,c1,c2,-,-,-⟩:=cX2;dsimp only at c0 c1 c2;have f1:=z11 HX2.o.blk 1;have e0:=z11 hfX2 0;have e1:=z11 hfX2 1;have e2:=z11 hfX2 2;have e3:=z11 hfX2 3;simp at f1 e0 e1 e2 e3;have pe0:∀y:Later X2.heap.size X2,y.w.cell? ⟨Eb,0,none⟩=_:=fun y=>y.cell hEX2 e0
 have pe1:∀y:Later X2.heap.size X2,y.w.cell? ⟨Eb,1,none⟩=_:=fun y=>y.cell hEX2 e1
 have pe2:∀y:Later X2.heap.size X2,y.w.cell? ⟨Eb,2,none⟩=_:=fun y=>y.cell hEX2 e2
 have pe3:∀y:Later X2.heap.size X2,y.w.cell? ⟨Eb,3,none⟩=_:=fun y=>y.cell hEX2 e3
 have pf1:∀y:Later X2.heap.size X2,y.w.cell? ⟨Fb,1,none⟩=_:=fun y=>y.cell hBX2 f1
 have pc0:∀y:Later X2.heap.size X2,y.w.cell? ⟨gs,k*3,none⟩=_:=fun y=>y.cell hGX2 c0
 have pc1:∀y:Later X2.heap.size X2,y.w.cell? ⟨gs,k*3+1,none⟩=_:=fun y=>y.cell hGX2 c1
 have pc2:∀y:Later X2.heap.size X2,y.w.cell? ⟨gs,k*3+2,none⟩=_:=fun y=>y.cell hGX2 c2
 refine z28 X2.heap.size ye ye ?_;repeat(go_big_quiet_step (fail))
 refine wpQuiet_nil ?_;rintro w5 ⟨y,rfl⟩;have HYX3:=U y.h;have hfX3:=(y.h.block Eb hEX2).trans hfX2;generalize y.w=X3 at*;clear pe0 pe1 pe2 pe3 pf1 pc0 pc1 pc2 c0 c1 c2 f1 e0 e1 e2 e3;have e0:=z11 hfX3 0;simp at e0;go_wp2_with fail
 go_ret;exact badP ((HB1.o.trans (HYX2.o.mono HB1.o.size)).trans (HYX3.o.mono (Lf HB1.o.size HYX2.o.size)))
theorem comeI_otherV (h:Fl W0 Fb (.slice ac N cc) gs ch N T wk d false W) (k:Nat) (n v p x y z:Int) (hk:k<N) (hn1:n<=100) (hv1:v<=100) (ht:tg T k=⟨x,y,z⟩) (hz:z≠0) (hc:y≠v) :
 Calls prog 79 #[.pointer (some ⟨Fb,0,none⟩),.agg #[int i64 (k:Int),int i64 n,int i64 v,int i64 p]] W (BadP W):=by
 refine zb0 ?_;unhygienic intros
 have g1:(y==v)=false:=by simp[hc]
 have z1:(z !=0)=true:=ycd;clear h hV hV1 hVb h1 e0 f0 hk ht hn1 hv1 hz hc;refine zb44 ?_;intro K hK;go_wp2_with fail
 rw[HV.o];clear hEb;refine z57 fun K hK=>?_
 go_wp2_with fail
 refine z28 V.heap.size ye ye ?_;repeat(go_big_quiet_step (fail))
 refine wpQuiet_nil ?_;rintro w5 ⟨y,rfl⟩;have HY1:=U y.h;clear pe0 pf0;have hf1:=(y.h.block Eb hEl).trans HV1.o;generalize y.w=X1 at*;obtain⟨e0,e1,e2⟩:=fcl4 hf1;have HB1:=U (HW.o.trans (HY1.o.mono HW.o.size));go_wp2_with fail
 clear e0 e1 e2;refine zb5 ?_;unhygienic intros
 have e0:=z11 hf1 0;have e1:=z11 hf1 1;have e2:=z11 hf1 2;have e3:=z11 hf1 3;simp at f1 e0 e1 e2 e3;have pe0:∀y:Later X1.heap.size X1,y.w.cell? ⟨Eb,0,none⟩=_:=fun y=>y.cell hEX1 e0
 have pe1:∀y:Later X1.heap.size X1,y.w.cell? ⟨Eb,1,none⟩=_:=fun y=>y.cell hEX1 e1
 have pe2:∀y:Later X1.heap.size X1,y.w.cell? ⟨Eb,2,none⟩=_:=fun y=>y.cell hEX1 e2
 have pe3:∀y:Later X1.heap.size X1,y.w.cell? ⟨Eb,3,none⟩=_:=fun y=>y.cell hEX1 e3
 have pf1:∀y:Later X1.heap.size X1,y.w.cell? ⟨Fb,1,none⟩=_:=fun y=>y.cell hBX1 f1
 have pc0:∀y:Later X1.heap.size X1,y.w.cell? ⟨gs,k*3,none⟩=_:=fun y=>y.cell hGX1 c0
 have pc1:∀y:Later X1.heap.size X1,y.w.cell? ⟨gs,k*3+1,none⟩=_:=fun y=>y.cell hGX1 c1
 have pc2:∀y:Later X1.heap.size X1,y.w.cell? ⟨gs,k*3+2,none⟩=_:=fun y=>y.cell hGX1 c2
 refine z28 X1.heap.size ye ye ?_;repeat(go_big_quiet_step (fail))
 refine wpQuiet_nil ?_;rintro w5 ⟨y,rfl⟩;have HYX2:=U y.h;have hfX2:=(y.h.block Eb hEX1).trans hf1;generalize y.w=X2 at*;clear pe0 pe1 pe2 pe3 pf1 pc0 pc1 pc2 c0 c1 c2 f1 e0 e1 e2 e3;go_wp2_with fail
 refine zb39 ?_;unhygienic intros
 obtain⟨c0,c1,c2,-,-,-⟩:=cX2;dsimp only at c0 c1 c2;have f1:=z11 HX2.o.blk 1;have e0:=z11 hfX2 0;have e1:=z11 hfX2 1;have e2:=z11 hfX2 2;have e3:=z11 hfX2 3;simp at f1 e0 e1 e2 e3;have pe0:∀y:Later X2.heap.size X2,y.w.cell? ⟨Eb,0,none⟩=_:=fun y=>y.cell hEX2 e0
 have pe1:∀y:Later X2.heap.size X2,y.w.cell? ⟨Eb,1,none⟩=_:=fun y=>y.cell hEX2 e1
 have pe2:∀y:Later X2.heap.size X2,y.w.cell? ⟨Eb,2,none⟩=_:=fun y=>y.cell hEX2 e2
 have pe3:∀y:Later X2.heap.size X2,y.w.cell? ⟨Eb,3,none⟩=_:=fun y=>y.cell hEX2 e3
 have pf1:∀y:Later X2.heap.size X2,y.w.cell? ⟨Fb,1,none⟩=_:=fun y=>y.cell hBX2 f1
 have pc0:∀y:Later X2.heap.size X2,y.w.cell? ⟨gs,k*3,none⟩=_:=fun y=>y.cell hGX2 c0
 have pc1:∀y:Later X2.heap.size X2,y.w.cell? ⟨gs,k*3+1,none⟩=_:=fun y=>y.cell hGX2 c1
 have pc2:∀y:Later X2.heap.size X2,y.w.cell? ⟨gs,k*3+2,none⟩=_:=fun y=>y.cell hGX2 c2
 refine z28 X2.heap.size ye ye ?_;repeat(go_big_quiet_step (fail))
 refine wpQuiet_nil ?_;rintro w5 ⟨y,rfl⟩;have HYX3:=U y.h;have hfX3:=(y.h.block Eb hEX2).trans hfX2;generalize y.w=X3 at*;clear pe0 pe1 pe2 pe3 pf1 pc0 pc1 pc2 c0 c1 c2 f1 e0 e1 e2 e3;have e0:=z11 hfX3 0;simp at e0;go_wp2_with fail
 go_ret;exact badP ((HB1.o.trans (HYX2.o.mono HB1.o.size)).trans (HYX3.o.mono (Lf HB1.o.size HYX2.o.size)))
theorem comeI_otherP (h:Fl W0 Fb (.slice ac N cc) gs ch N T wk d false W) (k:Nat) (n v p x y z:Int) (hk:k<N) (hn1:n<=100) (hv1:v<=100) (ht:tg T k=⟨x,y,z⟩) (hz:z≠0) (hc:z≠p) :
 Calls prog 79 #[.pointer (some ⟨Fb,0,none⟩),.agg #[int i64 (k:Int),int i64 n,int i64 v,int i64 p]] W (BadP W):=by
 refine zb0 ?_;unhygienic intros
 have g1:(z==p)=false:=by simp[hc]
 have z1:(z !=0)=true:=ycd;clear h hV hV1 hVb h1 e0 f0 hk ht hn1 hv1 hz hc;refine zb44 ?_;intro K hK;go_wp2_with fail
 rw[HV.o];clear hEb;refine z57 fun K hK=>?_
 go_wp2_with fail
 refine z28 V.heap.size ye ye ?_;repeat(go_big_quiet_step (fail))
 refine wpQuiet_nil ?_;rintro w5 ⟨y,rfl⟩;have HY1:=U y.h;clear pe0 pf0;have hf1:=(y.h.block Eb hEl).trans HV1.o;generalize y.w=X1 at*;obtain⟨e0,e1,e2⟩:=fcl4 hf1;have HB1:=U (HW.o.trans (HY1.o.mono HW.o.size));go_wp2_with fail
 clear e0 e1 e2;refine zb5 ?_;unhygienic intros
 have e0:=z11 hf1 0;have e1:=z11 hf1 1;have e2:=z11 hf1 2;have e3:=z11 hf1 3;simp at f1 e0 e1 e2 e3;have pe0:∀y:Later X1.heap.size X1,y.w.cell? ⟨Eb,0,none⟩=_:=fun y=>y.cell hEX1 e0
 have pe1:∀y:Later X1.heap.size X1,y.w.cell? ⟨Eb,1,none⟩=_:=fun y=>y.cell hEX1 e1
 have pe2:∀y:Later X1.heap.size X1,y.w.cell? ⟨Eb,2,none⟩=_:=fun y=>y.cell hEX1 e2
 have pe3:∀y:Later X1.heap.size X1,y.w.cell? ⟨Eb,3,none⟩=_:=fun y=>y.cell hEX1 e3
 have pf1:∀y:Later X1.heap.size X1,y.w.cell? ⟨Fb,1,none⟩=_:=fun y=>y.cell hBX1 f1
 have pc0:∀y:Later X1.heap.size X1,y.w.cell? ⟨gs,k*3,none⟩=_:=fun y=>y.cell hGX1 c0
 have pc1:∀y:Later X1.heap.size X1,y.w.cell? ⟨gs,k*3+1,none⟩=_:=fun y=>y.cell hGX1 c1
 have pc2:∀y:Later X1.heap.size X1,y.w.cell? ⟨gs,k*3+2,none⟩=_:=fun y=>y.cell hGX1 c2
 refine z28 X1.heap.size ye ye ?_;repeat(go_big_quiet_step (fail))
 refine wpQuiet_nil ?_;rintro w5 ⟨y,rfl⟩;have HYX2:=U y.h;have hfX2:=(y.h.block Eb hEX1).trans hf1;generalize y.w=X2 at*;clear pe0 pe1 pe2 pe3 pf1 pc0 pc1 pc2 c0 c1 c2 f1 e0 e1 e2 e3;go_wp2_with fail
 refine zb39 ?_;unhygienic intros
 obtain⟨c0,c1,c2,-,-,-⟩:=cX2;dsimp only at c0 c1 c2;have f1:=z11 HX2.o.blk 1;have e0:=z11 hfX2 0;have e1:=z11 hfX2 1;have e2:=z11 hfX2 2;have e3:=z11 hfX2 3;simp at f1 e0 e1 e2 e3;have pe0:∀y:Later X2.heap.size X2,y.w.cell? ⟨Eb,0,none⟩=_:=fun y=>y.cell hEX2 e0
 have pe1:∀y:Later X2.heap.size X2,y.w.cell? ⟨Eb,1,none⟩=_:=fun y=>y.cell hEX2 e1
 have pe2:∀y:Later X2.heap.size X2,y.w.cell? ⟨Eb,2,none⟩=_:=fun y=>y.cell hEX2 e2
 have pe3:∀y:Later X2.heap.size X2,y.w.cell? ⟨Eb,3,none⟩=_:=fun y=>y.cell hEX2 e3
 have pf1:∀y:Later X2.heap.size X2,y.w.cell? ⟨Fb,1,none⟩=_:=fun y=>y.cell hBX2 f1
 have pc0:∀y:Later X2.heap.size X2,y.w.cell? ⟨gs,k*3,none⟩=_:=fun y=>y.cell hGX2 c0
 have pc1:∀y:Later X2.heap.size X2,y.w.cell? ⟨gs,k*3+1,none⟩=_:=fun y=>y.cell hGX2 c1
 have pc2:∀y:Later X2.heap.size X2,y.w.cell? ⟨gs,k*3+2,none⟩=_:=fun y=>y.cell hGX2 c2
 refine z28 X2.heap.size ye ye ?_;repeat(go_big_quiet_step (fail))
 refine wpQuiet_nil ?_;rintro w5 ⟨y,rfl⟩;have HYX3:=U y.h;have hfX3:=(y.h.block Eb hEX2).trans hfX2;generalize y.w=X3 at*;clear pe0 pe1 pe2 pe3 pf1 pc0 pc1 pc2 c0 c1 c2 f1 e0 e1 e2 e3;have e0:=z11 hfX3 0;simp at e0;go_wp2_with fail
 go_ret;exact badP ((HB1.o.trans (HYX2.o.mono HB1.o.size)).trans (HYX3.o.mono (Lf HB1.o.size HYX2.o.size)))
theorem comeI_calls (h:Fl W0 Fb (.slice ac N cc) gs ch N T wk d false W) (tt n v p:Int) (h0:0<=tt) (hn:0<=n) (hv:0<=v) (hp0:1<=p) (hp1:p<=3) :
 Calls prog 79 #[.pointer (some ⟨Fb,0,none⟩),.agg #[int i64 tt,int i64 n,int i64 v,int i64 p]] W (ComeI W0 Fb (.slice ac N cc) gs ch N d W (comeZ N T wk (tt,⟨n,v,p⟩))):=by
 have hbad:∀e W',BadP W e W'->comeZ N T wk (tt,⟨n,v,p⟩)=none->ComeI W0 Fb (.slice ac N cc) gs ch N d W (comeZ N T wk (tt,⟨n,v,p⟩)) e W':= fun e W' hb hz=>by
  rw[hz];exact⟨h.bel.trans (hb.2.mono h.bel.size),Fz.of_below hb.2,fun _=>hb.1,fun x hx=>by cases hx⟩
 by_cases t1:(N:Int)<=tt
 .refine(comeI_out h tt n v p t1).mono fun e W' hb=>hbad e W' hb ?_
  unfold comeZ;rw[if_pos (Or.inr (Or.inl t1))]
 obtain⟨k,rfl⟩:∃k:Nat,tt=(k:Int):=⟨tt.toNat,ya⟩
 have hk:k<N:=ya;by_cases t2:100<n\/100<v
 .refine(comeI_many h k n v p hk t2).mono fun e W' hb=>hbad e W' hb ?_
  unfold comeZ;rw[if_pos qw]
 have hz:comeZ N T wk ((k:Int),⟨n,v,p⟩)=if tg T k=⟨n,v,p⟩ then some (T,wk) else if (tg T k).p≠0 then none else some (T.set k ⟨n,v,p⟩,wk++ [k]):=by
  unfold comeZ;rw[if_neg qw];rfl
 by_cases t3:tg T k=⟨n,v,p⟩
 .refine(comeI_same h k n v p hk ya ya t3).mono fun e W' hb=>?_
  rw[hz,if_pos t3];refine⟨h.bel.trans (hb.2.mono h.bel.size),Fz.of_below hb.2,fun e=>yci,fun x hx=>?_⟩
  cases hx;exact⟨hb.1,h.below hb.2⟩
 by_cases t4:(tg T k).p=0
 .refine(comeI_push h k n v p hk hn ya hv ya hp0 hp1 t4).mono fun e W' hb=>?_
  rw[hz,if_neg t3,if_neg (fun e=>e t4)];refine⟨hb.2.1.bel,hb.2.2,fun e=>yci,fun x hx=>?_⟩
  cases hx;exact⟨hb.1,hb.2.1⟩
 .have hnone:comeZ N T wk ((k:Int),⟨n,v,p⟩)=none:=by rw[hz,if_neg t3,if_pos t4]
  obtain⟨⟨x,y,z⟩,ht⟩:∃s,tg T k=s:=⟨_,rfl⟩
  rw[ht]at t3 t4;by_cases c1:x=n
  .by_cases c2:y=v
   .have c3:z≠p:=fun e=>t3 (by rw[c1,c2,e])
    exact(comeI_otherP h k n v p x y z hk ya ya ht t4 c3).mono fun e W' hb=>hbad e W' hb hnone
   .exact(comeI_otherV h k n v p x y z hk ya ya ht t4 c2).mono fun e W' hb=>hbad e W' hb hnone
  .exact(comeI_otherN h k n v p x y z hk ya ya ht t4 c1).mono fun e W' hb=>hbad e W' hb hnone
end
end Go.Proofs.YtbbffkiobmbkfaaGreatDoor
