import Derived.Maps.AppendAt
import Derived.Test.YtbbffkiobmbkfaaGreatDoorPkV5
open Go.Proofs.Tryz
open Go.Value Go.IntKind
set_option maxHeartbeats 8000000
set_option maxRecDepth 100000
namespace Go.Proofs.YtbbffkiobmbkfaaGreatDoor
open Go.RowKit Go.Deep
variable {us:List Value}{B Nb q:Nat}{m n:Nd}{vf vf' vp vp':Value}{W W0 X Y:World}{s s':Wst}
section
open Go.RowKit Go.Deep
theorem two_boxes (W:World) (n:Nd):∃X,(W.alloc (.cells #[int i64 n.kind,int i64 n.num,.string n.a,.string n.b,.string n.c,int i64 n.kids] 68)).alloc (.cells #[int i64 0,int i64 0,.string ⟨#[]⟩,.string ⟨#[]⟩,.string ⟨#[]⟩,int i64 0] 68)=X/\X.heap[W.heap.size]?=some (.cells #[int i64 n.kind,int i64 n.num,.string n.a,.string n.b,.string n.c,int i64 n.kids] 68)/\X.heap[W.heap.size+1]?=some (.cells #[int i64 0,int i64 0,.string ⟨#[]⟩,.string ⟨#[]⟩,.string ⟨#[]⟩,int i64 0] 68)/\Below W.heap.size W X:=by
 refine⟨_,rfl,?_,?_,((Below.refl _ W).alloc La _).alloc yq _⟩
 .rw[Below.heap_alloc _ _ _ yq];exact(Ld W _).1
 .have e:=(Ld (W.alloc (.cells #[int i64 n.kind,int i64 n.num,.string n.a,.string n.b,.string n.c,int i64 n.kids] 68)) (.cells #[int i64 0,int i64 0,.string ⟨#[]⟩,.string ⟨#[]⟩,.string ⟨#[]⟩,int i64 0] 68)).1;rwa[World.size_alloc]at e
structure Rnd (W0:World) (Nb:Nat) (W:World) (vp vf:Value) (s':Wst) (vf':Value) (m:Nd) (X:World):Prop where
 st:Nms W0 Nb s' vp vf' X
 mv:Movd W vf vf'
 fr:Nfr Nb vp vf W X
 b4:X.heap[W.heap.size]?=some (.cells #[int i64 m.kind,int i64 m.num,.string m.a,.string m.b,.string m.c,int i64 m.kids] 68)
 b6:X.heap[W.heap.size+1]?=some (.cells #[int i64 0,int i64 0,.string ⟨#[]⟩,.string ⟨#[]⟩,.string ⟨#[]⟩,int i64 0] 68)
theorem Rnd.put (h:Rnd W0 Nb W vp vf s' vf' m X) (hw:W0.heap.size<=W.heap.size) (hp:∀g,vp.ownBlock=some g->g<W.heap.size) (hq:q=W.heap.size\/q=W.heap.size+1) (i:Nat) (v:Value) :
 Nms W0 Nb s' vp vf' (X.setCell ⟨q,i,none⟩ v)/\Nfr Nb vp vf W (X.setCell ⟨q,i,none⟩ v):=by
 have hb:vf'.ownBlock≠some q:=by
  rcases hq with rfl|rfl
  .exact(h.st.apart h.b4).2 yk
  .exact(h.st.apart h.b6).2 yk
 have hs:(X.setCell ⟨q,i,none⟩ v).heap.size=X.heap.size:=qo;refine⟨nms_box h.st ya (fun e=>qv) hb i v,⟨h.fr.os,h.fr.tape,h.fr.output,by rw[hs];exact h.fr.size,fun k hk h1 h2 h3=>?_⟩⟩;exact(Lg X ⟨q,i,none⟩ v k qw).trans (h.fr.block k hk h1 h2 h3)
theorem Rnd.set2 (h:Rnd W0 Nb W vp vf s' vf' m X) (hw:W0.heap.size<=W.heap.size) (hp:∀g,vp.ownBlock=some g->g<W.heap.size) (x:ByteArray):Rnd W0 Nb W vp vf s' vf' { m with a:=x } (X.setCell ⟨W.heap.size,2,none⟩ (.string x)):=by
 obtain⟨h1,h2⟩:=h.put hw hp (Or.inl rfl) 2 (.string x);exact⟨h1,h.mv,h2,(box6_set h.b4 _).1,(Lg X _ _ _ qw).trans h.b6⟩
theorem Rnd.set3 (h:Rnd W0 Nb W vp vf s' vf' m X) (hw:W0.heap.size<=W.heap.size) (hp:∀g,vp.ownBlock=some g->g<W.heap.size) (x:ByteArray):Rnd W0 Nb W vp vf s' vf' { m with b:=x } (X.setCell ⟨W.heap.size,3,none⟩ (.string x)):=by
 obtain⟨h1,h2⟩:=h.put hw hp (Or.inl rfl) 3 (.string x);exact⟨h1,h.mv,h2,(box6_set h.b4 _).2.1,(Lg X _ _ _ qw).trans h.b6⟩
theorem Rnd.set4 (h:Rnd W0 Nb W vp vf s' vf' m X) (hw:W0.heap.size<=W.heap.size) (hp:∀g,vp.ownBlock=some g->g<W.heap.size) (x:ByteArray):Rnd W0 Nb W vp vf s' vf' { m with c:=x } (X.setCell ⟨W.heap.size,4,none⟩ (.string x)):=by
 obtain⟨h1,h2⟩:=h.put hw hp (Or.inl rfl) 4 (.string x);exact⟨h1,h.mv,h2,(box6_set h.b4 _).2.2,(Lg X _ _ _ qw).trans h.b6⟩
theorem Rnd.done (h:Rnd W0 Nb W vp vf s' vf' m X) (hw:W0.heap.size<=W.heap.size) (hp:∀g,vp.ownBlock=some g->g<W.heap.size) (v0 v1 v2 v3 v4 v5:Value) :
 Nms W0 Nb s' vp vf' ((((((X.setCell ⟨W.heap.size+1,0,none⟩ v0).setCell ⟨W.heap.size+1,1,none⟩ v1).setCell ⟨W.heap.size+1,2,none⟩ v2).setCell ⟨W.heap.size+1,3,none⟩ v3).setCell ⟨W.heap.size+1,4,none⟩ v4).setCell ⟨W.heap.size+1,5,none⟩ v5)/\Nfr Nb vp vf W ((((((X.setCell ⟨W.heap.size+1,0,none⟩ v0).setCell ⟨W.heap.size+1,1,none⟩ v1).setCell ⟨W.heap.size+1,2,none⟩ v2).setCell ⟨W.heap.size+1,3,none⟩ v3).setCell ⟨W.heap.size+1,4,none⟩ v4).setCell ⟨W.heap.size+1,5,none⟩ v5):=by
 have hb:vf'.ownBlock≠some (W.heap.size+1):=(h.st.apart h.b6).2 yk;have hpn:vp.ownBlock≠some (W.heap.size+1):=fun e=>qv
 have hlo:W0.heap.size<=W.heap.size+1:=ya;have step:∀Y i v,Nms W0 Nb s' vp vf' Y/\Nfr Nb vp vf W Y->Nms W0 Nb s' vp vf' (Y.setCell ⟨W.heap.size+1,i,none⟩ v)/\Nfr Nb vp vf W (Y.setCell ⟨W.heap.size+1,i,none⟩ v):=fun Y i v hy=>by
  have hs:(Y.setCell ⟨W.heap.size+1,i,none⟩ v).heap.size=Y.heap.size:=qo;refine⟨nms_box hy.1 hlo hpn hb i v,⟨hy.2.os,hy.2.tape,hy.2.output,by rw[hs];exact hy.2.size,fun k hk h1 h2 h3=>?_⟩⟩;exact(Lg Y ⟨W.heap.size+1,i,none⟩ v k qw).trans (hy.2.block k hk h1 h2 h3)
 have g0:=step X 0 v0 ⟨h.st,h.fr⟩;have g1:=step _ 1 v1 g0;have g2:=step _ 2 v2 g1;have g3:=step _ 3 v3 g2;have g4:=step _ 4 v4 g3;exact step _ 5 v5 g4
theorem Rnd.more (h:Rnd W0 Nb W vp vf s' vf' m X) (hw:W0.heap.size<=W.heap.size) (hp:∀g,vp.ownBlock=some g->g<W.heap.size) {s'':Wst}{vf'':Value}(hy:Nms W0 Nb s'' vp vf'' Y) (fy:Nfr Nb vp vf' X Y) (hm:Movd X vf' vf''):Rnd W0 Nb W vp vf s'' vf'' m Y:=by
 have hnb:=h.st.nb;exact⟨hy,h.mv.trans h.fr.size hm,h.fr.trans (Or.inl rfl) h.mv fy,(fy.block _ (z13 h.b4) ya (fun e=>qv) ((h.st.apart h.b4).2 yk)).trans h.b4,(fy.block _ (z13 h.b6) ya (fun e=>qv) ((h.st.apart h.b6).2 yk)).trans h.b6⟩
theorem box6_all {w:World}{b:Nat}{t:TypeId}{x0 x1 x2 x3 x4 x5:Value}(h:w.heap[b]?=some (.cells #[x0,x1,x2,x3,x4,x5] t)) (v0 v1 v2 v3 v4 v5:Value) :
 ((((((w.setCell ⟨b,0,none⟩ v0).setCell ⟨b,1,none⟩ v1).setCell ⟨b,2,none⟩ v2).setCell ⟨b,3,none⟩ v3).setCell ⟨b,4,none⟩ v4).setCell ⟨b,5,none⟩ v5).heap[b]?=some (.cells #[v0,v1,v2,v3,v4,v5] t):=by
 simp[World.setCell,Array.getElem?_modify,h]
theorem node_result {tmps:Array Value}{g:Nat}{v0 v1 v2 v3 v4 v5:Value}(hg:tmps.getD 6 undef=.pointer (some ⟨g,0,none⟩)) (h:X.heap[g]?=some (.cells #[v0,v1,v2,v3,v4,v5] 68)):(results Tryz.f95 tmps).run prog X=.ok (.agg #[v0,v1,v2,v3,v4,v5]) X:=by
 rw[Array.getD_eq_getD_getElem?]at hg;obtain⟨c0,c1,c2,c3,c4,c5⟩:=fcl6 h;simp[results,results95,go_sem,hg,c0,c1,c2,c3,c4,c5]
theorem Rnd.facts (h:Rnd W0 Nb W vp vf s' vf' m X):(X.cell? ⟨W.heap.size,0,none⟩=some (int i64 m.kind)/\X.cell? ⟨W.heap.size,1,none⟩=some (int i64 m.num)/\X.cell? ⟨W.heap.size,2,none⟩=some (.string m.a)/\X.cell? ⟨W.heap.size,3,none⟩=some (.string m.b)/\X.cell? ⟨W.heap.size,4,none⟩=some (.string m.c)/\X.cell? ⟨W.heap.size,5,none⟩=some (int i64 m.kids))/\
 (X.frozen? ⟨W.heap.size,2,none⟩=false/\X.frozen? ⟨W.heap.size,3,none⟩=false/\X.frozen? ⟨W.heap.size,4,none⟩=false)/\
 (X.cell? ⟨W.heap.size+1,0,none⟩=some (int i64 0)/\X.cell? ⟨W.heap.size+1,1,none⟩=some (int i64 0)/\X.cell? ⟨W.heap.size+1,2,none⟩=some (.string ⟨#[]⟩)/\X.cell? ⟨W.heap.size+1,3,none⟩=some (.string ⟨#[]⟩)/\X.cell? ⟨W.heap.size+1,4,none⟩=some (.string ⟨#[]⟩)/\X.cell? ⟨W.heap.size+1,5,none⟩=some (int i64 0))/\
 X.frozen? ⟨W.heap.size+1,0,none⟩=false/\X.frozen? ⟨W.heap.size+1,1,none⟩=false/\X.frozen? ⟨W.heap.size+1,2,none⟩=false/\X.frozen? ⟨W.heap.size+1,3,none⟩=false/\X.frozen? ⟨W.heap.size+1,4,none⟩=false/\X.frozen? ⟨W.heap.size+1,5,none⟩=false:=
 ⟨⟨z11 h.b4 0,z11 h.b4 1,z11 h.b4 2,z11 h.b4 3,z11 h.b4 4,z11 h.b4 5⟩,⟨z15 h.b4 2,z15 h.b4 3,z15 h.b4 4⟩,⟨z11 h.b6 0,z11 h.b6 1,z11 h.b6 2,z11 h.b6 3,z11 h.b6 4,z11 h.b6 5⟩,z15 h.b6 0,z15 h.b6 1,z15 h.b6 2,z15 h.b6 3,z15 h.b6 4,z15 h.b6 5⟩
theorem Rnd.fresh {sp:List Nd}{sf:List ByteArray}{mk:Nat}(h:Rnd W0 Nb W vp vf ⟨sp,sf,mk⟩ vf' m X) (hw:W0.heap.size<=W.heap.size) (hp:∀g,vp.ownBlock=some g->g<W.heap.size) (hL:Laid X) (h0:Nb≠1/\1<W0.heap.size) (hm:mk<=100000) {Q:Ending->World->Prop}(next:∀Y,O (Rnd W0 Nb W vp vf ⟨sp,sf,mk+1⟩ vf' m Y)->Q (.returned (.string (freshZ mk))) Y) :
 Calls prog 134 #[.pointer (some ⟨Nb,0,none⟩)] X Q:=by
 refine(fresh_calls X h.st hL h0 hm).mono ?_;rintro e Y ⟨rfl,hN,hF,-⟩;exact next Y (h.more hw hp hN hF (Or.inl rfl))
theorem Rnd.clone (h:Rnd W0 Nb W vp vf s' vf' m X) (hw:W0.heap.size<=W.heap.size) (hp:∀g,vp.ownBlock=some g->g<W.heap.size) {a:ByteArray}(ha:a.size<=281474976710656) {Q:Ending->World->Prop}(next:∀Y,O (Rnd W0 Nb W vp vf s' vf' m Y)->Q (.returned (.string a)) Y) :
 Calls prog 133 #[.string a] X Q:=by
 refine(clone_calls a _ ha).mono ?_;rintro e Y ⟨rfl,hb⟩;exact next Y (h.more hw hp (h.st.below hb) (Nfr.of_below hb) (Or.inl rfl))
theorem Rnd.fin (h:Rnd W0 Nb W vp vf s' vf' m X) (hw:W0.heap.size<=W.heap.size) (hp:∀g,vp.ownBlock=some g->g<W.heap.size) {a:Act}{r:Nd}{S:Wst}(hg:a.tmps.getD 6 undef=.pointer (some ⟨W.heap.size+1,0,none⟩)) (hd:a.defers= []) (hr:r=m) (hS:S=s') :
 bodyPost prog Tryz.f95 (fun e W'=> e=.returned (ndV r)/\(∃vf',Nms W0 Nb S vp vf' W'/\Movd W vf vf')/\Nfr Nb vp vf W W') .ret a ((((((X.setCell ⟨W.heap.size+1,0,none⟩ (int i64 m.kind)).setCell ⟨W.heap.size+1,1,none⟩ (int i64 m.num)).setCell ⟨W.heap.size+1,2,none⟩ (.string m.a)).setCell ⟨W.heap.size+1,3,none⟩ (.string m.b)).setCell ⟨W.heap.size+1,4,none⟩ (.string m.c)).setCell ⟨W.heap.size+1,5,none⟩ (int i64 m.kids)):=by
 subst hr;subst hS;refine bodyPost_ret (v:=ndV r) (node_result hg (box6_all h.b6 _ _ _ _ _ _)) hd ?_;obtain⟨g1,g3⟩:=h.done hw hp (int i64 r.kind) (int i64 r.num) (.string r.a) (.string r.b) (.string r.c) (int i64 r.kids);exact⟨rfl,⟨_,g1,h.mv⟩,g3⟩
theorem rename_calls (n:Nd) (p:Option Addr) (sc:Sco) (W:World) (st:Nms W0 Nb s vp vf W) (hL:Laid W0) (h1:Nb≠1) (hm:Wsm s) (hsc:ScoAt W p sc) (hna:n.a.size<=281474976710656) :
 Calls prog 95 #[.pointer (some ⟨Nb,0,none⟩),ndV n,.pointer p] W fun e W'=> e=.returned (ndV (renZ n sc s.made))/\(∃vf',Nms W0 Nb ⟨s.plain,s.free++lostZ n sc,s.made+makesZ n.kind⟩ vp vf' W'/\Movd W vf vf')/\Nfr Nb vp vf W W':= by
 have HM:=U hm;have HNa:=U hna;obtain⟨X,hX,b4,b6,hbX⟩:=two_boxes W n;have HR0:O (Rnd W0 Nb W vp vf s vf n X):=⟨st.below hbX,Or.inl rfl,Nfr.of_below hbX,b4,b6⟩
 have Hw:=U st.size;have Hp:O (∀g,vp.ownBlock=some g->g<W.heap.size):=fun g e=>by obtain⟨-,cur,hc⟩:=z40 st.prow e;exact z13 hc
 have HLs:O (∀(s':Wst) (vf':Value) (Y:World),Nms W0 Nb s' vp vf' Y->Laid Y):=fun s' vf' Y hn=>hL.same (hn.kept 1 hL.lt (fun e=>h1 e.symm))
 have h0:=U (Lc h1 hL.lt);have HSc:=U (hsc.below hbX);obtain⟨sp,sf,mm⟩:=s;obtain⟨kd,num,a,b,c,kids⟩:=n;unfold ndV;dsimp only at*;clear hL hm st hsc hna b4 b6 hbX;go_enter func95,ntmps95
 go_upto_region 1 with fail
 clear hX;by_cases k6:kd=6
 ·subst k6;have HRen:O (renZ ⟨6,num,a,b,c,kids⟩ sc mm=⟨6,num,freshZ mm,b,c,kids⟩):=rfl;have HSt:O ((⟨sp,sf++lostZ ⟨6,num,a,b,c,kids⟩ sc,mm+makesZ (⟨6,num,a,b,c,kids⟩:Nd).kind⟩:Wst)=⟨sp,sf,mm+1⟩):=by
   have e:lostZ ⟨6,num,a,b,c,kids⟩ sc= []:=qx;show _=_;rw[e,List.append_nil];rfl
  obtain⟨⟨c0,c1,c2,c3,c4,c5⟩,⟨z2,z3,z4⟩,⟨e0,e1,e2,e3,e4,e5⟩,y0,y1,y2,y3,y4,y5⟩:=HR0.o.facts;dsimp only at c0 c1 c2 c3 c4 c5;go_wp2_with fail
  refine HR0.o.fresh Hw.o Hp.o (HLs.o _ _ _ HR0.o.st) h0 qy fun Y HR1=>?_
  clear c0 c1 c2 c3 c4 c5 z2 z3 z4 e0 e1 e2 e3 e4 e5 y0 y1 y2 y3 y4 y5;obtain⟨⟨c0,c1,c2,c3,c4,c5⟩,⟨z2,z3,z4⟩,⟨e0,e1,e2,e3,e4,e5⟩,y0,y1,y2,y3,y4,y5⟩:=HR1.o.facts;dsimp only at c0 c1 c2 c3 c4 c5;have HR2:=U (HR1.o.set2 Hw.o Hp.o (freshZ mm));generalize freshZ mm=F1 at*;go_wp2_with fail
  exact HR2.o.fin Hw.o Hp.o rfl rfl HRen.o HSt.o
 by_cases k8:kd=8
 ·subst k8;have HRen:O (renZ ⟨8,num,a,b,c,kids⟩ sc mm=⟨8,num,freshZ mm,b,c,kids⟩):=rfl;have HSt:O ((⟨sp,sf++lostZ ⟨8,num,a,b,c,kids⟩ sc,mm+makesZ (⟨8,num,a,b,c,kids⟩:Nd).kind⟩:Wst)=⟨sp,sf,mm+1⟩):=by
   have e:lostZ ⟨8,num,a,b,c,kids⟩ sc= []:=qx;show _=_;rw[e,List.append_nil];rfl
  obtain⟨⟨c0,c1,c2,c3,c4,c5⟩,⟨z2,z3,z4⟩,⟨e0,e1,e2,e3,e4,e5⟩,y0,y1,y2,y3,y4,y5⟩:=HR0.o.facts;dsimp only at c0 c1 c2 c3 c4 c5;go_wp2_with fail
  refine HR0.o.fresh Hw.o Hp.o (HLs.o _ _ _ HR0.o.st) h0 qy fun Y HR1=>?_
  clear c0 c1 c2 c3 c4 c5 z2 z3 z4 e0 e1 e2 e3 e4 e5 y0 y1 y2 y3 y4 y5;obtain⟨⟨c0,c1,c2,c3,c4,c5⟩,⟨z2,z3,z4⟩,⟨e0,e1,e2,e3,e4,e5⟩,y0,y1,y2,y3,y4,y5⟩:=HR1.o.facts;dsimp only at c0 c1 c2 c3 c4 c5;have HR2:=U (HR1.o.set2 Hw.o Hp.o (freshZ mm));generalize freshZ mm=F1 at*;go_wp2_with fail
  exact HR2.o.fin Hw.o Hp.o rfl rfl HRen.o HSt.o
 by_cases k25:kd=25
 ·subst k25;have HRen:O (renZ ⟨25,num,a,b,c,kids⟩ sc mm=⟨25,num,freshZ mm,b,c,kids⟩):=rfl;have HSt:O ((⟨sp,sf++lostZ ⟨25,num,a,b,c,kids⟩ sc,mm+makesZ (⟨25,num,a,b,c,kids⟩:Nd).kind⟩:Wst)=⟨sp,sf,mm+1⟩):=by
   have e:lostZ ⟨25,num,a,b,c,kids⟩ sc= []:=qx;show _=_;rw[e,List.append_nil];rfl
  obtain⟨⟨c0,c1,c2,c3,c4,c5⟩,⟨z2,z3,z4⟩,⟨e0,e1,e2,e3,e4,e5⟩,y0,y1,y2,y3,y4,y5⟩:=HR0.o.facts;dsimp only at c0 c1 c2 c3 c4 c5;go_wp2_with fail
  refine HR0.o.fresh Hw.o Hp.o (HLs.o _ _ _ HR0.o.st) h0 qy fun Y HR1=>?_
  clear c0 c1 c2 c3 c4 c5 z2 z3 z4 e0 e1 e2 e3 e4 e5 y0 y1 y2 y3 y4 y5;obtain⟨⟨c0,c1,c2,c3,c4,c5⟩,⟨z2,z3,z4⟩,⟨e0,e1,e2,e3,e4,e5⟩,y0,y1,y2,y3,y4,y5⟩:=HR1.o.facts;dsimp only at c0 c1 c2 c3 c4 c5;have HR2:=U (HR1.o.set2 Hw.o Hp.o (freshZ mm));generalize freshZ mm=F1 at*;go_wp2_with fail
  exact HR2.o.fin Hw.o Hp.o rfl rfl HRen.o HSt.o
 by_cases k9:kd=9
 ·subst k9;have HRen:O (renZ ⟨9,num,a,b,c,kids⟩ sc mm=⟨9,num,freshZ mm,freshZ (mm+1),c,kids⟩):=rfl;have HSt:O ((⟨sp,sf++lostZ ⟨9,num,a,b,c,kids⟩ sc,mm+makesZ (⟨9,num,a,b,c,kids⟩:Nd).kind⟩:Wst)=⟨sp,sf,mm+2⟩):=by
   have e:lostZ ⟨9,num,a,b,c,kids⟩ sc= []:=qx;show _=_;rw[e,List.append_nil];rfl
  obtain⟨⟨c0,c1,c2,c3,c4,c5⟩,⟨z2,z3,z4⟩,⟨e0,e1,e2,e3,e4,e5⟩,y0,y1,y2,y3,y4,y5⟩:=HR0.o.facts;dsimp only at c0 c1 c2 c3 c4 c5;go_wp2_with fail
  refine HR0.o.fresh Hw.o Hp.o (HLs.o _ _ _ HR0.o.st) h0 qy fun Y HR1=>?_
  clear c0 c1 c2 c3 c4 c5 z2 z3 z4 e0 e1 e2 e3 e4 e5 y0 y1 y2 y3 y4 y5;obtain⟨⟨c0,c1,c2,c3,c4,c5⟩,⟨z2,z3,z4⟩,⟨e0,e1,e2,e3,e4,e5⟩,y0,y1,y2,y3,y4,y5⟩:=HR1.o.facts;dsimp only at c0 c1 c2 c3 c4 c5;have HR2:=U (HR1.o.set2 Hw.o Hp.o (freshZ mm));have hW2:∃Y2,Y.setCell ⟨W.heap.size,2,none⟩ (.string (freshZ mm))=Y2:=⟨_,rfl⟩
  obtain⟨Y2,hY2⟩:=hW2;rw[hY2]at HR2;have HF1:O (freshZ mm=freshZ mm):=rfl;generalize freshZ mm=F1 at*;go_upto_region 14 with fail
  clear c0 c1 c2 c3 c4 c5 z2 z3 z4 e0 e1 e2 e3 e4 e5 y0 y1 y2 y3 y4 y5;clear hY2 HR1;obtain⟨⟨c0,c1,c2,c3,c4,c5⟩,⟨z2,z3,z4⟩,⟨e0,e1,e2,e3,e4,e5⟩,y0,y1,y2,y3,y4,y5⟩:=HR2.o.facts;dsimp only at c0 c1 c2 c3 c4 c5;go_wp2_with fail
  refine HR2.o.fresh Hw.o Hp.o (HLs.o _ _ _ HR2.o.st) h0 qy fun Y3 HR3=>?_
  clear c0 c1 c2 c3 c4 c5 z2 z3 z4 e0 e1 e2 e3 e4 e5 y0 y1 y2 y3 y4 y5;obtain⟨⟨c0,c1,c2,c3,c4,c5⟩,⟨z2,z3,z4⟩,⟨e0,e1,e2,e3,e4,e5⟩,y0,y1,y2,y3,y4,y5⟩:=HR3.o.facts;dsimp only at c0 c1 c2 c3 c4 c5;have HR4:=U (HR3.o.set3 Hw.o Hp.o (freshZ (mm+1)));generalize freshZ (mm+1)=F2 at*;go_wp2_with fail
  exact HR4.o.fin Hw.o Hp.o rfl rfl HRen.o HSt.o
 by_cases k20:kd=20
 ·subst k20;have HRen:O (renZ ⟨20,num,a,b,c,kids⟩ sc mm=⟨20,num,freshZ mm,freshZ (mm+1),c,kids⟩):=rfl;have HSt:O ((⟨sp,sf++lostZ ⟨20,num,a,b,c,kids⟩ sc,mm+makesZ (⟨20,num,a,b,c,kids⟩:Nd).kind⟩:Wst)=⟨sp,sf,mm+2⟩):=by
   have e:lostZ ⟨20,num,a,b,c,kids⟩ sc= []:=qx;show _=_;rw[e,List.append_nil];rfl
  obtain⟨⟨c0,c1,c2,c3,c4,c5⟩,⟨z2,z3,z4⟩,⟨e0,e1,e2,e3,e4,e5⟩,y0,y1,y2,y3,y4,y5⟩:=HR0.o.facts;dsimp only at c0 c1 c2 c3 c4 c5;go_wp2_with fail
  refine HR0.o.fresh Hw.o Hp.o (HLs.o _ _ _ HR0.o.st) h0 qy fun Y HR1=>?_
  clear c0 c1 c2 c3 c4 c5 z2 z3 z4 e0 e1 e2 e3 e4 e5 y0 y1 y2 y3 y4 y5;obtain⟨⟨c0,c1,c2,c3,c4,c5⟩,⟨z2,z3,z4⟩,⟨e0,e1,e2,e3,e4,e5⟩,y0,y1,y2,y3,y4,y5⟩:=HR1.o.facts;dsimp only at c0 c1 c2 c3 c4 c5;have HR2:=U (HR1.o.set2 Hw.o Hp.o (freshZ mm));have hW2:∃Y2,Y.setCell ⟨W.heap.size,2,none⟩ (.string (freshZ mm))=Y2:=⟨_,rfl⟩
  obtain⟨Y2,hY2⟩:=hW2;rw[hY2]at HR2;have HF1:O (freshZ mm=freshZ mm):=rfl;generalize freshZ mm=F1 at*;go_upto_region 14 with fail
  clear c0 c1 c2 c3 c4 c5 z2 z3 z4 e0 e1 e2 e3 e4 e5 y0 y1 y2 y3 y4 y5;clear hY2 HR1;obtain⟨⟨c0,c1,c2,c3,c4,c5⟩,⟨z2,z3,z4⟩,⟨e0,e1,e2,e3,e4,e5⟩,y0,y1,y2,y3,y4,y5⟩:=HR2.o.facts;dsimp only at c0 c1 c2 c3 c4 c5;go_wp2_with fail
  refine HR2.o.fresh Hw.o Hp.o (HLs.o _ _ _ HR2.o.st) h0 qy fun Y3 HR3=>?_
  clear c0 c1 c2 c3 c4 c5 z2 z3 z4 e0 e1 e2 e3 e4 e5 y0 y1 y2 y3 y4 y5;obtain⟨⟨c0,c1,c2,c3,c4,c5⟩,⟨z2,z3,z4⟩,⟨e0,e1,e2,e3,e4,e5⟩,y0,y1,y2,y3,y4,y5⟩:=HR3.o.facts;dsimp only at c0 c1 c2 c3 c4 c5;have HR4:=U (HR3.o.set3 Hw.o Hp.o (freshZ (mm+1)));generalize freshZ (mm+1)=F2 at*;go_wp2_with fail
  exact HR4.o.fin Hw.o Hp.o rfl rfl HRen.o HSt.o
 by_cases k22:kd=22
 ·subst k22;have HRen:O (renZ ⟨22,num,a,b,c,kids⟩ sc mm=⟨22,num,a,b,c,kids⟩):=rfl;have HSt:O ((⟨sp,sf++lostZ ⟨22,num,a,b,c,kids⟩ sc,mm+makesZ (⟨22,num,a,b,c,kids⟩:Nd).kind⟩:Wst)=⟨sp,sf,mm⟩):=by
   have e:lostZ ⟨22,num,a,b,c,kids⟩ sc= []:=qx;show _=_;rw[e,List.append_nil];rfl
  obtain⟨⟨c0,c1,c2,c3,c4,c5⟩,⟨z2,z3,z4⟩,⟨e0,e1,e2,e3,e4,e5⟩,y0,y1,y2,y3,y4,y5⟩:=HR0.o.facts;dsimp only at c0 c1 c2 c3 c4 c5;go_wp2_with fail
  refine HR0.o.clone Hw.o Hp.o HNa.o fun Y HR1=>?_
  clear c0 c1 c2 c3 c4 c5 z2 z3 z4 e0 e1 e2 e3 e4 e5 y0 y1 y2 y3 y4 y5;obtain⟨⟨c0,c1,c2,c3,c4,c5⟩,⟨z2,z3,z4⟩,⟨e0,e1,e2,e3,e4,e5⟩,y0,y1,y2,y3,y4,y5⟩:=HR1.o.facts;dsimp only at c0 c1 c2 c3 c4 c5;have HR2:=U (HR1.o.set2 Hw.o Hp.o a);go_wp2_with fail
  exact HR2.o.fin Hw.o Hp.o rfl rfl HRen.o HSt.o
 by_cases k26:kd=26
 ·subst k26;have HRen:O (renZ ⟨26,num,a,b,c,kids⟩ sc mm=⟨26,num,a,freshZ mm,freshZ (mm+1),kids⟩):=rfl;have HSt:O ((⟨sp,sf++lostZ ⟨26,num,a,b,c,kids⟩ sc,mm+makesZ (⟨26,num,a,b,c,kids⟩:Nd).kind⟩:Wst)=⟨sp,sf,mm+2⟩):=by
   have e:lostZ ⟨26,num,a,b,c,kids⟩ sc= []:=qx;show _=_;rw[e,List.append_nil];rfl
  obtain⟨⟨c0,c1,c2,c3,c4,c5⟩,⟨z2,z3,z4⟩,⟨e0,e1,e2,e3,e4,e5⟩,y0,y1,y2,y3,y4,y5⟩:=HR0.o.facts;dsimp only at c0 c1 c2 c3 c4 c5;go_wp2_with fail
  refine HR0.o.clone Hw.o Hp.o HNa.o fun Y HR1=>?_
  clear c0 c1 c2 c3 c4 c5 z2 z3 z4 e0 e1 e2 e3 e4 e5 y0 y1 y2 y3 y4 y5;obtain⟨⟨c0,c1,c2,c3,c4,c5⟩,⟨z2,z3,z4⟩,⟨e0,e1,e2,e3,e4,e5⟩,y0,y1,y2,y3,y4,y5⟩:=HR1.o.facts;dsimp only at c0 c1 c2 c3 c4 c5;have HR2:=U (HR1.o.set2 Hw.o Hp.o a);obtain⟨Y2,hY2⟩:∃Y2,Y.setCell ⟨W.heap.size,2,none⟩ (.string a)=Y2:=⟨_,rfl⟩
  rw[hY2]at HR2;go_upto_region 19 with fail
  clear c0 c1 c2 c3 c4 c5 z2 z3 z4 e0 e1 e2 e3 e4 e5 y0 y1 y2 y3 y4 y5;clear hY2 HR1;obtain⟨⟨c0,c1,c2,c3,c4,c5⟩,⟨z2,z3,z4⟩,⟨e0,e1,e2,e3,e4,e5⟩,y0,y1,y2,y3,y4,y5⟩:=HR2.o.facts;dsimp only at c0 c1 c2 c3 c4 c5;go_wp2_with fail
  refine HR2.o.fresh Hw.o Hp.o (HLs.o _ _ _ HR2.o.st) h0 qy fun Y3 HR3=>?_
  clear c0 c1 c2 c3 c4 c5 z2 z3 z4 e0 e1 e2 e3 e4 e5 y0 y1 y2 y3 y4 y5;obtain⟨⟨c0,c1,c2,c3,c4,c5⟩,⟨z2,z3,z4⟩,⟨e0,e1,e2,e3,e4,e5⟩,y0,y1,y2,y3,y4,y5⟩:=HR3.o.facts;dsimp only at c0 c1 c2 c3 c4 c5;have HR4:=U (HR3.o.set3 Hw.o Hp.o (freshZ mm));obtain⟨Y4,hY4⟩:∃Y4,Y3.setCell ⟨W.heap.size,3,none⟩ (.string (freshZ mm))=Y4:=⟨_,rfl⟩
  rw[hY4]at HR4;generalize freshZ mm=F1 at*;go_upto_region 20 with fail
  clear c0 c1 c2 c3 c4 c5 z2 z3 z4 e0 e1 e2 e3 e4 e5 y0 y1 y2 y3 y4 y5;clear hY4 HR3 HR2;obtain⟨⟨c0,c1,c2,c3,c4,c5⟩,⟨z2,z3,z4⟩,⟨e0,e1,e2,e3,e4,e5⟩,y0,y1,y2,y3,y4,y5⟩:=HR4.o.facts;dsimp only at c0 c1 c2 c3 c4 c5;go_wp2_with fail
  refine HR4.o.fresh Hw.o Hp.o (HLs.o _ _ _ HR4.o.st) h0 qy fun Y5 HR5=>?_
  clear c0 c1 c2 c3 c4 c5 z2 z3 z4 e0 e1 e2 e3 e4 e5 y0 y1 y2 y3 y4 y5;obtain⟨⟨c0,c1,c2,c3,c4,c5⟩,⟨z2,z3,z4⟩,⟨e0,e1,e2,e3,e4,e5⟩,y0,y1,y2,y3,y4,y5⟩:=HR5.o.facts;dsimp only at c0 c1 c2 c3 c4 c5;have HR6:=U (HR5.o.set4 Hw.o Hp.o (freshZ (mm+1)));generalize freshZ (mm+1)=F2 at*;go_wp2_with fail
  exact HR6.o.fin Hw.o Hp.o rfl rfl HRen.o HSt.o
 by_cases k5:kd=5
 .subst k5;have HMk:O (makesZ 5=0):=rfl
  cases hfd:findS sc a with
  | some y=>
    have HRen:O (renZ ⟨5,num,a,b,c,kids⟩ sc mm=⟨5,num,y,b,c,kids⟩):=by
     show _=_;unfold renZ;rw[if_pos rfl,hfd];rfl
    have HSt:O ((⟨sp,sf++lostZ ⟨5,num,a,b,c,kids⟩ sc,mm+makesZ (⟨5,num,a,b,c,kids⟩:Nd).kind⟩:Wst)=⟨sp,sf,mm⟩):=by
     have e:lostZ ⟨5,num,a,b,c,kids⟩ sc= []:=by unfold lostZ;rw[if_neg (by rintro⟨-,h⟩;rw[hfd]at h;cases h)]
     show _=_;rw[e,List.append_nil];rfl
    have HFi:=U (find_calls p sc a X HSc.o);rw[hfd]at HFi;dsimp only[Option.getD_some,Option.isSome_some]at HFi;obtain⟨⟨c0,c1,c2,c3,c4,c5⟩,⟨z2,z3,z4⟩,⟨e0,e1,e2,e3,e4,e5⟩,y0,y1,y2,y3,y4,y5⟩:=HR0.o.facts;dsimp only at c0 c1 c2 c3 c4 c5;go_wp2_with fail
    refine HFi.o.mono ?_;rintro e _ ⟨rfl,rfl⟩;have HR2:=U (HR0.o.set2 Hw.o Hp.o y);go_wp2_with fail
    exact HR2.o.fin Hw.o Hp.o rfl rfl HRen.o HSt.o
  | none=>
    have HRen:O (renZ ⟨5,num,a,b,c,kids⟩ sc mm=⟨5,num,⟨#[]⟩,b,c,kids⟩):=by
     show _=_;unfold renZ;rw[if_pos rfl,hfd];rfl
    have HSt:O ((⟨sp,sf++lostZ ⟨5,num,a,b,c,kids⟩ sc,mm+makesZ (⟨5,num,a,b,c,kids⟩:Nd).kind⟩:Wst)=⟨sp,sf++ [a],mm⟩):=by
     have e:lostZ ⟨5,num,a,b,c,kids⟩ sc= [a]:=by unfold lostZ;rw[if_pos ⟨rfl,hfd⟩]
     show _=_;rw[e];rfl
    have HFi:=U (find_calls p sc a X HSc.o);rw[hfd]at HFi;dsimp only[Option.getD_none,Option.isSome_none]at HFi;obtain⟨⟨c0,c1,c2,c3,c4,c5⟩,⟨z2,z3,z4⟩,⟨e0,e1,e2,e3,e4,e5⟩,y0,y1,y2,y3,y4,y5⟩:=HR0.o.facts;dsimp only at c0 c1 c2 c3 c4 c5;go_wp2_with fail
    refine HFi.o.mono ?_;rintro e _ ⟨rfl,rfl⟩;obtain⟨ad,cf,hvf⟩:=z46 HR0.o.st.frow;dsimp only at hvf;subst hvf;have hblk:=HR0.o.st.blk;have d1:=z11 hblk 1;simp at d1;have hNl:Nb<X.heap.size:=z13 hblk;have hBl:W.heap.size<X.heap.size:=z13 HR0.o.b4;have q1:∀y:Later X.heap.size X,y.w.cell? ⟨Nb,1,none⟩=_:=fun y=>y.cell hNl d1
    have q2:∀y:Later X.heap.size X,y.w.cell? ⟨W.heap.size,2,none⟩=_:=fun y=>y.cell hBl c2
    clear HFi hblk d1;clear c0 c1 c3 c4 c5 z2 z3 z4 e0 e1 e2 e3 e4 e5 y0 y1 y2 y3 y4 y5;go_wp2_with fail
    refine till_begin (c:=9) (S:=fun w'=> ∃x:Later X.heap.size X,w'= x.w) ye ?_;refine till_walk ye 8 0 _ _ ye ye ⟨⟨X.drew,Lb.drew⟩,rfl⟩ ?_;simp only[List.drop_zero,List.take_succ_cons,List.take_zero];repeat(go_big_quiet_step (first
     |(rename_i y;go_at_call 133;refine(clone_calls a _ HNa.o).mono ?_;rintro e w5 ⟨rfl,hb5⟩;exact⟨rfl,⟨w5,y.h.trans (hb5.mono y.h.size)⟩,rfl⟩)))
    refine wpQuiet_nil ?_;rintro w7 ⟨x1,rfl⟩;have HR1:=U (HR0.o.more Hw.o Hp.o (HR0.o.st.below x1.h) (Nfr.of_below x1.h) (Or.inl rfl));have hL1:=x1.h;clear q1 q2 c2 hNl hBl;generalize x1.w=X1 at*;refine till_make (k:=8) (v:=.slice (some ⟨X1.heap.size,0,none⟩) 1 1) (w1:=X1.alloc (.cells #[.string a] 9)) yk rfl ye rfl yf ⟨⟨_,hL1.alloc zh _⟩,rfl⟩ yg ?_;have hE:=(Ld X1 (.cells #[.string a] 9)).1;have hK:=(Below.refl X1.heap.size X1).alloc La (.cells #[.string a] 9);have HR2:=U (HR1.o.more Hw.o Hp.o (HR1.o.st.below hK) (Nfr.of_below hK) (Or.inl rfl));generalize X1.alloc (.cells #[.string a] 9)=X2 at*
    obtain⟨i0,hi,hz0,hz1,hz2⟩:=info_parts info_str;obtain⟨vf2,X3,hrun,hown,hgrow,-,hat⟩:=run_append_own_at (P:=prog) X2 W0.heap.size 33 33 9 i0 _ 1 16 underlying33 hi hz0 hz1 hz2 rfl yk (.slice ad sf.length cf) sf.length (strRow sf) HR2.o.st.frow ⟨X1.heap.size,0,none⟩ 1 1 [.string a] rfl (fun j u hu=>by
     match j,hu with
     | 0,hu=>
       simp at hu;subst hu;exact z11 hE 0) (fun u hu=>by
     simp at hu;subst hu;rfl) (by have:=HM.o.free;dsimp only at this;unfold maxLen;omega) (by have:=HM.o.free;dsimp only at this;omega) HR2.o.st.size
    refine till_cut (v:=vf2) (w1:=X3) rfl ye rfl (z45 (s:=.tmp 26) (x:=.tmp 30) (t:=33) rfl rfl rfl hrun) yg ?_;refine any_stage (fun _=>True) ?_;have hnbk:X3.heap[Nb]?=X2.heap[Nb]? :=hgrow.block Nb (z13 HR2.o.st.blk) (fun e=>(HR2.o.st.apart HR2.o.st.blk).2 yk e.symm);have hb3:=hnbk.trans HR2.o.st.blk;have d1:=z11 hb3 1;have w1:=z15 hb3 1;simp at d1;obtain⟨ad2,cf2,hv2⟩:=z46 hown;subst hv2;refine stage_make (k:=10) (v:=.pointer (some ⟨Nb,0,none⟩)) (w1:=X3) rfl ye rfl yf trivial yg ?_;refine stage_make (k:=11) (v:=.pointer (some ⟨Nb,1,none⟩)) (w1:=X3) rfl ye rfl yf trivial yg ?_
    refine stage_skip (k:=12) rfl (w1:=X3.setCell ⟨Nb,1,none⟩ (.slice ad2 (sf.length+1) cf2)) rfl ye rfl yo trivial ?_;refine stage_end ye ?_;have hnx:=nms_free HR2.o.st hown hgrow hat;have HR3:O (Rnd W0 Nb W vp (.slice ad sf.length cf) ⟨sp,sf++ [a],mm⟩ (.slice ad2 (sf.length+1) cf2) ⟨5,num,a,b,c,kids⟩ (X3.setCell ⟨Nb,1,none⟩ (.slice ad2 (sf.length+1) cf2))):=HR2.o.more Hw.o Hp.o hnx.1 hnx.2.1 hnx.2.2;clear hnx hrun hown hgrow hat hE hK hi hz0 hz1 hz2 hnbk hb3 d1 w1 HR1 HR2 hL1;generalize X3.setCell ⟨Nb,1,none⟩ (.slice ad2 (sf.length+1) cf2)=X4 at*
    obtain⟨⟨c0,c1,c2,c3,c4,c5⟩,⟨z2,z3,z4⟩,⟨e0,e1,e2,e3,e4,e5⟩,y0,y1,y2,y3,y4,y5⟩:=HR3.o.facts;dsimp only at c0 c1 c2 c3 c4 c5;have HR4:=U (HR3.o.set2 Hw.o Hp.o ⟨#[]⟩);go_wp2_with fail
    exact HR4.o.fin Hw.o Hp.o rfl rfl HRen.o HSt.o
 have b6:(kd==6)=false:=beq_eq_false_iff_ne.2 k6;have b8:(kd==8)=false:=beq_eq_false_iff_ne.2 k8;have b25:(kd==25)=false:=beq_eq_false_iff_ne.2 k25;have b9:(kd==9)=false:=beq_eq_false_iff_ne.2 k9;have b20:(kd==20)=false:=beq_eq_false_iff_ne.2 k20;have b22:(kd==22)=false:=beq_eq_false_iff_ne.2 k22;have b26:(kd==26)=false:=beq_eq_false_iff_ne.2 k26;have b5:(kd==5)=false:=beq_eq_false_iff_ne.2 k5;have HRen:O (renZ ⟨kd,num,a,b,c,kids⟩ sc mm=⟨kd,num,a,b,c,kids⟩):=by
  show _=_;unfold renZ;rw[if_neg k5,if_neg vg,if_neg (by rintro (h|h);exact k9 h;exact k20 h),if_neg k26]
 have HSt:O ((⟨sp,sf++lostZ ⟨kd,num,a,b,c,kids⟩ sc,mm+makesZ (⟨kd,num,a,b,c,kids⟩:Nd).kind⟩:Wst)=⟨sp,sf,mm⟩):=by
  have e:lostZ ⟨kd,num,a,b,c,kids⟩ sc= []:=by unfold lostZ;rw[if_neg (by rintro⟨h,-⟩;exact k5 h)]
  have e2:makesZ kd=0:=by unfold makesZ;rw[if_neg vg,if_neg (by rintro (h|h|h);exact k9 h;exact k20 h;exact k26 h)]
  show _=_;dsimp only;rw[e,List.append_nil,e2];rfl
 obtain⟨⟨c0,c1,c2,c3,c4,c5⟩,⟨z2,z3,z4⟩,⟨e0,e1,e2,e3,e4,e5⟩,y0,y1,y2,y3,y4,y5⟩:=HR0.o.facts;dsimp only at c0 c1 c2 c3 c4 c5;go_wp2_with fail
 exact HR0.o.fin Hw.o Hp.o rfl rfl HRen.o HSt.o
theorem info_nd:(prog.info? 68).map (fun i=>(i.zero,i.size,i.bytes))=some (some (.agg #[int i64 0,int i64 0,.string ⟨#[]⟩,.string ⟨#[]⟩,.string ⟨#[]⟩,int i64 0]),6,72):=ye
def Whole (n:Nd):Prop:=plainZ n= { n with kids:=0 }/\n.a.size<=281474976710656
theorem nodeOf_result {tmps:Array Value}{g:Nat}{v0 v1 v2 v3 v4 v5:Value}(hg:tmps.getD 2 undef=.pointer (some ⟨g,0,none⟩)) (h:X.heap[g]?=some (.cells #[v0,v1,v2,v3,v4,v5] 68)):(results Tryz.f94 tmps).run prog X=.ok (.agg #[v0,v1,v2,v3,v4,v5]) X:=by
 rw[Array.getD_eq_getD_getElem?]at hg;obtain⟨c0,c1,c2,c3,c4,c5⟩:=fcl6 h;simp[results,results94,go_sem,hg,c0,c1,c2,c3,c4,c5]
theorem sliceOf_len {w:World}{sv:Value}(h:SliceOf B w sv us):∃ad c,sv=.slice ad us.length c:=by
 rcases h with ⟨rfl,a,c,rfl⟩|⟨g,o,cap,rfl,-⟩
 .exact⟨a,c,rfl⟩
 .exact⟨_,_,rfl⟩
theorem nodeOfF_calls {v:Value}(w:World) (hS:Shape B w n us v) (hi:∀u∈us,∃T p,u=.iface T p) (hw:Whole n) (hk:n.kids=us.length) :
 Calls prog 94 #[v] w fun e w'=> e=.returned (ndV n)/\Below w.heap.size w w':= by
 have hA:=(Ld w (.cells #[int i64 0,int i64 0,.string ⟨#[]⟩,.string ⟨#[]⟩,.string ⟨#[]⟩,int i64 0] 68)).1;have hbA:=(Below.refl w.heap.size w).alloc La (.cells #[int i64 0,int i64 0,.string ⟨#[]⟩,.string ⟨#[]⟩,.string ⟨#[]⟩,int i64 0] 68);have hNo:=nodeOf (hS.below hbA) hi;rw[hw.1]at hNo;obtain⟨kd,num,a,b,c,kids⟩:=n;dsimp only at hNo hk;obtain⟨T,pv,g,rv,e0,hmth,hcf,hNd⟩:=hNo;subst e0;have HS:=U (hS.below hbA);have HI:=U hi;have HBA:=U hbA;have HA:=U hA;have HN:=U hNd;subst hk;unfold ndV;dsimp only;clear hS hi hw hNd hbA hA;go_enter func94,ntmps94
 go_wp2_with fail
 refine HN.o.mono ?_;rintro e w2 ⟨rfl,hb2⟩;unfold ndV;dsimp only;generalize w.alloc (.cells #[int i64 0,int i64 0,.string ⟨#[]⟩,.string ⟨#[]⟩,.string ⟨#[]⟩,int i64 0] 68)=wA at*;have hB3:=(Ld w2 (.cells #[int i64 kd,int i64 num,.string a,.string b,.string c,int i64 0] 68)).1;have hb3:=(Below.refl w2.heap.size w2).alloc La (.cells #[int i64 kd,int i64 num,.string a,.string b,.string c,int i64 0] 68);have hA3:=(hb3.block _ (z13 ((hb2.block _ (z13 HA.o)).trans HA.o))).trans ((hb2.block _ (z13 HA.o)).trans HA.o);have hbA3:=hb2.trans (hb3.mono hb2.size);have hK:=kidsOf (HS.o.below hbA3) HI.o
 obtain⟨T',pv',g',rv',e1,hmth',hcf',hKd⟩:=hK
 cases e1;have HK:=U hKd;have HBw3:=U (HBA.o.trans (hbA3.mono HBA.o.size));have hwlt:w.heap.size<w2.heap.size:=by have:=z13 HA.o;have:=hb2.size;omega
 clear hKd HN hmth hcf hb2 hbA3 HS HA;go_upto_region 2 with fail
 generalize w2.alloc (.cells #[int i64 kd,int i64 num,.string a,.string b,.string c,int i64 0] 68)=w3 at*;generalize hB3g:w2.heap.size=b3 at*;clear hB3g hb3;go_wp2_with fail
 refine HK.o.mono ?_;rintro e w4 ⟨sv,rfl,hsl,hb4⟩;obtain⟨ad,cc,rfl⟩:=sliceOf_len hsl;have hA4:=(hb4.block _ (z13 hA3)).trans hA3;have hB4:=(hb4.block _ (z13 hB3)).trans hB3;have HBw4:=U (HBw3.o.trans (hb4.mono HBw3.o.size));have c0:=z11 hB4 0;have c1:=z11 hB4 1;have c2:=z11 hB4 2;have c3:=z11 hB4 3;have c4:=z11 hB4 4;have c5:=z11 hB4 5;have z5:=z15 hB4 5;have e0:=z11 hA4 0;have e1:=z11 hA4 1;have e2:=z11 hA4 2;have e3:=z11 hA4 3;have e4:=z11 hA4 4;have e5:=z11 hA4 5;obtain⟨y0,y1,y2,y3,y4,y5⟩:=ffz6 hA4;simp at c0 c1 c2 c3 c4 c5 e0 e1 e2 e3 e4 e5;have HA4:=U hA4;have HB4:=U hB4
 have hne:w.heap.size≠b3:=ya;clear HK hmth' hcf' hsl hb4 hA3 hB3 hA4 hB4 HBw3;go_wp2_with fail
 refine bodyPost_ret (nodeOf_result (tmps:=_) rfl (box6_all ((Lg w4 ⟨b3,5,none⟩ _ _ hne).trans HA4.o) _ _ _ _ _ _)) rfl ?_;exact⟨rfl,(((((((HBw4.o.setCell (p:=⟨b3,5,none⟩) qw _).setCell (p:=⟨w.heap.size,0,none⟩) La _).setCell (p:=⟨w.heap.size,1,none⟩) La _).setCell (p:=⟨w.heap.size,2,none⟩) La _).setCell (p:=⟨w.heap.size,3,none⟩) La _).setCell (p:=⟨w.heap.size,4,none⟩) La _).setCell (p:=⟨w.heap.size,5,none⟩) La _)⟩
structure Room (c:Nat) (s:Wst):Prop where
 plain:s.plain.length+2*c<=90000
 free:s.free.length+2*c<=90000
 made:s.made+2*c<=90000
theorem Room.small {c:Nat}(h:Room c s):Wsm s:=⟨by have:=h.plain;omega,by have:=h.free;omega,by have:=h.made;omega⟩
theorem makesZ_le (k:Int):makesZ k<=2:=by
 unfold makesZ;repeat' split
 all_goals omega
theorem lostZ_len (n:Nd) (sc:Sco):(lostZ n sc).length<=1:=by
 unfold lostZ;split<;>simp
theorem shape_now {BF:Nat}{v:Value}(hS:Shape BF W0 n us v) (hN:Nb<BF) (st:Nms W0 Nb s vp vf W):Shape BF W n us v:=
 hS.kept La st.size (fun a h1 h2=>Lj (st.kept a.block h2 ya))
structure Wlk (W0:World) (Nb:Nat) (W:World) (vp vf:Value) (s':Wst) (vp' vf':Value) (X:World):Prop where
 st:Nms W0 Nb s' vp' vf' X
 fr:Nfr Nb vp vf W X
 mp:Movd W vp vp'
 mf:Movd W vf vf'
theorem Wlk.step {s'':Wst}{vp'' vf'':Value}(h:Wlk W0 Nb W vp vf s' vp' vf' X) (hy:Nms W0 Nb s'' vp'' vf'' Y) (fy:Nfr Nb vp' vf' X Y) (hp:Movd X vp' vp'') (hf:Movd X vf' vf''):Wlk W0 Nb W vp vf s'' vp'' vf'' Y:=
 ⟨hy,h.fr.trans h.mp h.mf fy,h.mp.trans h.fr.size hp,h.mf.trans h.fr.size hf⟩
theorem Wlk.below (h:Wlk W0 Nb W vp vf s' vp' vf' X) (hb:Below X.heap.size X Y):Wlk W0 Nb W vp vf s' vp' vf' Y:=h.step (h.st.below hb) (Nfr.of_below hb) (Or.inl rfl) (Or.inl rfl)
structure Free (Nb q:Nat) (vp vf:Value) (X:World):Prop where
 lt:q<X.heap.size
 nb:q≠Nb
 np:vp.ownBlock≠some q
 nf:vf.ownBlock≠some q
theorem Free.step (h:Free Nb q vp vf X) (fy:Nfr Nb vp vf X Y) (hp:Movd X vp vp') (hf:Movd X vf vf'):Free Nb q vp' vf' Y/\Y.heap[q]?=X.heap[q]? :=
 ⟨⟨Le h.lt fy.size,h.nb,hp.not h.lt h.np,hf.not h.lt h.nf⟩,fy.block q h.lt h.nb h.np h.nf⟩
theorem Free.below (h:Free Nb q vp vf X) (hb:Below X.heap.size X Y):Free Nb q vp vf Y/\Y.heap[q]?=X.heap[q]? :=h.step (Nfr.of_below hb) (Or.inl rfl) (Or.inl rfl)
theorem free_new (st:Nms W0 Nb s vp vf X) (h1:X.heap.size<=q) (h2:q<Y.heap.size):Free Nb q vp vf Y:=
 ⟨h2,by have:=st.nb;have:=st.size;omega,fun e=>by obtain⟨-,c,hc⟩:=z40 st.prow e;have:=z13 hc;omega,fun e=>by obtain⟨-,c,hc⟩:=z40 st.frow e;have:=z13 hc;omega⟩
def NamesAt (W:World) (ad:Option Addr) (ss:List ByteArray):Prop:=ss.length=0\/ ∃g o,ad=some ⟨g,o,none⟩/\g<W.heap.size/\ ∀j,j<ss.length->W.cell? ⟨g,o+j,none⟩=some (.string (ss.getD j ⟨#[]⟩))
theorem names_at {sv:Value}{ss:List ByteArray}(h:SliceOf B W sv (strRow ss)):∃ad c,sv=.slice ad ss.length c/\NamesAt W ad ss:=by
 have hl:(strRow ss).length=ss.length:=by unfold strRow;simp
 rcases h with ⟨e,a,c,rfl⟩|⟨g,o,cap,rfl,-,hg,hc⟩
 .have h0:ss.length=0:=by rw[<-hl,e];rfl
  exact⟨a,c,qe,Or.inl h0⟩
 .refine⟨_,cap,by rw[hl],Or.inr ⟨g,o,rfl,hg,fun j hj=>?_⟩⟩;rw[hc j (by rw[hl];exact hj)];unfold strRow;simp[List.getD,hj]
theorem NamesAt.below {W':World}{ad:Option Addr}{ss:List ByteArray}(h:NamesAt W ad ss) (hb:Below W.heap.size W W'):NamesAt W' ad ss:=by
 rcases h with h|⟨g,o,e,hg,hc⟩
 .exact Or.inl h
 .exact Or.inr ⟨g,o,e,Le hg hb.size,fun j hj=>(hb.cell (p:=⟨g,o+j,none⟩) hg).trans (hc j hj)⟩
theorem zip_take (xs ys:List ByteArray) (j:Nat) (h1:j<xs.length) (h2:xs.length=ys.length) (sc:Sco):((xs.zip ys).take (j+1)).foldl (fun s p=>p::s) sc=(xs.getD j ⟨#[]⟩,ys.getD j ⟨#[]⟩)::((xs.zip ys).take j).foldl (fun s p=>p::s) sc:=by
 have hz:j<(xs.zip ys).length:=by rw[List.length_zip];omega
 rw[List.take_add_one,Lr hz,Option.toList_some,List.foldl_append];simp[List.getD,h1,show j<ys.length by omega]
theorem walkW_room {k:Fo}{sc:Sco}{c:Nat}(h:Room (1+k.flat.length+c) s):Room c (walkW n k sc s):=by
 obtain⟨h1,h2,h3⟩:=kidsW_plain n (renZ n sc s.made) k 0 sc (stepW n sc s);have e1:=h.plain;have e2:=h.free;have e3:=h.made;have h4:=lostZ_len n sc;have h5:=makesZ_le n.kind;have s1:(stepW n sc s).plain.length=s.plain.length+1:=by simp[stepW]
 have s2:(stepW n sc s).free.length<=s.free.length+1:=jz;have s3:(stepW n sc s).made<=s.made+2:=by simp only[stepW];omega
 unfold walkW;exact⟨ya,ya,ya⟩
theorem lt_step' {i L:Nat}(h:(i:Int)<(L:Int)):L-(intOf (int i64 ((i+1:Nat):Int))).toNat<L-(intOf (int i64 (i:Int))).toNat:=yu
theorem walk_calls {BF:Nat}(hL:Laid W0) (h0:Nb≠1) (hNF:Nb<BF):∀(N:Nat) (n:Nd) (k:Fo) (us:List Value) (v:Value) (p:Option Addr) (sc:Sco) (s:Wst) (vp vf:Value) (W:World),
 Forms BF W0 k us->Shape BF W0 n us v->n.kids=k.count->k.wf->(∀m∈n::k.flat,Whole m)->k.flat.length<N->k.flat.length<=300->Nms W0 Nb s vp vf W->Room (k.flat.length+1) s->ScoAt W p sc->
 Calls prog 41 #[.pointer (some ⟨Nb,0,none⟩),v,.pointer p] W fun e W'=> (∃x,e=.returned x)/\ ∃vp' vf',Nms W0 Nb (walkW n k sc s) vp' vf' W'/\Nfr Nb vp vf W W'/\Movd W vp vp'/\Movd W vf vf':= by
 intro N;induction N with
 |zero=>intro n k us v p sc s vp vf W _ _ _ _ _ h;omega
 | succ N ih=>
   intro n k us v p sc s vp vf W hF hS hkd hwf hwh hN h300 st hroom hsc;have hlen:=hF.length;have HIH:=U ih;have HF:=U hF;have HS:=U hS;have HWf:=U hwf;have HWh:=U hwh;have HN:=U hN;have H300:=U h300;have HSt:=U st;have HRm:=U hroom;have HSc:=U hsc;have HLn:=U hlen;have HNo:=U (nodeOfF_calls W (shape_now hS hNF st) hF.ifaces (hwh n List.mem_cons_self) (by rw[hkd,hlen]));have HNa:=U (hwh n List.mem_cons_self).2;obtain⟨T,pv,hv⟩:=hS.iface;subst hv;obtain⟨TG,hTG⟩:∃TG,walkW n k sc s=TG:=⟨_,rfl⟩
   have HTG0:=U hTG;rw[hTG];clear hTG;clear ih hF hS hwf hwh hN h300 st hroom hsc hlen hkd;go_enter func41,ntmps41
   go_wp2_with fail
   refine HNo.o.mono ?_;rintro e W1 ⟨rfl,hb1⟩;obtain⟨kd,num,a,b,c,kids⟩:=n;unfold ndV;dsimp only at*;have hb6:=(Ld W1 (.cells #[int i64 kd,int i64 num,.string a,.string b,.string c,int i64 kids] 68)).1;have hb2:=hb1.trans (((Below.refl W1.heap.size W1).alloc La (.cells #[int i64 kd,int i64 num,.string a,.string b,.string c,int i64 kids] 68)).mono hb1.size);have HSt2:=U (HSt.o.below hb2);have HSc2:=U (HSc.o.below hb2);have hlt6:W.heap.size<=W1.heap.size:=hb1.size;have HB2:=U hb2;clear HNo hb1 hb2;go_upto_region 1 with fail
   generalize W1.alloc (.cells #[int i64 kd,int i64 num,.string a,.string b,.string c,int i64 kids] 68)=W2 at*;generalize W1.heap.size=b6 at*;obtain⟨c0,c1,c2,c3,c4,c5⟩:=fcl6 hb6;have HRe:=U (rename_calls ⟨kd,num,a,b,c,kids⟩ p sc W2 HSt2.o hL h0 HRm.o.small HSc2.o HNa.o);unfold ndV at HRe;dsimp only at HRe;go_wp2_with fail
   refine HRe.o.mono ?_;rintro e W3 ⟨rfl,⟨vf1,hn3,hm3⟩,hf3⟩;obtain⟨m,hm⟩:∃m,renZ ⟨kd,num,a,b,c,kids⟩ sc s.made=m:=⟨_,rfl⟩
   have HMe:=U hm;rw[hm];clear hm HRe;obtain⟨mk,mn,ma,mb,mc,mi⟩:=m;dsimp only;have K3:O (Wlk W0 Nb W vp vf ⟨s.plain,s.free++lostZ ⟨kd,num,a,b,c,kids⟩ sc,s.made+makesZ kd⟩ vp vf1 W3):=((⟨HSt.o,Nfr.of_below Lb,Or.inl rfl,Or.inl rfl⟩:Wlk W0 Nb W vp vf s vp vf W).below HB2.o).step hn3 hf3 (Or.inl rfl) hm3;have HSc3:=U (HSc2.o.frame HSt2.o hf3);have f6:=(free_new (X:=W) HSt.o hlt6 (z13 hb6)).step hf3 (Or.inl rfl) hm3;have hb6':= f6.2.trans hb6;have F6:=U f6.1;have HB6:=U hb6';clear hb6 hb6' f6 hn3 hf3 hm3 HSc2 HSt2 HB2 c0 c1 c2 c3 c4 c5
   have hb7:=(Ld W3 (.cells #[int i64 mk,int i64 mn,.string ma,.string mb,.string mc,int i64 mi] 68)).1;have hb4:=(Below.refl W3.heap.size W3).alloc La (.cells #[int i64 mk,int i64 mn,.string ma,.string mb,.string mc,int i64 mi] 68);go_upto_region 2 with fail
   generalize W3.alloc (.cells #[int i64 mk,int i64 mn,.string ma,.string mb,.string mc,int i64 mi] 68)=W4 at*;have F7:=U (free_new K3.o.st La (z13 hb7));have K4:=U (K3.o.below hb4);have HSc4:=U (HSc3.o.below hb4);have f6:=F6.o.below hb4;have HB6':= U (f6.2.trans HB6.o);have F6':= U f6.1;have HB7:=U hb7;have hlt7:W3.heap.size<W4.heap.size:=z13 hb7;generalize W3.heap.size=b7 at*;clear hb4 hb7 f6 K3 HSc3 F6 HB6;obtain⟨ad,cp,hvp⟩:=z46 K4.o.st.prow;dsimp only at hvp;subst hvp;have d0:=z11 K4.o.st.blk 0;simp at d0;have hNl:Nb<W4.heap.size:=z13 K4.o.st.blk;obtain⟨e0,e1,e2,e3,e4,e5⟩:=fcl6 HB7.o
   have q0:∀y:Later W4.heap.size W4,y.w.cell? ⟨Nb,0,none⟩=_:=fun y=>y.cell hNl d0
   have p0:∀y:Later W4.heap.size W4,y.w.cell? ⟨b7,0,none⟩=_:=fun y=>y.cell hlt7 e0
   have p1:∀y:Later W4.heap.size W4,y.w.cell? ⟨b7,1,none⟩=_:=fun y=>y.cell hlt7 e1
   have p2:∀y:Later W4.heap.size W4,y.w.cell? ⟨b7,2,none⟩=_:=fun y=>y.cell hlt7 e2
   have p3:∀y:Later W4.heap.size W4,y.w.cell? ⟨b7,3,none⟩=_:=fun y=>y.cell hlt7 e3
   have p4:∀y:Later W4.heap.size W4,y.w.cell? ⟨b7,4,none⟩=_:=fun y=>y.cell hlt7 e4
   have p5:∀y:Later W4.heap.size W4,y.w.cell? ⟨b7,5,none⟩=_:=fun y=>y.cell hlt7 e5
   clear d0 e0 e1 e2 e3 e4 e5;refine till_begin (c:=7) (S:=fun w'=> ∃x:Later W4.heap.size W4,w'= x.w) ye ?_;refine till_walk ye 6 0 _ _ ye ye ⟨⟨W4.drew,Lb.drew⟩,rfl⟩ ?_;simp only[List.drop_zero,List.take_succ_cons,List.take_zero];repeat(go_big_quiet_step (fail))
   refine wpQuiet_nil ?_;rintro w7 ⟨x1,rfl⟩;have hL1:=x1.h;clear q0 p0 p1 p2 p3 p4 p5;generalize x1.w=X1 at*;refine till_make (k:=6) (v:=.slice (some ⟨X1.heap.size,0,none⟩) 1 1) (w1:=X1.alloc (.cells #[int i64 mk,int i64 mn,.string ma,.string mb,.string mc,int i64 mi] 68)) yk rfl ye rfl yf ⟨⟨_,hL1.alloc zh _⟩,rfl⟩ yg ?_;have hE:=(Ld X1 (.cells #[int i64 mk,int i64 mn,.string ma,.string mb,.string mc,int i64 mi] 68)).1;have hK:=hL1.trans (((Below.refl X1.heap.size X1).alloc La (.cells #[int i64 mk,int i64 mn,.string ma,.string mb,.string mc,int i64 mi] 68)).mono hL1.size)
   generalize X1.alloc (.cells #[int i64 mk,int i64 mn,.string ma,.string mb,.string mc,int i64 mi] 68)=X2 at*;have K5:=U (K4.o.below hK);have HSc5:=U (HSc4.o.below hK);have f6:=F6'.o.below hK;have f7:=F7.o.below hK;obtain⟨i0,hi,hz0,hz1,hz2⟩:=info_parts info_nd;obtain⟨vp2,X3,hrun,hown,hgrow,-,hat⟩:=run_append_own_at (P:=prog) X2 W0.heap.size 24 24 68 i0 _ 6 72 underlying24 hi hz0 hz1 hz2 rfl yk (.slice ad s.plain.length cp) s.plain.length (ndRow s.plain) K5.o.st.prow ⟨X1.heap.size,0,none⟩ 1 1 [int i64 mk,int i64 mn,.string ma,.string mb,.string mc,int i64 mi] rfl (fun j u hu=>by
    match j,hu with
    |0,hu=>simp at hu;subst hu;exact z11 hE 0
    |1,hu=>simp at hu;subst hu;exact z11 hE 1
    |2,hu=>simp at hu;subst hu;exact z11 hE 2
    |3,hu=>simp at hu;subst hu;exact z11 hE 3
    |4,hu=>simp at hu;subst hu;exact z11 hE 4
    |5,hu=>simp at hu;subst hu;exact z11 hE 5) (fun u hu=>by
    simp at hu;rcases hu with rfl|rfl|rfl|rfl|rfl|rfl<;>rfl) (by have:=HRm.o.plain;unfold maxLen;omega) (by have:=HRm.o.plain;omega) K5.o.st.size
   have hnx:=nms_plain (m:=⟨mk,mn,ma,mb,mc,mi⟩) K5.o.st hown hgrow hat;refine till_cut (v:=vp2) (w1:=X3) rfl ye rfl (z45 (s:=.tmp 24) (x:=.tmp 26) (t:=24) rfl rfl rfl hrun) yg ?_;refine any_stage (fun _=>True) ?_;have hnbk:X3.heap[Nb]?=X2.heap[Nb]? :=hgrow.block Nb (z13 K5.o.st.blk) (fun e=>(K5.o.st.apart K5.o.st.blk).1 yk e.symm);have hb3:=hnbk.trans K5.o.st.blk;have d1:=z11 hb3 0;have w1:=z15 hb3 0;simp at d1;obtain⟨ad2,cp2,hv2⟩:=z46 hown;subst hv2;refine stage_make (k:=8) (v:=.pointer (some ⟨Nb,0,none⟩)) (w1:=X3) rfl ye rfl yf trivial yg ?_
   refine stage_make (k:=9) (v:=.pointer (some ⟨Nb,0,none⟩)) (w1:=X3) rfl ye rfl yf trivial yg ?_;refine stage_skip (k:=10) rfl (w1:=X3.setCell ⟨Nb,0,none⟩ (.slice ad2 (s.plain.length+1) cp2)) rfl ye rfl yo trivial ?_;refine stage_end ye ?_;have K7:=U (K5.o.step hnx.1 hnx.2.1 hnx.2.2 (Or.inl rfl));have HSc7:=U (HSc5.o.frame K5.o.st hnx.2.1);have g6:=f6.1.step hnx.2.1 hnx.2.2 (Or.inl rfl);have g7:=f7.1.step hnx.2.1 hnx.2.2 (Or.inl rfl);have HB6:=U (g6.2.trans (f6.2.trans HB6'.o));have HB7':= U (g7.2.trans (f7.2.trans HB7.o));have F6:=U g6.1;have F7':= U g7.1
   clear hnx hrun hown hgrow hat hE hK hi hz0 hz1 hz2 hnbk hb3 d1 w1 K5 HSc5 f6 f7 g6 g7 hL1 F6' F7 HB6' HB7 HSc4 K4 hNl hlt7;generalize X3.setCell ⟨Nb,0,none⟩ (.slice ad2 (s.plain.length+1) cp2)=W7 at*;have hK:=kidsOf (shape_now HS.o hNF K7.o.st) HF.o.ifaces;obtain⟨T',pv',g',rv',e1,hmth',hcf',hKd⟩:=hK
   cases e1;have HK:=U hKd;clear hKd;go_wp2_with fail
   refine HK.o.mono ?_;rintro e W8 ⟨sv,rfl,hsl,hb8⟩;have K8:=U (K7.o.below hb8);have HSc8:=U (HSc7.o.below hb8);have g6:=F6.o.below hb8;have g7:=F7'.o.below hb8;have HB6':= U (g6.2.trans HB6.o);have HB7:=U (g7.2.trans HB7'.o);have F6':= U g6.1;have F7:=U g7.1;have HW7:=U K7.o.st;have HTG:O (kidsW ⟨kd,num,a,b,c,kids⟩ ⟨mk,mn,ma,mb,mc,mi⟩ 0 k sc ⟨s.plain++ [⟨mk,mn,ma,mb,mc,mi⟩],s.free++lostZ ⟨kd,num,a,b,c,kids⟩ sc,s.made+makesZ kd⟩=TG):=by
    show _=_;rw[<-HTG0.o];unfold walkW stepW;rw[HMe.o]
   have HRm8:O (Room k.flat.length ⟨s.plain++ [⟨mk,mn,ma,mb,mc,mi⟩],s.free++lostZ ⟨kd,num,a,b,c,kids⟩ sc,s.made+makesZ kd⟩):=by
    have h1:=HRm.o.plain;have h2:=HRm.o.free;have h3:=HRm.o.made;have h4:=lostZ_len ⟨kd,num,a,b,c,kids⟩ sc;have h5:=makesZ_le kd;refine⟨?_,?_,?_⟩
    .simp only[Lk,Ll,Lm];omega
    .simp only[Lk];omega
    .dsimp only;omega
   generalize (⟨s.plain++ [⟨mk,mn,ma,mb,mc,mi⟩],s.free++lostZ ⟨kd,num,a,b,c,kids⟩ sc,s.made+makesZ kd⟩:Wst)=s8 at*;clear HK hmth' hcf' K7 HSc7 g6 g7 F6 F7' HB6 HB7' HNa HTG0;rcases hsl with ⟨rfl,ad8,c8,rfl⟩|⟨g0,o,cap,rfl,hg7,hg0,hc0⟩
   ·have hk:k=.none:=by
     have:=HLn.o
     cases k with
     |none=>rfl
     |tree=>simp[Fo.count]at this
    subst hk;have HT:=HTG.o;simp only[kidsW]at HT;subst HT;clear hb8;go_wp2_with fail
    refine wp_loop_rounds 1 ?_;rw[rounds_succ];go_wp2_with fail
    go_end0
    exact⟨⟨_,rfl⟩,_,_,K8.o.st,K8.o.fr,K8.o.mp,K8.o.mf⟩
   .have F0:=U (free_new HW7.o hg7 hg0);obtain⟨L,hL8⟩:∃L,us.length=L:=⟨_,rfl⟩
    have HC0:O (us.length=L/\ ∀j,j<us.length->W8.cell? ⟨g0,o+j,none⟩=us[j]?):=⟨hL8,hc0⟩
    rw[hL8];clear hc0 hL8 hb8 hg7 hg0 HW7;go_wp2_with fail
    go_loopw [33] (fun i wr=> ∃(i':Nat) (r:Fo) (rest:List Value) (s':Wst) (vp' vf':Value),i=int i64 i'/\O (Forms BF W0 r rest/\us.drop i'= rest/\i'+ r.count=L/\r.wf/\(∀m∈r.flat,Whole m)/\r.flat.length<=k.flat.length)/\O (Room r.flat.length s'/\kidsW ⟨kd,num,a,b,c,kids⟩ ⟨mk,mn,ma,mb,mc,mi⟩ i' r sc s'= TG)/\O (Wlk W0 Nb W (.slice ad s.plain.length cp) vf s' vp' vf' wr)/\O (ScoAt wr p sc)/\O (Free Nb b6 vp' vf' wr/\wr.heap[b6]?=W8.heap[b6]?)/\O (Free Nb b7 vp' vf' wr/\wr.heap[b7]?=W8.heap[b7]?)/\O (Free Nb g0 vp' vf' wr/\wr.heap[g0]?=W8.heap[g0]?)) (fun i _=>L-(intOf i).toNat)
    case atStart=>exact⟨0,k,us,s8,_,_,rfl,⟨HF.o,rfl,by rw[<-HC0.o.1,HLn.o];omega,HWf.o,fun m hm=>HWh.o m (List.mem_cons_of_mem _ hm),La⟩,⟨HRm8.o,HTG.o⟩,K8,HSc8,⟨F6'.o,rfl⟩,⟨F7.o,rfl⟩,⟨F0.o,rfl⟩⟩
    case round=>
     obtain⟨i',r,rest,s',vp',vf',rfl,HR,HRT,KR,HScR,G6,G7,G0⟩:=hrel
     cases r with
     | none=>
       obtain⟨-,-,h1,-⟩:=HR.o;simp only[Fo.count]at h1;have h1':i'= L:=ya;subst h1';have HT:=HRT.o.2;simp only[kidsW]at HT;subst HT;clear HR h1 HRT HTG;go_wp2_with fail
       go_end0
       exact⟨⟨_,rfl⟩,_,_,KR.o.st,KR.o.fr,KR.o.mp,KR.o.mf⟩
     | tree n' k' r'=>
       obtain⟨⟨v',us',rest',e1,hF1,hS1,hF2⟩,e2,h1,h2,h3,h4⟩:=HR.o;obtain⟨h2a,h2b,h2c⟩:=h2;simp only[Fo.count,Fo.flat,Ll,Lk]at h1 h4;rw[e1]at e2;have hi:(i':Int)<(L:Int):=ya;have hil:i'<us.length:=by rw[HC0.o.1];omega
       have hcell:wr.cell? ⟨g0,o+i',none⟩=some v':= by
        rw[Lj (a:=⟨g0,o+i',none⟩) G0.o.2,HC0.o.2 i' hil];rw[List.drop_eq_getElem_cons hil]at e2;rw[Lr hil,(List.cons.inj e2).1]
       have hdrop:us.drop (i'+ 1)=rest':= by
        rw[List.drop_eq_getElem_cons hil]at e2;exact(List.cons.inj e2).2
       obtain⟨T',p',rfl⟩:=hS1.iface;have Hsub:=U (Lc hF1 (Lc hS1 (Lc h2a h2b)));have Hrst:O (Forms BF W0 r' rest'/\us.drop (i'+ 1)=rest'/\i'+ 1+r'.count=L/\r'.wf/\(∀m∈r'.flat,Whole m)/\r'.flat.length<=k.flat.length):=⟨hF2,hdrop,ya,h2c,fun m hm=>h3 m (by simp only[Fo.flat,List.mem_cons,List.mem_append];exact Or.inr (Or.inr hm)),ya⟩
       have Hwh':O (∀m∈n':: k'.flat,Whole m):=fun m hm=>h3 m (by
        simp only[Fo.flat,List.mem_cons,List.mem_append];rcases List.mem_cons.1 hm with h|h
        .exact Or.inl h
        .exact Or.inr (Or.inl h))
       have Hle:O (k'.flat.length+1+r'.flat.length<=k.flat.length):=yp;have hx6:=G6.o.2.trans HB6'.o;have hx7:=G7.o.2.trans HB7.o;obtain⟨c0,c1,c2,c3,c4,c5⟩:=fcl6 hx7;have HKn:=U (known_calls ⟨mk,mn,ma,mb,mc,mi⟩ i' wr);unfold ndV at HKn;dsimp only at HKn;have HX6:=U hx6;clear HR hF1 hS1 hF2 e1 e2 h1 h2a h2b h2c h3 h4 hil hdrop hx6 hx7;have hi0:(0:Int)<=(i':Int):=ya;go_wp2_with fail
       refine HKn.o.mono ?_;rintro e W9 ⟨sv1,rfl,hsl1,hb9⟩;obtain⟨ad1,cc1,rfl,hn1⟩:=names_at hsl1;have HN1:=U hn1;have HX6':= U ((hb9.block _ (z13 HX6.o)).trans HX6.o);have HB9:=U hb9;obtain⟨c0,c1,c2,c3,c4,c5⟩:=fcl6 HX6'.o;have HKn2:=U (known_calls ⟨kd,num,a,b,c,kids⟩ i' W9);unfold ndV at HKn2;dsimp only at HKn2;clear hsl1 hn1 hb9 HKn HX6 hcell;go_wp2_with fail
       refine HKn2.o.mono ?_;rintro e W10 ⟨sv2,rfl,hsl2,hb10⟩;obtain⟨ad2',cc2,rfl,hn2⟩:=names_at hsl2;have HN2:=U hn2;have HN1':= U (HN1.o.below hb10);have HB10:=U (HB9.o.trans (hb10.mono HB9.o.size));have hsame:(knownZ ⟨kd,num,a,b,c,kids⟩ i').length=(knownZ ⟨mk,mn,ma,mb,mc,mi⟩ i').length:=knownZ_same (by
        have e:=renZ_kind ⟨kd,num,a,b,c,kids⟩ sc s.made;rw[HMe.o]at e;exact e.symm) i'
       have HOp:O (openS ⟨kd,num,a,b,c,kids⟩ ⟨mk,mn,ma,mb,mc,mi⟩ i' sc=((knownZ ⟨kd,num,a,b,c,kids⟩ i').zip (knownZ ⟨mk,mn,ma,mb,mc,mi⟩ i')).foldl (fun s p=>p::s) sc):=rfl;have HSm:=U hsame;have hl2:=knownZ_len ⟨kd,num,a,b,c,kids⟩ i';generalize hk1:knownZ ⟨kd,num,a,b,c,kids⟩ i'= xs at*;generalize hk2:knownZ ⟨mk,mn,ma,mb,mc,mi⟩ i'= ys at*;obtain⟨M,hM⟩:∃M,xs.length=M:=⟨_,rfl⟩
       have HMl:=U hM;rw[<-hsame,hM];clear hsl2 hn2 hb10 HKn2 c0 c1 c2 c3 c4 c5 HN1 HX6' hk1 hk2 hsame hM;have HSc10:=U (HScR.o.below HB10.o);have K10:=U (KR.o.below HB10.o);have G6':= U (G6.o.1.below HB10.o);have G7':= U (G7.o.1.below HB10.o);have G0':= U (G0.o.1.below HB10.o);have HG6:=U (G6'.o.2.trans G6.o.2);have HG7:=U (G7'.o.2.trans G7.o.2);have HG0:=U (G0'.o.2.trans G0.o.2);clear HScR KR G6 G7 G0 HB10 HB9;have hM2:M<=2:=by rw[<-HMl.o];exact hl2
       clear hl2;have H300':= U H300.o;go_wp2_with fail
       go_loopw [10,46] (fun pin j wj=> ∃(j':Nat) (q:Option Addr),pin=.pointer q/\j=int i64 j'/\O (j'<=M/\ScoAt wj q (((xs.zip ys).take j').foldl (fun s p=>p::s) sc))/\O (Below W10.heap.size W10 wj)) (fun _ j _=>M-(intOf j).toNat)
       case atStart=>exact⟨0,p,rfl,rfl,⟨Li _,by simpa using HSc10.o⟩,Lb⟩
       case round=>
        obtain⟨j',q,rfl,rfl,HJ,HBj⟩:=hrel;by_cases hjl:(j':Int)<(M:Int)
        .have hjx:j'<xs.length:=by rw[HMl.o];omega
         have hjy:j'<ys.length:=by rw[<-HSm.o];exact hjx
         obtain⟨g2,o2,ea2,hg2,hc2⟩:=HN2.o.resolve_left ya;obtain⟨g1,o1,ea1,hg1,hc1⟩:=HN1'.o.resolve_left ya;subst ea2;subst ea1;have q2:=(HBj.o.cell (p:=⟨g2,o2+j',none⟩) hg2).trans (hc2 j' hjx);have q1:=(HBj.o.cell (p:=⟨g1,o1+j',none⟩) hg1).trans (hc1 j' hjy);have HZ:=U (zip_take xs ys j' hjx HSm.o sc);have hjM:(j':Int)<((ys.length:Nat):Int):=ya;have hyM:ys.length=M:=by rw[<-HSm.o];exact HMl.o
         generalize xs.getD j' ⟨#[]⟩=x at*;generalize ys.getD j' ⟨#[]⟩=y at*;have hj0:(0:Int)<=(j':Int):=ya;clear hc2 hc1 hg2 hg1 hjM hyM hjx hjy;go_wp2_with fail
         refine(with_calls _ _ _ _).mono ?_;rintro e W11 ⟨rfl,rfl⟩;go_wp2_with fail
         refine⟨⟨j'+ 1,_,rfl,rfl,⟨ya,?_⟩,HBj.o.alloc HBj.o.size _⟩,lt_step' hjl⟩;rw[HZ.o];exact⟨_,q,rfl,(Ld _ _).1,HJ.o.2.below (Lb.alloc La _)⟩
        .have hjM:j'= M:=by have:=HJ.o.1;omega
         subst hjM;have HScj:O (ScoAt wr q (openS ⟨kd,num,a,b,c,kids⟩ ⟨mk,mn,ma,mb,mc,mi⟩ i' sc)):=by
          rw[HOp.o];have e:=HJ.o.2;rw[List.take_of_length_le (by rw[List.length_zip,HMl.o];omega)]at e;exact e
         obtain⟨sc',hsc'⟩:∃sc',openS ⟨kd,num,a,b,c,kids⟩ ⟨mk,mn,ma,mb,mc,mi⟩ i' sc=sc':= ⟨_,rfl⟩
         rw[hsc']at HScj;have HSO:=U hsc';have Kj:=U (K10.o.below HBj.o);have g6:=G6'.o.1.below HBj.o;have g7:=G7'.o.1.below HBj.o;have gg0:=G0'.o.1.below HBj.o;have HScp:=U (HSc10.o.below HBj.o);have hRm:=HRT.o.1;simp only[Fo.flat,Ll,Lk]at hRm;have hRm1:Room (k'.flat.length+1) s':= ⟨by have:=hRm.plain;omega,by have:=hRm.free;omega,by have:=hRm.made;omega⟩
         have hRm2:Room (1+k'.flat.length+r'.flat.length) s':= ⟨by have:=hRm.plain;omega,by have:=hRm.free;omega,by have:=hRm.made;omega⟩
         have HRm2:=U (walkW_room (n:=n') (sc:=sc') hRm2);have HCl:=U (HIH.o n' k' us' (.iface T' p') q sc' s' vp' vf' wr Hsub.o.1 Hsub.o.2.1 Hsub.o.2.2.1 Hsub.o.2.2.2 Hwh'.o (by have:=Hle.o;have:=HN.o;omega) (by have:=Hle.o;have:=H300'.o;omega) Kj.o.st hRm1 HScj.o);clear hsc' hRm hRm1 hRm2;go_wp2_with fail
         refine HCl.o.mono ?_;rintro e W12 ⟨⟨xx,rfl⟩,vp2,vf2,hn12,hf12,hp12,hq12⟩;have K12:=U (Kj.o.step hn12 hf12 hp12 hq12);have HSc12:=U (HScp.o.frame Kj.o.st hf12);have r6:=g6.1.step hf12 hp12 hq12;have r7:=g7.1.step hf12 hp12 hq12;have r0:=gg0.1.step hf12 hp12 hq12;have HE6:=U (r6.2.trans (g6.2.trans HG6.o));have HE7:=U (r7.2.trans (g7.2.trans HG7.o));have HE0:=U (r0.2.trans (gg0.2.trans HG0.o));have HR6:=U r6.1;have HR7:=U r7.1;have HR0:=U r0.1;have HTn:O (kidsW ⟨kd,num,a,b,c,kids⟩ ⟨mk,mn,ma,mb,mc,mi⟩ (i'+ 1) r' sc (walkW n' k' sc' s')=TG):=by
          have e:=HRT.o.2;simp only[kidsW]at e;rw[HSO.o]at e;exact e
         have hi9:i'<=1048576:=by have:=HC0.o.1;have:=HLn.o;have:=Fo.count_le k;have:=H300'.o;omega
         clear hn12 hf12 hp12 hq12 r6 r7 r0 g6 g7 gg0 HCl Kj HScp;go_wp2_with fail
         exact⟨⟨i'+ 1,r',rest',walkW n' k' sc' s',vp2,vf2,rfl,Hrst,⟨HRm2.o,HTn.o⟩,K12,HSc12,⟨HR6.o,HE6.o⟩,⟨HR7.o,HE7.o⟩,⟨HR0.o,HE0.o⟩⟩,lt_step' hi⟩
end
end Go.Proofs.YtbbffkiobmbkfaaGreatDoor
