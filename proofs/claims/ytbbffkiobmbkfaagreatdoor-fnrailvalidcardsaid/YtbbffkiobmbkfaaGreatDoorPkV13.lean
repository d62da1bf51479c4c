import Derived.Test.YtbbffkiobmbkfaaGreatDoorPkV12
open Go.Proofs.Tryz
open Go.Value Go.IntKind
set_option maxHeartbeats 8000000
set_option maxRecDepth 100000
namespace Go.Proofs.YtbbffkiobmbkfaaGreatDoor
open Go.RowKit Go.Deep
variable {s:Cs}{B:Nat}{W:World}
section
open Go.RowKit Go.Deep
def TRow (w':World) (sv:Value) (us:List Value):Prop:=(us= []/\ ∃a c,sv=.slice a 0 c)\/ ∃g,sv=.slice (some ⟨g,0,none⟩) us.length us.length/\w'.heap[g]?=some (.cells us.toArray 49)
def KidsPostT (us:List Value) (w:World) (e:Ending) (w':World):Prop:= ∃sv,e=.returned sv/\TRow w' sv us/\Below w.heap.size w w'
theorem row_newT (w:World) (o1:Obj) (us:List Value):TRow ((w.alloc o1).alloc (.cells us.toArray 49)) (.slice (some ⟨w.heap.size+1,0,none⟩) us.length us.length) us:=by
 have e:=(Ld (w.alloc o1) (.cells us.toArray 49)).1;have hs:(w.alloc o1).heap.size=w.heap.size+1:=yq;rw[hs]at e;exact Or.inr ⟨_,rfl,e⟩
theorem kidsT_leaf (w:World):Calls prog 201 #[.agg #[]] w (KidsPostT [] w):=by
 go_enter func201,ntmps201
 go_wp2_with fail
 go_ret;exact⟨_,rfl,Or.inl ⟨rfl,none,0,rfl⟩,Lb.alloc La _⟩
theorem kidsT_app (T0 T1:TypeId) (p0 p1:Value) (w:World):Calls prog 243 #[.agg #[.iface T0 p0,.iface T1 p1]] w (KidsPostT [.iface T0 p0,.iface T1 p1] w):=by
 go_enter func243,ntmps243
 go_wp2_with fail
 go_ret;exact⟨_,rfl,row_newT w _ [.iface T0 p0,.iface T1 p1],z33 w _ _⟩
theorem kidsT_sign (k:Int) (T0 T1:TypeId) (p0 p1:Value) (w:World):Calls prog 263 #[.agg #[int i64 k,.iface T0 p0,.iface T1 p1]] w (KidsPostT [.iface T0 p0,.iface T1 p1] w):=by
 go_enter func263,ntmps263
 go_wp2_with fail
 go_ret;exact⟨_,rfl,row_newT w _ [.iface T0 p0,.iface T1 p1],z33 w _ _⟩
theorem kidsT_pair (T0 T1:TypeId) (p0 p1:Value) (w:World):Calls prog 247 #[.agg #[.iface T0 p0,.iface T1 p1]] w (KidsPostT [.iface T0 p0,.iface T1 p1] w):=by
 go_enter func247,ntmps247
 go_wp2_with fail
 go_ret;exact⟨_,rfl,row_newT w _ [.iface T0 p0,.iface T1 p1],z33 w _ _⟩
theorem kidsT_take (k:Int) (T0:TypeId) (p0:Value) (w:World):Calls prog 251 #[.agg #[int i64 k,.iface T0 p0]] w (KidsPostT [.iface T0 p0] w):=by
 go_enter func251,ntmps251
 go_wp2_with fail
 go_ret;exact⟨_,rfl,row_newT w _ [.iface T0 p0],z33 w _ _⟩
theorem kidsT_cons (T0 T1:TypeId) (p0 p1:Value) (w:World):Calls prog 255 #[.agg #[.iface T0 p0,.iface T1 p1]] w (KidsPostT [.iface T0 p0,.iface T1 p1] w):=by
 go_enter func255,ntmps255
 go_wp2_with fail
 go_ret;exact⟨_,rfl,row_newT w _ [.iface T0 p0,.iface T1 p1],z33 w _ _⟩
theorem kidsT_perform (a:ByteArray) (T0:TypeId) (p0:Value) (w:World):Calls prog 259 #[.agg #[.string a,.iface T0 p0]] w (KidsPostT [.iface T0 p0] w):=by
 go_enter func259,ntmps259
 go_wp2_with fail
 go_ret;exact⟨_,rfl,row_newT w _ [.iface T0 p0],z33 w _ _⟩
def PlainV (n:Nd) (us:List Value) (v:Value):Prop:= ∃T pv,v=.iface T pv/\(T≠98/\T≠104/\T≠110/\T≠112/\T≠114/\T≠117/\T≠121)/\
 (∃g rv,(∀w,(method 424 T pv "loop.example/handrail/impl.kids").run prog w=.ok (g,rv) w)/\(∀args w,(callFunc g args).run prog w=.ok (.enter g args) w)/\ ∀w,Calls prog g #[rv] w (KidsPostT us w))/\ ∀w,NodeOf w v (plainZ n)
theorem plain_of {w:World}{n:Nd}{us:List Value}{v:Value}(h:Shape B w n us v) (hi:∀u∈us,∃T p,u=.iface T p) (h5:n.kind≠5) (h6:n.kind≠6) (h8:n.kind≠8) (h9:n.kind≠9) (h10:n.kind≠10) (h20:n.kind≠20) (h23:n.kind<23):PlainV n us v:=by
 cases h with
 |int=>exact⟨_,_,rfl,⟨yk,yk,yk,yk,yk,yk,yk⟩,⟨201,.agg #[],fun w=>ye,fun args w=>ye,kidsT_leaf⟩,fun w2=>nodeOf (B:=0) (w:=w2) .int hi⟩
 |bool=>exact⟨_,_,rfl,⟨yk,yk,yk,yk,yk,yk,yk⟩,⟨201,.agg #[],fun w=>ye,fun args w=>ye,kidsT_leaf⟩,fun w2=>nodeOf (B:=0) (w:=w2) .bool hi⟩
 |unit=>exact⟨_,_,rfl,⟨yk,yk,yk,yk,yk,yk,yk⟩,⟨201,.agg #[],fun w=>ye,fun args w=>ye,kidsT_leaf⟩,fun w2=>nodeOf (B:=0) (w:=w2) .unit hi⟩
 |nil=>exact⟨_,_,rfl,⟨yk,yk,yk,yk,yk,yk,yk⟩,⟨201,.agg #[],fun w=>ye,fun args w=>ye,kidsT_leaf⟩,fun w2=>nodeOf (B:=0) (w:=w2) .nil hi⟩
 | app=>
   obtain⟨T0,p0,rfl⟩:=hi _ (Lh (i:=0) rfl);obtain⟨T1,p1,rfl⟩:=hi _ (Lh (i:=1) rfl);exact⟨_,_,rfl,⟨yk,yk,yk,yk,yk,yk,yk⟩,⟨243,.agg #[.iface T0 p0,.iface T1 p1],fun w=>ye,fun args w=>ye,fun w=>kidsT_app _ _ _ _ w⟩,fun w2=>nodeOf (B:=0) (w:=w2) .app hi⟩
 | @sign kq _ _ _ _ _ _ _ hk=>
   obtain⟨T0,p0,rfl⟩:=hi _ (Lh (i:=0) rfl);obtain⟨T1,p1,rfl⟩:=hi _ (Lh (i:=1) rfl);exact⟨_,_,rfl,⟨yk,yk,yk,yk,yk,yk,yk⟩,⟨263,.agg #[int i64 kq,.iface T0 p0,.iface T1 p1],fun w=>ye,fun args w=>ye,fun w=>kidsT_sign _ _ _ _ _ w⟩,fun w2=>nodeOf (B:=0) (w:=w2) (.sign hk) hi⟩
 | pair=>
   obtain⟨T0,p0,rfl⟩:=hi _ (Lh (i:=0) rfl);obtain⟨T1,p1,rfl⟩:=hi _ (Lh (i:=1) rfl);exact⟨_,_,rfl,⟨yk,yk,yk,yk,yk,yk,yk⟩,⟨247,.agg #[.iface T0 p0,.iface T1 p1],fun w=>ye,fun args w=>ye,fun w=>kidsT_pair _ _ _ _ w⟩,fun w2=>nodeOf (B:=0) (w:=w2) .pair hi⟩
 | @take kq _ _ _ _ _ _ hk=>
   obtain⟨T0,p0,rfl⟩:=hi _ (Lh (i:=0) rfl);exact⟨_,_,rfl,⟨yk,yk,yk,yk,yk,yk,yk⟩,⟨251,.agg #[int i64 kq,.iface T0 p0],fun w=>ye,fun args w=>ye,fun w=>kidsT_take _ _ _ w⟩,fun w2=>nodeOf (B:=0) (w:=w2) (.take hk) hi⟩
 | cons=>
   obtain⟨T0,p0,rfl⟩:=hi _ (Lh (i:=0) rfl);obtain⟨T1,p1,rfl⟩:=hi _ (Lh (i:=1) rfl);exact⟨_,_,rfl,⟨yk,yk,yk,yk,yk,yk,yk⟩,⟨255,.agg #[.iface T0 p0,.iface T1 p1],fun w=>ye,fun args w=>ye,fun w=>kidsT_cons _ _ _ _ w⟩,fun w2=>nodeOf (B:=0) (w:=w2) .cons hi⟩
 | @perform _ aq _ _ _ _=>
   obtain⟨T0,p0,rfl⟩:=hi _ (Lh (i:=0) rfl);exact⟨_,_,rfl,⟨yk,yk,yk,yk,yk,yk,yk⟩,⟨259,.agg #[.string aq,.iface T0 p0],fun w=>ye,fun args w=>ye,fun w=>kidsT_perform _ _ _ w⟩,fun w2=>nodeOf (B:=0) (w:=w2) .perform hi⟩
 |var=>exact absurd rfl h5
 |fn=>exact absurd rfl h6
 |bind=>exact absurd rfl h8
 |recur=>exact absurd rfl h9
 |cond=>exact absurd rfl h10
 |case=>exact absurd rfl h20
 |handler hk=>exfalso;dsimp only at h23;omega
 |ret=>exfalso;dsimp only at h23;omega
 |op=>exfalso;dsimp only at h23;omega
theorem closureP_calls (a s:ByteArray) (x y:Int) (P:Nat) (w:World) (hP:w.cell? ⟨P,0,none⟩=some (.string s)) (hlt:P<w.heap.size) :
 Calls prog 169 #[.agg #[.string a,int i64 x,int i64 y],.pointer (some ⟨P,0,none⟩)] w fun e w'=> e=.returned (.bool (a.toList==s.toList))/\Below w.heap.size w w':= by
 go_enter func169,ntmps169
 go_wp2_with fail
 go_ret;exact⟨rfl,Lb.alloc La _⟩
theorem indexP_calls (a0:Option Addr) (cap P:Nat) (es:List Ef) (s:ByteArray) (w:World) (hP:w.cell? ⟨P,0,none⟩=some (.string s)) (hPl:P<w.heap.size) (hm:es.length<=1000000) (hn:es≠ []-> ∃b off,a0=some ⟨b,off,none⟩/\b<w.heap.size/\EffsAt w b off es) :
 Calls prog 131 #[.slice a0 es.length cap,.func (.func 169) #[] #[.pointer (some ⟨P,0,none⟩)]] w fun e w'=> e=.returned (int i64 (effPlace es s 0))/\Below w.heap.size w w':= by
 refine zb20 ?_;intro len Hlen HM R HR HN HP;clear hm hn hP hPl;go_enter func131,ntmps131
 go_wp2_with fail
 go_loopw [8] (fun i wr=> ∃k:Nat,i=int i64 k/\k<=len/\O (effPlace (es.drop k) s k=R)/\Below w.heap.size w wr) (fun i _=>len-(intOf i).toNat)
 case atStart=>exact⟨0,rfl,Li _,HR.o,Lb⟩
 case round=>
  obtain⟨k,rfl,hle,HT,hbx⟩:=hrel;by_cases hlt:(k:Int)<(len:Int)
  .have hil:k<es.length:=by rw[Hlen.o];omega
   obtain⟨b,off,rfl,hbw,hE0⟩:=HN.o (fun h=>jr);have hE:=hE0.below hbx hbw;have c0:=hE k hil 0 ya;have c1:=hE k hil 1 ya;have c2:=hE k hil 2 ya;have hT:=HT.o;rw[effs_drop hil]at hT;obtain⟨n,hnd⟩:∃n,es.getD k default=n:=⟨_,rfl⟩
   rw[hnd]at c0 c1 c2 hT;simp only[Ef.cell,Nat.add_zero]at c0 c1 c2;have HC:O (∀a x y,_):=fun a x y=>closureP_calls a s x y P wr ((hbx.cell (p:=⟨P,0,none⟩) HP.o.2).trans HP.o.1) (Le HP.o.2 hbx.size)
   have HT1:O (effPlace (n::es.drop (k+1)) s k=R):=hT;clear HT HN hil hE hE0 hnd hT;go_wp2_with fail
   refine(HC.o _ _ _).mono ?_;rintro e w2 ⟨rfl,hb2⟩;have hb3:=hbx.trans (hb2.mono hbx.size);clear c0 c1 c2 HC hb2
   cases he:(n.name.toList==s.toList) with
   | true=>
     have HT2:O ((k:Int)=R):=by
      show _=_;rw[<-HT1.o,effPlace,he];simp
     clear HT1;go_wp2_with fail
     go_ret;exact⟨js,hb3⟩
   | false=>
     have HT2:O (effPlace (es.drop (k+1)) s (k+1)=R):=by
      show _=_;rw[<-HT1.o,effPlace,he];simp
     clear HT1;refine zb83 ?_;intro hs;exact⟨⟨k+1,rfl,ya,HT2,hb3⟩,hs⟩
  .have hT:=HT.o;rw[List.drop_eq_nil_of_le jt]at hT;have HT2:O ((-1:Int)=R):=hT;clear hT HT HN;go_wp2_with fail
   go_ret;exact⟨js,hbx⟩
structure Ex (W0:World) (Mb:Nat) (ae:Option Addr) (es:List Ef):Prop where
 few:es.length<=1000
 lie:es≠ []-> ∃b off,ae=some ⟨b,off,none⟩/\b<W0.heap.size/\b≠Mb/\EffsAt W0 b off es
theorem ex_effs {W0:World}{Mb:Nat}{ae:Option Addr}{es:List Ef}(h:Ex W0 Mb ae es) {ve:Value}(m:KmE B W0 Mb ve s W):es≠ []-> ∃b off,ae=some ⟨b,off,none⟩/\b<W.heap.size/\EffsAt W b off es:=fun hne=>by
 obtain⟨ls,vo,vl,m⟩:=m;obtain⟨b,off,e,hb,hn,hE⟩:=h.lie hne;exact⟨b,off,e,Le hb m.size,fun k hk c hc=>(Lj (a:=⟨b,off+k*3+c,none⟩) (m.kept b hb hn)).trans (hE k hk c hc)⟩
theorem opPlace_calls (a0:Option Addr) (cap:Nat) (es:List Ef) (s:ByteArray) (w:World) (hm:es.length<=1000000) (hn:es≠ []-> ∃b off,a0=some ⟨b,off,none⟩/\b<w.heap.size/\EffsAt w b off es) :
 Calls prog 146 #[.slice a0 es.length cap,.string s] w fun e w'=> e=.returned (int i64 (effPlace es s 0))/\Below w.heap.size w w':= by
 have HW:O (w.heap.size<(w.alloc (.cells #[.string s] 9)).heap.size/\Below w.heap.size w (w.alloc (.cells #[.string s] 9))):=⟨yq,Lb.alloc La _⟩
 have HX:O (Calls _ _ _ _ _):=indexP_calls a0 cap w.heap.size es s (w.alloc (.cells #[.string s] 9)) yf HW.o.1 hm (fun h=>by
  obtain⟨b,off,e,hb,hE⟩:=hn h;exact⟨b,off,e,Nat.lt_trans hb HW.o.1,hE.below HW.o.2 hb⟩)
 obtain⟨R,hR⟩:∃R,effPlace es s 0=R:=⟨_,rfl⟩
 rw[hR]at HX |-;clear hm hn hR;go_enter func146,ntmps146
 go_wp2_with fail
 refine HX.o.mono ?_;rintro e w2 ⟨rfl,hb⟩;have HB:=U (HW.o.2.trans (hb.mono HW.o.2.size));clear hb HX;go_wp2_with fail
 go_ret;exact⟨rfl,HB.o⟩
def pinZ (es:List Ef) (n:Nd):In:=if n.kind=1 then ⟨1,n.num,0,0⟩ else if n.kind=2 then ⟨2,n.num,0,0⟩ else if n.kind=3 then ⟨3,0,0,0⟩ else if n.kind=4 then ⟨4,0,0,0⟩ else lastZ es n
def insV (i:In):Value:=.agg #[int i64 i.op,int i64 i.a,int i64 i.b,int i64 i.c]
def PlainP (W:World) (i:In) (e:Ending) (W':World):Prop:=e=.returned (insV i)/\Below W.heap.size W W'
theorem plainIns_calls {W0:World}{Mb:Nat}{ae:Option Addr}{ce:Nat}{es:List Ef}(ex:Ex W0 Mb ae es) (h:KmE B W0 Mb (.slice ae es.length ce) s W) (n:Nd) :
 Calls prog 104 #[.pointer (some ⟨Mb,0,none⟩),.agg #[int i64 n.kind,int i64 n.num,.string n.a,.string n.b,.string n.c,int i64 n.kids]] W (PlainP W (pinZ es n)):=by
 obtain⟨kd,num,a,bb,cc,kids⟩:=n;obtain⟨Y1,hY1⟩:∃Y,(W.alloc (.cells #[int i64 kd,int i64 num,.string a,.string bb,.string cc,int i64 kids] 68)).alloc (.cells #[int i64 0,int i64 0,int i64 0,int i64 0] 53)=Y:=⟨_,rfl⟩
 have hb:=z33 W (.cells #[int i64 kd,int i64 num,.string a,.string bb,.string cc,int i64 kids] 68) (.cells #[int i64 0,int i64 0,int i64 0,int i64 0] 53);rw[hY1]at hb;have HPf:=U (fun(X:World) (hx:Below Y1.heap.size Y1 X)=>opPlace_calls ae ce es a X (by have:=ex.few;omega) (fun hne=>ex_effs ex ((h.below hb).below hx) hne));obtain⟨PL,hPL⟩:∃x,effPlace es a 0=x:=⟨_,rfl⟩
 rw[hPL]at HPf;obtain⟨Z,hZ⟩:∃Z,pinZ es ⟨kd,num,a,bb,cc,kids⟩=Z:=⟨_,rfl⟩
 rw[hZ];unfold pinZ lastZ at hZ;dsimp only at hZ |-;rw[hPL]at hZ;have HZ:=U hZ;have hd:W.cell? ⟨Mb,0,none⟩=some (.slice ae es.length ce):=by
  obtain⟨ls,vo,vl,h⟩:=h;exact z11 h.blk 0
 have hMb:Mb<W.heap.size:=by
  obtain⟨ls,vo,vl,h⟩:=h;exact z13 h.blk
 have HY:=U hY1;have HMb:=U hMb;have HHb:=U hb;have g0:Y1.heap[W.heap.size]?=some (.cells #[int i64 kd,int i64 num,.string a,.string bb,.string cc,int i64 kids] 68):=by rw[<-hY1];exact((Lb.alloc La _).block W.heap.size yq).trans (Ld W _).1
 have g1:Y1.heap[W.heap.size+1]?=some (.cells #[int i64 0,int i64 0,int i64 0,int i64 0] 53):=by
  have e:=(Ld (W.alloc (.cells #[int i64 kd,int i64 num,.string a,.string bb,.string cc,int i64 kids] 68)) (.cells #[int i64 0,int i64 0,int i64 0,int i64 0] 53)).1;rw[show(W.alloc (.cells #[int i64 kd,int i64 num,.string a,.string bb,.string cc,int i64 kids] 68)).heap.size=W.heap.size+1 by simp,hY1]at e;exact e
 have HG:=U (Lc g0 g1);clear hZ ex h hPL g0 g1;go_enter func104,ntmps104
 by_cases k1:kd=1
 ·have HE:O (⟨1,num,0,0⟩=Z):=by
   show _=_;rw[<-HZ.o];simp[k1]
  subst k1;clear HZ HPf hY1 hb HY HHb HG;go_wp2_with fail
  refine bodyPost_ret (v:=insV ⟨1,num,0,0⟩) wa rfl ?_;exact⟨wb,by repeat(first|exact Lb|exact z33 _ _ _|refine Below.setCell ?_ jb _)⟩
 have b1:(kd==1)=false:=by simp[k1]
 by_cases k2:kd=2
 ·have HE:O (⟨2,num,0,0⟩=Z):=by
   show _=_;rw[<-HZ.o];simp[k2]
  subst k2;clear HZ HPf hY1 hb HY HHb HG;go_wp2_with fail
  refine bodyPost_ret (v:=insV ⟨2,num,0,0⟩) wa rfl ?_;exact⟨wb,by repeat(first|exact Lb|exact z33 _ _ _|refine Below.setCell ?_ jb _)⟩
 have b2:(kd==2)=false:=by simp[k2]
 by_cases k3:kd=3
 ·have HE:O (⟨3,0,0,0⟩=Z):=by
   show _=_;rw[<-HZ.o];simp[k3]
  subst k3;clear HZ HPf hY1 hb HY HHb HG;go_wp2_with fail
  refine bodyPost_ret (v:=insV ⟨3,0,0,0⟩) wa rfl ?_;exact⟨wb,by repeat(first|exact Lb|exact z33 _ _ _|refine Below.setCell ?_ jb _)⟩
 have b3:(kd==3)=false:=by simp[k3]
 by_cases k4:kd=4
 ·have HE:O (⟨4,0,0,0⟩=Z):=by
   show _=_;rw[<-HZ.o];simp[k4]
  subst k4;clear HZ HPf hY1 hb HY HHb HG;go_wp2_with fail
  refine bodyPost_ret (v:=insV ⟨4,0,0,0⟩) wa rfl ?_;exact⟨wb,by repeat(first|exact Lb|exact z33 _ _ _|refine Below.setCell ?_ jb _)⟩
 have b4:(kd==4)=false:=by simp[k4]
 by_cases k7:kd=7
 ·have HE:O (⟨8,0,0,0⟩=Z):=by
   show _=_;rw[<-HZ.o];simp[k7]
  subst k7;clear HZ HPf hY1 hb HY HHb HG;go_wp2_with fail
  refine bodyPost_ret (v:=insV ⟨8,0,0,0⟩) wa rfl ?_;exact⟨wb,by repeat(first|exact Lb|exact z33 _ _ _|refine Below.setCell ?_ jb _)⟩
 have b7:(kd==7)=false:=by simp[k7]
 by_cases k16:kd=16
 ·have HE:O (⟨15,0,0,0⟩=Z):=by
   show _=_;rw[<-HZ.o];simp[k16]
  subst k16;clear HZ HPf hY1 hb HY HHb HG;go_wp2_with fail
  refine bodyPost_ret (v:=insV ⟨15,0,0,0⟩) wa rfl ?_;exact⟨wb,by repeat(first|exact Lb|exact z33 _ _ _|refine Below.setCell ?_ jb _)⟩
 have b16:(kd==16)=false:=by simp[k16]
 by_cases k17:kd=17
 ·have HE:O (⟨16,0,0,0⟩=Z):=by
   show _=_;rw[<-HZ.o];simp[k17]
  subst k17;clear HZ HPf hY1 hb HY HHb HG;go_wp2_with fail
  refine bodyPost_ret (v:=insV ⟨16,0,0,0⟩) wa rfl ?_;exact⟨wb,by repeat(first|exact Lb|exact z33 _ _ _|refine Below.setCell ?_ jb _)⟩
 have b17:(kd==17)=false:=by simp[k17]
 by_cases k18:kd=18
 ·have HE:O (⟨17,0,0,0⟩=Z):=by
   show _=_;rw[<-HZ.o];simp[k18]
  subst k18;clear HZ HPf hY1 hb HY HHb HG;go_wp2_with fail
  refine bodyPost_ret (v:=insV ⟨17,0,0,0⟩) wa rfl ?_;exact⟨wb,by repeat(first|exact Lb|exact z33 _ _ _|refine Below.setCell ?_ jb _)⟩
 have b18:(kd==18)=false:=by simp[k18]
 by_cases k19:kd=19
 ·have HE:O (⟨18,0,0,0⟩=Z):=by
   show _=_;rw[<-HZ.o];simp[k19]
  subst k19;clear HZ HPf hY1 hb HY HHb HG;go_wp2_with fail
  refine bodyPost_ret (v:=insV ⟨18,0,0,0⟩) wa rfl ?_;exact⟨wb,by repeat(first|exact Lb|exact z33 _ _ _|refine Below.setCell ?_ jb _)⟩
 have b19:(kd==19)=false:=by simp[k19]
 by_cases k21:kd=21
 ·have HE:O (⟨20,0,0,0⟩=Z):=by
   show _=_;rw[<-HZ.o];simp[k21]
  subst k21;clear HZ HPf hY1 hb HY HHb HG;go_wp2_with fail
  refine bodyPost_ret (v:=insV ⟨20,0,0,0⟩) wa rfl ?_;exact⟨wb,by repeat(first|exact Lb|exact z33 _ _ _|refine Below.setCell ?_ jb _)⟩
 have b21:(kd==21)=false:=by simp[k21]
 by_cases k22:kd=22
 ·have HE:O (⟨22,PL,0,0⟩=Z):=by
   show _=_;rw[<-HZ.o];simp[k22]
  subst k22;have e0:=z11 HG.o.1 0;have e2:=z11 HG.o.1 2;have eM:=(hb.cell (p:=⟨Mb,0,none⟩) hMb).trans hd;simp at e0 e2;clear HZ hY1 hb hd hMb;go_upto_region 1 with fail
  rw[HY.o];clear HY;go_upto_region 23 with fail
  clear e0 e2;have hbd:Below Y1.heap.size Y1 Y1.drew:=Lb.drew;have HGd:=U (show Y1.drew.heap[W.heap.size]?=_/\Y1.drew.heap[W.heap.size+1]?=_ from HG.o);have HBd:=U (HHb.o.trans (hbd.mono HHb.o.size));have hS:Y1.drew.cell? ⟨Mb,0,none⟩=some (.slice ae es.length ce)/\Y1.drew.cell? ⟨W.heap.size,2,none⟩=some (.string a):=⟨eM,by have:=z11 HGd.o.1 2;simpa using this⟩
  have HPd:=U (HPf.o Y1.drew hbd);refine z31 (S:=fun w=>w.cell? ⟨Mb,0,none⟩=some (.slice ae es.length ce)/\w.cell? ⟨W.heap.size,2,none⟩=some (.string a)) (n:=9) (ls:= #[false,false,false,false,false,false,false,false,false]) ye rfl ye ?_;clear hbd eM HG HHb HPf;generalize Y1.drew=X1 at*;refine pick_o 0 (.pointer (some ⟨Mb,0,none⟩)) hS ?_;refine pick_o 1 (.pointer (some ⟨Mb,0,none⟩)) hS ?_;refine pick_o 2 (.pointer (some ⟨Mb,0,none⟩)) hS ?_;refine pick_o (hy:=fun w' hw=>yc) 3 (.slice ae es.length ce) hS ?_;refine pick_o 4 (.pointer (some ⟨W.heap.size,2,none⟩)) hS ?_
  refine pick_o (hy:=fun w' hw=>xj) 5 (.string a) hS ?_;refine z26 (i:=6) (f:=146) (args:= #[.slice ae es.length ce,.string a]) rfl ye rfl rfl yf ?_;refine HPd.o.mono ?_;rintro e X2 ⟨rfl,hb2⟩;have hlM:Mb<X1.heap.size:=Le HMb.o HBd.o.size;have hS2:X2.cell? ⟨Mb,0,none⟩=some (.slice ae es.length ce)/\X2.cell? ⟨W.heap.size,2,none⟩=some (.string a):=⟨(hb2.cell (p:=⟨Mb,0,none⟩) hlM).trans hS.1,(hb2.cell (p:=⟨W.heap.size,2,none⟩) (z13 HGd.o.1)).trans hS.2⟩
  have hg:=(hb2.block _ (z13 HGd.o.2)).trans HGd.o.2;have HB2:=U (HBd.o.trans (hb2.mono HBd.o.size));clear hb2 hS HPd HBd HGd hlM;refine⟨_,rfl,hS2,?_⟩;refine z25 yg ?_;refine pick_o 7 (.agg #[int i64 22,int i64 PL,int i64 0,int i64 0]) hS2 ?_;have q0:=z11 hg 0;have q1:=z11 hg 1;have q2:=z11 hg 2;have q3:=z11 hg 3;have z0:=z15 hg 0;have z1:=z15 hg 1;have z2:=z15 hg 2;have z3:=z15 hg 3;simp at q0 q1 q2 q3;obtain⟨q,hq⟩:∃q,W.heap.size+1=q:=⟨_,rfl⟩
  rw[hq]at hg q0 q1 q2 q3 z0 z1 z2 z3 |-;obtain⟨Z2,hZ2⟩:∃Z,(((X2.setCell ⟨q,0,none⟩ (int i64 22)).setCell ⟨q,1,none⟩ (int i64 PL)).setCell ⟨q,2,none⟩ (int i64 0)).setCell ⟨q,3,none⟩ (int i64 0)=Z:=⟨_,rfl⟩
  have ho:∀k,k≠q->Z2.heap[k]?=X2.heap[k]? :=fun k hne=>by
   rw[<-hZ2,Lg _ ⟨q,3,none⟩ _ k hne,Lg _ ⟨q,2,none⟩ _ k hne,Lg _ ⟨q,1,none⟩ _ k hne,Lg _ ⟨q,0,none⟩ _ k hne]
  have hgz:Z2.heap[q]?=some (.cells #[int i64 22,int i64 PL,int i64 0,int i64 0] 53):=by
   rw[<-hZ2];simp[World.setCell,Array.getElem?_modify,hg]
  have hbz:Below W.heap.size W Z2:=by
   have h9:=HB2.o;refine⟨by rw[<-hZ2];exact h9.os,by rw[<-hZ2];exact h9.tape,by rw[<-hZ2];exact h9.output,by rw[<-hZ2];simp[World.setCell];exact h9.size,fun k hk=>(ho k ya).trans (h9.block k hk)⟩
  have hS3:Z2.cell? ⟨Mb,0,none⟩=some (.slice ae es.length ce)/\Z2.cell? ⟨W.heap.size,2,none⟩=some (.string a):=⟨(Lj (a:=⟨Mb,0,none⟩) (ho Mb (by have:=HMb.o;omega))).trans hS2.1,(Lj (a:=⟨W.heap.size,2,none⟩) (ho W.heap.size ya)).trans hS2.2⟩
  have HZ2:=U hZ2;refine z38 (i:=8) (w1:=Z2) rfl rfl ye rfl rfl (by rw[<-HZ2.o];simp[go_sem,q0,q1,q2,q3,z0,z1,z2,z3]) hS3 ?_;refine z37 ye ?_;have r0:=z11 hgz 0;have r1:=z11 hgz 1;have r2:=z11 hgz 2;have r3:=z11 hgz 3;simp at r0 r1 r2 r3;have HBz:=U hbz;clear q0 q1 q2 q3 z0 z1 z2 z3 hg hgz hbz ho hZ2 HZ2 hS2 hS3 HB2 hq;go_wp2_with fail
  refine bodyPost_ret (v:=insV ⟨22,PL,0,0⟩) (by simp[results,results104,go_sem,insV,r0,r1,r2,r3]) rfl ?_;exact⟨wb,HBz.o⟩
 .have b22:(kd==22)=false:=by simp[k22]
  have HE:O (⟨14,kd,0,0⟩=Z):=by
   show _=_;rw[<-HZ.o];simp[k1,k2,k3,k4,k7,k16,k17,k18,k19,k21,k22]
  clear HZ HPf hY1 hb HY HHb HG;go_wp2_with fail
  refine bodyPost_ret (v:=insV ⟨14,kd,0,0⟩) wa rfl ?_;exact⟨wb,by repeat(first|exact Lb|exact z33 _ _ _|refine Below.setCell ?_ jb _)⟩
section
variable {W0:World}{Mb:Nat}{ae:Option Addr}{ce b off cap:Nat}{es:List Ef}{ns:List Nd}
theorem last_calls (cx:Cx W0 Mb ae b off es ns) (n:Nd) (hB:s.o.length<=950000) (h:CmE W0 Mb (.slice ae es.length ce) (.slice (some ⟨b,off,none⟩) ns.length cap) s W) :
 Calls prog 61 #[.pointer (some ⟨Mb,0,none⟩),.agg #[int i64 n.kind,int i64 n.num,.string n.a,.string n.b,.string n.c,int i64 n.kids]] W (LeadPost W0 Mb (.slice ae es.length ce) (.slice (some ⟨b,off,none⟩) ns.length cap) (s.put (lastZ es n)) W):=by
 obtain⟨kd,num,a,bb,cc,kids⟩:=n;dsimp only;have hA:=(Ld W (.cells #[int i64 kd,int i64 num,.string a,.string bb,.string cc,int i64 kids] 68)).1;have hB1:=(Below.refl W.heap.size W).alloc La (.cells #[int i64 kd,int i64 num,.string a,.string bb,.string cc,int i64 kids] 68);obtain⟨Y,hY⟩:∃Y,W.alloc (.cells #[int i64 kd,int i64 num,.string a,.string bb,.string cc,int i64 kids] 68)=Y:=⟨_,rfl⟩
 rw[hY]at hA hB1;have HY:=U hY;have HA:=U hA;have S0:=U (h.below hB1);have F0:=U (Cf.of_below hB1);have HX:=U cx;have HB:=U hB;have e0:=z11 HA.o 0;have e2:=z11 HA.o 2;simp at e0 e2;have d0:=S0.o.effs;obtain⟨LZ,hLZ⟩:∃LZ,lastZ es ⟨kd,num,a,bb,cc,kids⟩=LZ:=⟨_,rfl⟩
 rw[hLZ];unfold lastZ at hLZ;dsimp only at hLZ;clear hA hB1 hY h cx hB;go_enter func61,ntmps61
 go_upto_region 1 with fail
 rw[HY.o];clear HY;by_cases k7:kd=7
 .rw[if_pos k7]at hLZ;subst hLZ;subst k7;go_wp2_with fail
  refine(z53 ⟨8,0,0,0⟩ S0.o uw).mono ?_;refine zb34 ?_;intro X1 n1 S1 G1;go_end0
  exact⟨⟨_,rfl⟩,S1.o,F0.o.trans G1.o⟩
 rw[if_neg k7]at hLZ;have z7:(kd==7)=false:=by simp[k7]
 by_cases k16:kd=16
 .rw[if_pos k16]at hLZ;subst hLZ;subst k16;go_wp2_with fail
  refine(z53 ⟨15,0,0,0⟩ S0.o uw).mono ?_;refine zb34 ?_;intro X1 n1 S1 G1;go_end0
  exact⟨⟨_,rfl⟩,S1.o,F0.o.trans G1.o⟩
 rw[if_neg k16]at hLZ;have z16:(kd==16)=false:=by simp[k16]
 by_cases k17:kd=17
 .rw[if_pos k17]at hLZ;subst hLZ;subst k17;go_wp2_with fail
  refine(z53 ⟨16,0,0,0⟩ S0.o uw).mono ?_;refine zb34 ?_;intro X1 n1 S1 G1;go_end0
  exact⟨⟨_,rfl⟩,S1.o,F0.o.trans G1.o⟩
 rw[if_neg k17]at hLZ;have z17:(kd==17)=false:=by simp[k17]
 by_cases k18:kd=18
 .rw[if_pos k18]at hLZ;subst hLZ;subst k18;go_wp2_with fail
  refine(z53 ⟨17,0,0,0⟩ S0.o uw).mono ?_;refine zb34 ?_;intro X1 n1 S1 G1;go_end0
  exact⟨⟨_,rfl⟩,S1.o,F0.o.trans G1.o⟩
 rw[if_neg k18]at hLZ;have z18:(kd==18)=false:=by simp[k18]
 by_cases k19:kd=19
 .rw[if_pos k19]at hLZ;subst hLZ;subst k19;go_wp2_with fail
  refine(z53 ⟨18,0,0,0⟩ S0.o uw).mono ?_;refine zb34 ?_;intro X1 n1 S1 G1;go_end0
  exact⟨⟨_,rfl⟩,S1.o,F0.o.trans G1.o⟩
 rw[if_neg k19]at hLZ;have z19:(kd==19)=false:=by simp[k19]
 by_cases k21:kd=21
 .rw[if_pos k21]at hLZ;subst hLZ;subst k21;go_wp2_with fail
  refine(z53 ⟨20,0,0,0⟩ S0.o uw).mono ?_;refine zb34 ?_;intro X1 n1 S1 G1;go_end0
  exact⟨⟨_,rfl⟩,S1.o,F0.o.trans G1.o⟩
 rw[if_neg k21]at hLZ;have z21:(kd==21)=false:=by simp[k21]
 by_cases k22:kd=22
 .rw[if_pos k22]at hLZ;subst hLZ;subst k22;go_upto_region 16 with fail
  have hD:Below Y.heap.size Y Y.drew:=Lb.drew;obtain⟨D,hDe⟩:∃D,Y.drew=D:=⟨_,rfl⟩
  rw[hDe]at hD;have S1:=U (S0.o.below hD);have G1:=U (Cf.of_below hD);have hS:(fun w':World=>w'.cell? ⟨Mb,0,none⟩=some (.slice ae es.length ce)/\w'.cell? ⟨W.heap.size,2,none⟩=some (.string a)) D:=⟨S1.o.effs,by rw[<-hDe];exact e2⟩
  refine z31 (S:=fun w'=> w'.cell? ⟨Mb,0,none⟩=some (.slice ae es.length ce)/\w'.cell? ⟨W.heap.size,2,none⟩=some (.string a)) ye rfl rfl ?_;rw[hDe];clear hDe hD e0 e2 d0;refine pick_o 0 (.pointer (some ⟨Mb,0,none⟩)) hS ?_;refine pick_o 1 (.pointer (some ⟨Mb,0,none⟩)) hS ?_;refine pick_o 2 (.pointer (some ⟨Mb,0,none⟩)) hS ?_;refine pick_o 3 (.pointer (some ⟨Mb,0,none⟩)) hS ?_;refine pick_o 4 (.pointer (some ⟨Mb,0,none⟩)) hS ?_;refine pick_o (hy:=fun w' h=>yh) 5 (.slice ae es.length ce) hS ?_;refine pick_o 6 (.pointer (some ⟨W.heap.size,2,none⟩)) hS ?_
  refine pick_o (hy:=fun w' h=>uz) 7 (.string a) hS ?_;refine z26 (i:=8) (f:=25) (args:= #[.slice ae es.length ce,.string a]) rfl ye rfl rfl yf ?_;refine(l2Eff_calls ae ce es a D (by have:=HX.o.el;omega) (cx_effs HX.o S1.o)).mono ?_;rintro e Xk ⟨rfl,rfl⟩;refine⟨_,rfl,hS,?_⟩;refine z25 yg ?_;refine pick_o 9 (.agg #[int i64 22,int i64 (effPlace es a 0),int i64 0,int i64 0]) hS ?_;refine z26 (i:=10) (f:=21) (args:= #[.pointer (some ⟨Mb,0,none⟩),.agg #[int i64 22,int i64 (effPlace es a 0),int i64 0,int i64 0]]) rfl ye rfl rfl yf ?_;refine(z53 ⟨22,effPlace es a 0,0,0⟩ S1.o uw).mono ?_
  rintro e X1 ⟨rfl,h1,g1⟩;obtain⟨n1,hn1⟩:∃n,s.o.length=n:=⟨_,rfl⟩
  rw[hn1];have S2:=U h1;have G2:=U (G1.o.trans g1);clear h1 g1 hn1;have hbx:=(G2.o.block W.heap.size _ _ HA.o yk yk yk).trans HA.o;refine⟨_,rfl,⟨S2.o.effs,z11 hbx 2⟩,?_⟩;clear hbx hS;refine z25 yg ?_;refine zb92 ?_;go_end0
  exact⟨⟨_,rfl⟩,S2.o,F0.o.trans G2.o⟩
 rw[if_neg k22]at hLZ;have z22:(kd==22)=false:=by simp[k22]
 subst hLZ;go_wp2_with fail
 refine(z53 ⟨14,kd,0,0⟩ S0.o uw).mono ?_;refine zb34 ?_;intro X1 n1 S1 G1;go_end0
 exact⟨⟨_,rfl⟩,S1.o,F0.o.trans G1.o⟩
end
end
end Go.Proofs.YtbbffkiobmbkfaaGreatDoor
