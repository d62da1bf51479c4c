import Derived.Test.YtbbffkiobmbkfaaGreatDoorPkV22
open Go.Proofs.Tryz
open Go.Value Go.IntKind
set_option maxHeartbeats 8000000
set_option maxRecDepth 100000
namespace Go.Proofs.YtbbffkiobmbkfaaGreatDoor
open Go.RowKit Go.Deep
variable {s s1:Cn}{d:Dr}{ms:List Bool}{es:List Ef}{ks:List Kn}{D c t:Nat}{v ve vm:Value}{W X:World}
section
open Go.RowKit Go.Deep
theorem At.bound {C:Nat}(h:At d ve W s X s1 t c) (hf:Fit s C) (hc:c<=C) (hC:C<=1000):t<=400000:=by
 have h3:=h.2.2;unfold Spent at h3;unfold Fit at hf;omega
theorem leaf1 (ty:Int) (ht:ty=1) (h:Gen d ve W s) (hf:Fit s 4) (hk:KnowsD d W v ks) (hl:ks.length<=999) :
 Calls prog 119 #[.pointer (some ⟨d.G,0,none⟩),int i64 ty,v] W (NodesPost d ve W s 4):=by
 have HF:=U hf;have A0:=U (At.start h);have HKn:=U hk;have HKl:=U hl;have HK:=U (A0.o.nodes0 (gknown_calls ty h gy hk ya));obtain⟨ad,cp,rfl⟩:=hk.is;clear hk hl h hf;subst ht;go_enter func119,ntmps119
 go_wp2_with fail
 refine zb14 ?_;unhygienic intros
 clear HK A0;by_cases hz:l1=0
 .subst hz;have g0:=A1.o.1.c0;go_wp2_with fail
  refine(A1.o.pick HF.o ya 10 yk).mono ?_;rintro e X2 ⟨m2,s2,rfl,hm2,hM2,ha,(G2:O _)⟩;have A2:=U ha;clear ha;clear g0;go_wp2_with fail
  refine vE (A2.o.node 1 m2) fun X3 ad3 cp3 n3 N3 A3 G3=>?_
  go_wp2_with fail
  go_ret;exact A3.o.done 1 N3.o.1 gz ya
 .have hz':(0:Int)<(l1:Int):=by omega
  have g0:=A1.o.1.c0;go_wp2_with fail
  refine zb51 ?_;intro X2 m2 s2 hm2 hM2 G2 A2;clear g0;by_cases hm:0<m2
  .go_wp2_with fail
   go_ret;exact A2.o.done 0 (N1.o.1.grew G2.o) na ya
  .have hm0:m2=0:=by omega
   subst hm0;have g0:=A2.o.1.c0;go_wp2_with fail
   refine(A2.o.pick HF.o ya 10 yk).mono ?_;rintro e X3 ⟨m3,s3,rfl,hm3,hM3,ha,(G3:O _)⟩;have A3:=U ha;clear ha;clear g0;go_wp2_with fail
   refine vE (A3.o.node 1 m3) fun X4 ad4 cp4 n4 N4 A4 G4=>?_
   go_wp2_with fail
   go_ret;exact A4.o.done 1 N4.o.1 nc ya
theorem leaf2 (ty:Int) (ht:ty=2) (h:Gen d ve W s) (hf:Fit s 4) (hk:KnowsD d W v ks) (hl:ks.length<=999) :
 Calls prog 119 #[.pointer (some ⟨d.G,0,none⟩),int i64 ty,v] W (NodesPost d ve W s 4):=by
 have HF:=U hf;have A0:=U (At.start h);have HKn:=U hk;have HKl:=U hl;have HK:=U (A0.o.nodes0 (gknown_calls ty h gy hk ya));obtain⟨ad,cp,rfl⟩:=hk.is;clear hk hl h hf;subst ht;go_enter func119,ntmps119
 go_wp2_with fail
 refine zb14 ?_;unhygienic intros
 clear HK A0;by_cases hz:l1=0
 .subst hz;have g0:=A1.o.1.c0;go_wp2_with fail
  refine(A1.o.pick HF.o ya 2 yk).mono ?_;rintro e X2 ⟨m2,s2,rfl,hm2,hM2,ha,(G2:O _)⟩;have A2:=U ha;clear ha;clear g0;go_wp2_with fail
  refine vE (A2.o.node 2 m2) fun X3 ad3 cp3 n3 N3 A3 G3=>?_
  go_wp2_with fail
  go_ret;exact A3.o.done 1 N3.o.1 gz ya
 .have hz':(0:Int)<(l1:Int):=by omega
  have g0:=A1.o.1.c0;go_wp2_with fail
  refine zb51 ?_;intro X2 m2 s2 hm2 hM2 G2 A2;clear g0;by_cases hm:0<m2
  .go_wp2_with fail
   go_ret;exact A2.o.done 0 (N1.o.1.grew G2.o) na ya
  .have hm0:m2=0:=by omega
   subst hm0;have g0:=A2.o.1.c0;go_wp2_with fail
   refine zb71 ?_;intro X3 m3 s3 hm3 hM3 G3 A3;clear g0;go_wp2_with fail
   refine vE (A3.o.node 2 m3) fun X4 ad4 cp4 n4 N4 A4 G4=>?_
   go_wp2_with fail
   go_ret;exact A4.o.done 1 N4.o.1 nc ya
theorem leaf3 (ty:Int) (ht:ty=3) (h:Gen d ve W s) (hf:Fit s 4) (hk:KnowsD d W v ks) (hl:ks.length<=999) :
 Calls prog 119 #[.pointer (some ⟨d.G,0,none⟩),int i64 ty,v] W (NodesPost d ve W s 4):=by
 have HF:=U hf;have A0:=U (At.start h);have HKn:=U hk;have HKl:=U hl;have HK:=U (A0.o.nodes0 (gknown_calls ty h gy hk ya));obtain⟨ad,cp,rfl⟩:=hk.is;clear hk hl h hf;subst ht;go_enter func119,ntmps119
 go_wp2_with fail
 refine zb14 ?_;unhygienic intros
 clear HK A0;by_cases hz:l1=0
 .subst hz;go_wp2_with fail
  refine vE (A1.o.node 3 0) fun X2 ad2 cp2 n2 N2 A2 G2=>?_
  go_wp2_with fail
  go_ret;exact A2.o.done 1 N2.o.1 ng ya
 .have hz':(0:Int)<(l1:Int):=by omega
  have g0:=A1.o.1.c0;go_wp2_with fail
  refine zb51 ?_;intro X2 m2 s2 hm2 hM2 G2 A2;clear g0;by_cases hm:0<m2
  .go_wp2_with fail
   go_ret;exact A2.o.done 0 (N1.o.1.grew G2.o) na ya
  .have hm0:m2=0:=by omega
   subst hm0;go_wp2_with fail
   refine vE (A2.o.node 3 0) fun X3 ad3 cp3 n3 N3 A3 G3=>?_
   go_wp2_with fail
   go_ret;exact A3.o.done 1 N3.o.1 gz ya
theorem leaf4 (ty:Int) (ht:ty=4) (h:Gen d ve W s) (hf:Fit s 4) (hk:KnowsD d W v ks) (hl:ks.length<=999) :
 Calls prog 119 #[.pointer (some ⟨d.G,0,none⟩),int i64 ty,v] W (NodesPost d ve W s 4):=by
 have HF:=U hf;have A0:=U (At.start h);have HKn:=U hk;have HKl:=U hl;have HK:=U (A0.o.nodes0 (gknown_calls ty h gy hk ya));obtain⟨ad,cp,rfl⟩:=hk.is;clear hk hl h hf;subst ht;go_enter func119,ntmps119
 go_wp2_with fail
 refine zb14 ?_;unhygienic intros
 clear HK A0;by_cases hz:l1=0
 .subst hz;go_wp2_with fail
  refine vE (A1.o.node 4 0) fun X2 ad2 cp2 n2 N2 A2 G2=>?_
  go_wp2_with fail
  go_ret;exact A2.o.done 1 N2.o.1 ng ya
 .have hz':(0:Int)<(l1:Int):=by omega
  have g0:=A1.o.1.c0;go_wp2_with fail
  refine zb51 ?_;intro X2 m2 s2 hm2 hM2 G2 A2;clear g0;by_cases hm:0<m2
  .go_wp2_with fail
   go_ret;exact A2.o.done 0 (N1.o.1.grew G2.o) na ya
  .have hm0:m2=0:=by omega
   subst hm0;go_wp2_with fail
   refine vE (A2.o.node 4 0) fun X3 ad3 cp3 n3 N3 A3 G3=>?_
   go_wp2_with fail
   go_ret;exact A3.o.done 1 N3.o.1 gz ya
theorem gleaf5 (ty:Int) (h1:ty≠1) (h2:ty≠2) (h3:ty≠3) (h4:ty≠4) (h:Gen d ve W s) (hf:Fit s 10) (hk:KnowsD d W v ks) (hl:ks.length<=998) :
 Calls prog 119 #[.pointer (some ⟨d.G,0,none⟩),int i64 ty,v] W (NodesPost d ve W s 10):=by
 have HF:=U hf;have A0:=U (At.start h);have HKn:=U hk;have HKl:=U hl;have HK:=U (A0.o.nodes0 (gknown_calls ty h gy hk ya));obtain⟨ad,cp,rfl⟩:=hk.is;clear hk hl h hf;have e1:(ty==1)=false:=by simp[h1]
 have e2:(ty==2)=false:=by simp[h2]
 have e3:(ty==3)=false:=by simp[h3]
 have e4:(ty==4)=false:=by simp[h4]
 clear h1 h2 h3 h4;go_enter func119,ntmps119
 go_wp2_with fail
 refine zb14 ?_;unhygienic intros
 clear HK A0;by_cases hz:l1=0
 .subst hz;go_wp2_with fail
  refine(A1.o.name HF.o ya).mono ?_;refine zb58 ?_;intro X2 x2 s2 G2 A2 B2;go_wp2_with fail
  refine(A2.o.add x2 1 0 (HKn.o.grew (G1.o.trans G2.o)) B2.o ki).mono ?_;rintro e X3 ⟨u3,ks3,rfl,hk3,hkl3,ha,(G3:O _)⟩;have A3:=U ha;clear ha;have K3:=U (Lc hk3 hkl3);clear hk3 hkl3;go_wp2_with fail
  refine nE (A3.o.nodes (leaf1 1 rfl A3.o.1 (A3.o.fit HF.o 4 ya) K3.o.1 ni)) fun X4 ad4 cp4 n4 s4 t4 N4 A4 G4=>?_
  go_wp2_with fail
  refine vE (A4.o.put1 6 0 0 x2 ByteArray.empty ByteArray.empty N4.o.1 ⟨B2.o,z14,z14⟩ nj) fun X5 ad5 cp5 n5 N5 A5 G5=>?_
  go_wp2_with fail
  go_ret;exact A5.o.done 1 N5.o.1 nk ya
 .have hz':(0:Int)<(l1:Int):=by omega
  have g0:=A1.o.1.c0;go_wp2_with fail
  refine zb51 ?_;intro X2 m2 s2 hm2 hM2 G2 A2;clear g0;by_cases hm:0<m2
  .go_wp2_with fail
   go_ret;exact A2.o.done 0 (N1.o.1.grew G2.o) na ya
  .have hm0:m2=0:=by omega
   subst hm0;go_wp2_with fail
   refine zb45 ?_;intro X3 x3 s3 G3 A3 B3;go_wp2_with fail
   refine(A3.o.add x3 1 0 (HKn.o.grew (G1.o.trans (G2.o.trans G3.o))) B3.o ki).mono ?_;rintro e X4 ⟨u4,ks4,rfl,hk4,hkl4,ha,(G4:O _)⟩;have A4:=U ha;clear ha;have K4:=U (Lc hk4 hkl4);clear hk4 hkl4;go_wp2_with fail
   refine nE (A4.o.nodes (leaf1 1 rfl A4.o.1 (A4.o.fit HF.o 4 ya) K4.o.1 nn)) fun X5 ad5 cp5 n5 s5 t5 N5 A5 G5=>?_
   go_wp2_with fail
   refine vE (A5.o.put1 6 0 0 x3 ByteArray.empty ByteArray.empty N5.o.1 ⟨B3.o,z14,z14⟩ zn) fun X6 ad6 cp6 n6 N6 A6 G6=>?_
   go_wp2_with fail
   go_ret;exact A6.o.done 1 N6.o.1 nr ya
theorem Fit.mono {c':Nat}(h:Fit s c) (hc:c'<=c):Fit s c':= by
 unfold Fit at h |-;omega
theorem NodesPost.mono {W':World}{c':Nat}{e:Ending}(h:NodesPost d ve W s c e W') (hc:c<=c'):NodesPost d ve W s c' e W':= by
 obtain⟨v,ns,s',t,h1,h2,h3,h4,h5,h6⟩:=h;exact⟨v,ns,s',t,h1,h2,h3,h4,h5,h6.mono hc⟩
theorem leaf_calls (ty:Int) (h:Gen d ve W s) (hf:Fit s 10) (hk:KnowsD d W v ks) (hl:ks.length<=998) :
 Calls prog 119 #[.pointer (some ⟨d.G,0,none⟩),int i64 ty,v] W (NodesPost d ve W s 10):=by
 by_cases h1:ty=1
 .exact(leaf1 ty h1 h (hf.mono ya) hk ya).mono fun e W' h=>h.mono ya
 by_cases h2:ty=2
 .exact(leaf2 ty h2 h (hf.mono ya) hk ya).mono fun e W' h=>h.mono ya
 by_cases h3:ty=3
 .exact(leaf3 ty h3 h (hf.mono ya) hk ya).mono fun e W' h=>h.mono ya
 by_cases h4:ty=4
 .exact(leaf4 ty h4 h (hf.mono ya) hk ya).mono fun e W' h=>h.mono ya
 exact gleaf5 ty h1 h2 h3 h4 h hf hk hl
def EffsD (d:Dr) (W:World) (v:Value) (es:List Ef):Prop:=Lies d W v es.length 3 (fun i=>(es.getD (i/3) default).cell (i % 3))/\ ∀e∈es,Brief e.name
theorem EffsD.grew {W':World}(h:EffsD d W v es) (g:Grew d W W'):EffsD d W' v es:=⟨h.1.grew g,h.2⟩
theorem EffsD.is (h:EffsD d W v es):∃ad cp,v=.slice ad es.length cp:=h.1.is
theorem EffsD.at {d:Dr}{W:World}{ad:Option Addr}{n cp:Nat}{es:List Ef}(h:EffsD d W (.slice ad n cp) es) {i:Nat}(hi:i<n):∃b off nm ar re,ad=some ⟨b,off,none⟩/\es.getD i default=⟨nm,ar,re⟩/\Brief nm/\d.free W b/\W.cell? ⟨b,off+i*3,none⟩=some (.string nm)/\W.cell? ⟨b,off+i*3+1,none⟩=some (int i64 ar)/\W.cell? ⟨b,off+i*3+2,none⟩=some (int i64 re):=by
 obtain⟨h,hB⟩:=h;obtain⟨hl,-,b,off,rfl,hq,hc⟩:=h.at ya;obtain⟨k,hk⟩:∃k,es.getD i default=k:=⟨_,rfl⟩
 have hb:=hB _ (getD_mem (l:=es) (k:=i) ya);have e:∀c,c<3->W.cell? ⟨b,off+(i*3+c),none⟩=some (k.cell c):=fun c hc'=> by
  rw[hc (i*3+c) ya,<-hk];exact congrArg some (cell_div es Ef.cell 3 i c hc')
 rw[hk]at hb;obtain⟨nm,ar,re⟩:=k;exact⟨b,off,nm,ar,re,rfl,hk,hb,hq,e 0 ya,e 1 ya,e 2 ya⟩
structure Env (d:Dr) (ve:Value) (es:List Ef) (X:World) (v:Value) (ks:List Kn) (vm:Value) (ms:List Bool) (D:Nat):Prop where
 know:KnowsD d X v ks
 may:BoolsD d X vm ms
 len:ms.length=es.length
 effs:EffsD d X ve es
 room:ks.length+4*D<=400
 few:es.length<=4
theorem Env.grew {X':World}(h:Env d ve es X v ks vm ms D) (g:Grew d X X'):Env d ve es X' v ks vm ms D:=
 ⟨h.know.grew g,h.may.grew g,h.len,h.effs.grew g,h.room,h.few⟩
theorem Env.down (h:Env d ve es X v ks vm ms (D+1)):Env d ve es X v ks vm ms D:=
 ⟨h.know,h.may,h.len,h.effs,nt,h.few⟩
theorem Env.with {u:Value}{ks':List Kn}(h:Env d ve es X v ks vm ms (D+1)) (hk:KnowsD d X u ks') (hl:ks'.length<=ks.length+4):Env d ve es X u ks' vm ms D:=
 ⟨hk,h.may,h.len,h.effs,nt,h.few⟩
theorem Env.let {um:Value}{ms':List Bool}(h:Env d ve es X v ks vm ms (D+1)) (hm:BoolsD d X um ms') (hl:ms'.length=es.length):Env d ve es X v ks um ms' D:=
 ⟨h.know,hm,hl,h.effs,nt,h.few⟩
def OfC (d:Dr) (ve:Value) (es:List Ef) (D:Nat):Prop:=
 ∀(deep ty:Int) (v vm:Value) (ks:List Kn) (ms:List Bool) (X:World) (s:Cn),deep<=D-> -100<=deep->Fit s 10->Gen d ve X s->Env d ve es X v ks vm ms D->
  Calls prog 83 #[.pointer (some ⟨d.G,0,none⟩),int i64 ty,v,vm,int i64 deep] X (NodesPost d ve X s 10)
theorem z71 (b:Int) (W:World):Calls prog 157 #[int i64 b] W fun e W'=> e=.returned (int i64 b)/\W=W':= by
 go_enter func157,ntmps157
 go_wp2_with fail
 go_ret;exact⟨rfl,rfl⟩
theorem nd_lit_at (W:World) (n:Nd) (q:Nat) (hq:W.heap.size=q) (h1:d.B<W.heap.size) (h2:d.G<W.heap.size) (hb:Brief n.a/\Brief n.b/\Brief n.c):NodesD d (W.alloc (.cells #[int i64 n.kind,int i64 n.num,.string n.a,.string n.b,.string n.c,int i64 n.kids] 68)) (.slice (some ⟨q,0,none⟩) 1 1) [n]:=by
 subst hq;exact nd_lit W n h1 h2 hb
theorem two_get (a b:Int) (m:Int) (h0:0<=m) (h1:m<2):∃k:Int,(#[int i64 a,int i64 b]:Array Value)[m.toNat]?=some (int i64 k):=by
 have h:m=0\/m=1:=ya;rcases h with rfl|rfl<;>exact⟨_,rfl⟩
theorem KidsV.grew {X':World}{ls:List (Value×List Nd)}(h:KidsV d X v ls) (g:Grew d X X'):KidsV d X' v ls:=⟨h.1.grew g,fun x hx=>(h.2 x hx).grew g⟩
theorem At.put_kids (h:At d ve W s X s1 t c) {ls:List (Value×List Nd)}{vk:Value}(k nm kd:Int) (a b e':ByteArray) (hk:KidsV d X vk ls) (hb:Brief a/\Brief b/\Brief e') (hl:ls.length<=1000) (hfl:(flatL ls).length<=800000) :
 Calls prog 120 #[.agg #[int i64 k,int i64 nm,.string a,.string b,.string e',int i64 kd],vk] X fun e X'=> ∃v ns,e=.returned v/\NodesD d X' v ns/\ns.length=1+(flatL ls).length/\At d ve W s X' s1 t c/\Grew d X X':= by
 refine(gput_calls (d:=d) k nm kd a b e' X _ ls h.1.ltB h.1.ltG hk hb hl hfl).mono ?_;rintro e X' ⟨v,rfl,hn,hbl⟩;exact⟨v,_,rfl,hn,jd,h.below hbl,Grew.of_below hbl⟩
theorem none_post {C:Nat}(h:At d ve W s X s1 t c) (hc:c<=C):NodesPost0 d ve W s C (.returned (.slice none 0 0)) X:=
 h.done0 0 (nodes_none _ _) yq ya
theorem cont_calls (ty:Int) (deep:Int) (hO:OfC d ve es D) (h1:deep<=D) (h2:-90<=deep) (h3:D<=100) (h:Gen d ve W s) (hf:Fit s 30) (hE:Env d ve es W v ks vm ms (D+1)) :
 Calls prog 124 #[.pointer (some ⟨d.G,0,none⟩),int i64 ty,v,vm,int i64 deep] W (NodesPost0 d ve W s 30):=by
 have HF:=U hf;have HO:=U hO;have A0:=U (At.start h);have HE:=U hE;have HD:=U (Lc h1 (Lc h2 h3));have hdu:deep<=1000:=ya;obtain⟨ad,cp,rfl⟩:=hE.know.is;obtain⟨adm,cpm,rfl⟩:=hE.may.is;clear hO h1 h3 h hf hE;obtain⟨L,hL⟩:∃L,ks.length=L:=⟨_,rfl⟩
 have HL:O (ks.length=L/\L<=1000):=⟨hL,nu⟩
 rw[hL]at HE |-;clear hL;have hL0:O (wrap64 ((L:Int)-1)=(L:Int)-1):=nv;go_enter func124,ntmps124
 go_wp2_with fail
 try rw[hL0.o]
 go_loopw [11] (fun i wr=> ∃i':Nat,i=int i64 ((i':Int)-1)/\i'<=L/\wr=W) (fun i _=>(intOf i+1).toNat)
 case atStart=>exact⟨L,rfl,La,rfl⟩
 case round=>
  obtain⟨i',rfl,hle,rfl⟩:=hrel;by_cases hz:i'= 0
  .subst hz;go_wp2_with fail
   go_ret;exact none_post A0.o ya
  .obtain⟨j,rfl⟩:∃j,i'= j+1:=⟨i'-1,ya⟩
   have ej:((j+1:Nat):Int)-1=(j:Int):=ya;rw[ej];obtain⟨b,off,xn,xt,xr,rfl,-,hbr,hq,c0,c1,c2⟩:=HE.o.know.at (i:=j) ya;have HQ:=U (Lc hq hbr);have hj0:(0:Int)<=(j:Int):=ya;have hjl:(j:Int)<(L:Int):=ya;have HW:O (wrap64 ((j:Int)-1)=(j:Int)-1):=nv;have hstep:(intOf (int i64 ((j:Int)-1))+1).toNat<(intOf (int i64 (j:Int))+1).toNat:=by simp[intOf]
   clear hq hbr hz;by_cases hty:(xt==wrap64 (10+ty))=true
   .go_upto_region 5 with fail
    refine z31 (S:=fun w'=> w'.cell? ⟨b,off+j*3,none⟩=some (.string xn)/\w'.cell? ⟨b,off+j*3+2,none⟩=some (int i64 xr)) ye rfl rfl ?_;have A1:=U A0.o.drew;have G1:=U (Grew.refl d wr).drew;generalize wr.drew=X1 at*;refine pick_o 0 (.agg #[int i64 7,int i64 0,.string ⟨#[]⟩,.string ⟨#[]⟩,.string ⟨#[]⟩,int i64 0]) ⟨((G1.o.cell (p:=⟨b,off+j*3,none⟩) HQ.o.1).trans c0),((G1.o.cell (p:=⟨b,off+j*3+2,none⟩) HQ.o.1).trans c2)⟩ ?_;refine pick_o 1 (.slice (some ⟨b,off,none⟩) L cp) ⟨((G1.o.cell (p:=⟨b,off+j*3,none⟩) HQ.o.1).trans c0),((G1.o.cell (p:=⟨b,off+j*3+2,none⟩) HQ.o.1).trans c2)⟩ ?_
    refine pick_o 2 (int i64 (j:Int)) ⟨((G1.o.cell (p:=⟨b,off+j*3,none⟩) HQ.o.1).trans c0),((G1.o.cell (p:=⟨b,off+j*3+2,none⟩) HQ.o.1).trans c2)⟩ ?_;refine pick_o (hy:=fun w' hw=>by simp[go_sem,hj0,hjl]) 3 (.pointer (some ⟨b,off+j*3,none⟩)) ⟨((G1.o.cell (p:=⟨b,off+j*3,none⟩) HQ.o.1).trans c0),((G1.o.cell (p:=⟨b,off+j*3+2,none⟩) HQ.o.1).trans c2)⟩ ?_;refine pick_o 4 (.pointer (some ⟨b,off+j*3,none⟩)) ⟨((G1.o.cell (p:=⟨b,off+j*3,none⟩) HQ.o.1).trans c0),((G1.o.cell (p:=⟨b,off+j*3+2,none⟩) HQ.o.1).trans c2)⟩ ?_
    refine pick_o (hy:=fun w' hw=>yc) 5 (.string xn) ⟨((G1.o.cell (p:=⟨b,off+j*3,none⟩) HQ.o.1).trans c0),((G1.o.cell (p:=⟨b,off+j*3+2,none⟩) HQ.o.1).trans c2)⟩ ?_;refine pick_o 6 (.agg #[int i64 5,int i64 0,.string xn,.string ⟨#[]⟩,.string ⟨#[]⟩,int i64 0]) ⟨((G1.o.cell (p:=⟨b,off+j*3,none⟩) HQ.o.1).trans c0),((G1.o.cell (p:=⟨b,off+j*3+2,none⟩) HQ.o.1).trans c2)⟩ ?_;refine pick_o 8 (.pointer (some ⟨d.G,0,none⟩)) ⟨((G1.o.cell (p:=⟨b,off+j*3,none⟩) HQ.o.1).trans c0),((G1.o.cell (p:=⟨b,off+j*3+2,none⟩) HQ.o.1).trans c2)⟩ ?_
    refine pick_o 9 (.slice (some ⟨b,off,none⟩) L cp) ⟨((G1.o.cell (p:=⟨b,off+j*3,none⟩) HQ.o.1).trans c0),((G1.o.cell (p:=⟨b,off+j*3+2,none⟩) HQ.o.1).trans c2)⟩ ?_;refine pick_o 10 (int i64 (j:Int)) ⟨((G1.o.cell (p:=⟨b,off+j*3,none⟩) HQ.o.1).trans c0),((G1.o.cell (p:=⟨b,off+j*3+2,none⟩) HQ.o.1).trans c2)⟩ ?_;refine pick_o (hy:=fun w' hw=>by simp[go_sem,hj0,hjl]) 11 (.pointer (some ⟨b,off+j*3,none⟩)) ⟨((G1.o.cell (p:=⟨b,off+j*3,none⟩) HQ.o.1).trans c0),((G1.o.cell (p:=⟨b,off+j*3+2,none⟩) HQ.o.1).trans c2)⟩ ?_
    refine pick_o 12 (.pointer (some ⟨b,off+j*3+2,none⟩)) ⟨((G1.o.cell (p:=⟨b,off+j*3,none⟩) HQ.o.1).trans c0),((G1.o.cell (p:=⟨b,off+j*3+2,none⟩) HQ.o.1).trans c2)⟩ ?_;refine pick_o (hy:=fun w' hw=>xj) 13 (int i64 xr) ⟨((G1.o.cell (p:=⟨b,off+j*3,none⟩) HQ.o.1).trans c0),((G1.o.cell (p:=⟨b,off+j*3+2,none⟩) HQ.o.1).trans c2)⟩ ?_;refine pick_o 14 (.slice (some ⟨b,off,none⟩) L cp) ⟨((G1.o.cell (p:=⟨b,off+j*3,none⟩) HQ.o.1).trans c0),((G1.o.cell (p:=⟨b,off+j*3+2,none⟩) HQ.o.1).trans c2)⟩ ?_
    refine pick_o 15 (.slice adm ms.length cpm) ⟨((G1.o.cell (p:=⟨b,off+j*3,none⟩) HQ.o.1).trans c0),((G1.o.cell (p:=⟨b,off+j*3+2,none⟩) HQ.o.1).trans c2)⟩ ?_;refine pick_o 16 (int i64 deep) ⟨((G1.o.cell (p:=⟨b,off+j*3,none⟩) HQ.o.1).trans c0),((G1.o.cell (p:=⟨b,off+j*3+2,none⟩) HQ.o.1).trans c2)⟩ ?_;refine z61 (i:=7) (j:=17) ye ?_ ?_
    .have NL:O (NodesD d (X1.alloc (.cells #[int i64 5,int i64 0,.string xn,.string ⟨#[]⟩,.string ⟨#[]⟩,int i64 0] 68)) (.slice (some ⟨X1.heap.size,0,none⟩) 1 1) [⟨5,0,xn,ByteArray.empty,ByteArray.empty,0⟩]/\ [(⟨5,0,xn,ByteArray.empty,ByteArray.empty,0⟩:Nd)].length=1):=⟨nd_lit (d:=d) X1 ⟨5,0,xn,ByteArray.empty,ByteArray.empty,0⟩ A1.o.1.ltB A1.o.1.ltG ⟨HQ.o.2,z14,z14⟩,rfl⟩
     have A2:=U (A1.o.alloc (.cells #[int i64 5,int i64 0,.string xn,.string ⟨#[]⟩,.string ⟨#[]⟩,int i64 0] 68));have G2:=U ((Grew.refl d X1).alloc (.cells #[int i64 5,int i64 0,.string xn,.string ⟨#[]⟩,.string ⟨#[]⟩,int i64 0] 68));refine⟨_,.slice (some ⟨X1.heap.size,0,none⟩) 1 1,X1.alloc (.cells #[int i64 5,int i64 0,.string xn,.string ⟨#[]⟩,.string ⟨#[]⟩,int i64 0] 68),rfl,rfl,yf,⟨(((G1.o.trans G2.o).cell (p:=⟨b,off+j*3,none⟩) HQ.o.1).trans c0),(((G1.o.trans G2.o).cell (p:=⟨b,off+j*3+2,none⟩) HQ.o.1).trans c2)⟩,?_⟩;refine z25 yg ?_
     generalize X1.alloc (.cells #[int i64 5,int i64 0,.string xn,.string ⟨#[]⟩,.string ⟨#[]⟩,int i64 0] 68)=X2 at*;refine z26 (i:=17) (f:=83) (args:= #[.pointer (some ⟨d.G,0,none⟩),int i64 xr,.slice (some ⟨b,off,none⟩) L cp,.slice adm ms.length cpm,int i64 deep]) rfl ye rfl rfl yf ?_;refine nE (A2.o.nodes (HO.o deep xr _ _ _ _ _ _ nw nw (A2.o.fit HF.o 10 ya) A2.o.1 (HE.o.grew (G1.o.trans G2.o)).down)) fun X3 ad3 cp3 n3 s3 t3 N3 A3 G3=>?_
     refine⟨_,rfl,⟨(((G1.o.trans (G2.o.trans G3.o)).cell (p:=⟨b,off+j*3,none⟩) HQ.o.1).trans c0),(((G1.o.trans (G2.o.trans G3.o)).cell (p:=⟨b,off+j*3+2,none⟩) HQ.o.1).trans c2)⟩,?_⟩;refine z25 yg ?_
     have KV:O (KidsV d (X3.alloc (.cells #[.slice (some ⟨X1.heap.size,0,none⟩) 1 1,.slice ad3 n3.length cp3] 24)) (.slice (some ⟨X3.heap.size,0,none⟩) 2 2) [(.slice (some ⟨X1.heap.size,0,none⟩) 1 1,[(⟨5,0,xn,ByteArray.empty,ByteArray.empty,0⟩:Nd)]),(.slice ad3 n3.length cp3,n3)]):=(z70 [(.slice (some ⟨X1.heap.size,0,none⟩) 1 1,[(⟨5,0,xn,ByteArray.empty,ByteArray.empty,0⟩:Nd)]),(.slice ad3 n3.length cp3,n3)] _ rfl A3.o.1.ltB A3.o.1.ltG (fun x hx=>by simp at hx;rcases hx with rfl|rfl;exact(NL.o.1.grew G3.o);exact N3.o.1))
     have A4:=U (A3.o.alloc (.cells #[.slice (some ⟨X1.heap.size,0,none⟩) 1 1,.slice ad3 n3.length cp3] 24));have G4:=U ((Grew.refl d X3).alloc (.cells #[.slice (some ⟨X1.heap.size,0,none⟩) 1 1,.slice ad3 n3.length cp3] 24));refine z27 (i:=18) (v:=.slice (some ⟨X3.heap.size,0,none⟩) 2 2) (w1:=X3.alloc (.cells #[.slice (some ⟨X1.heap.size,0,none⟩) 1 1,.slice ad3 n3.length cp3] 24)) rfl ye rfl rfl yf ⟨(((G1.o.trans (G2.o.trans (G3.o.trans G4.o))).cell (p:=⟨b,off+j*3,none⟩) HQ.o.1).trans c0),(((G1.o.trans (G2.o.trans (G3.o.trans G4.o))).cell (p:=⟨b,off+j*3+2,none⟩) HQ.o.1).trans c2)⟩ yg ?_
     generalize X3.alloc (.cells #[.slice (some ⟨X1.heap.size,0,none⟩) 1 1,.slice ad3 n3.length cp3] 24)=X4 at*;refine z26 (i:=19) (f:=120) (args:= #[.agg #[int i64 7,int i64 0,.string ⟨#[]⟩,.string ⟨#[]⟩,.string ⟨#[]⟩,int i64 0],.slice (some ⟨X3.heap.size,0,none⟩) 2 2]) rfl ye rfl rfl yf ?_;refine vE (A4.o.put_kids 7 0 0 ⟨#[]⟩ ⟨#[]⟩ ⟨#[]⟩ KV.o ⟨z14,z14,z14⟩ yq (by have:=A4.o.bound HF.o ya yk;have:=N3.o.2;simp[flatL];omega)) fun X5 ad5 cp5 n5 N5 A5 G5=>?_
     refine⟨_,rfl,⟨(((G1.o.trans (G2.o.trans (G3.o.trans (G4.o.trans G5.o)))).cell (p:=⟨b,off+j*3,none⟩) HQ.o.1).trans c0),(((G1.o.trans (G2.o.trans (G3.o.trans (G4.o.trans G5.o)))).cell (p:=⟨b,off+j*3+2,none⟩) HQ.o.1).trans c2)⟩,?_⟩;refine z25 yg ?_;refine pick_o 20 (.slice ad5 n5.length cp5) ⟨(((G1.o.trans (G2.o.trans (G3.o.trans (G4.o.trans G5.o)))).cell (p:=⟨b,off+j*3,none⟩) HQ.o.1).trans c0),(((G1.o.trans (G2.o.trans (G3.o.trans (G4.o.trans G5.o)))).cell (p:=⟨b,off+j*3+2,none⟩) HQ.o.1).trans c2)⟩ ?_;refine zb92 ?_;go_ret
     exact A5.o.done0 5 N5.o.1 (by have:=N5.o.2;have:=N3.o.2;simp[flatL]at *;omega) ya
    .refine⟨_,83,#[.pointer (some ⟨d.G,0,none⟩),int i64 xr,.slice (some ⟨b,off,none⟩) L cp,.slice adm ms.length cpm,int i64 deep],rfl,rfl,yf,?_⟩;refine nE (A1.o.nodes (HO.o deep xr _ _ _ _ _ _ nw nw (A1.o.fit HF.o 10 ya) A1.o.1 (HE.o.grew G1.o).down)) fun X2 ad2 cp2 n2 s2 t2 N2 A2 G2=>?_
     refine⟨_,rfl,⟨(((G1.o.trans G2.o).cell (p:=⟨b,off+j*3,none⟩) HQ.o.1).trans c0),(((G1.o.trans G2.o).cell (p:=⟨b,off+j*3+2,none⟩) HQ.o.1).trans c2)⟩,?_⟩;refine z25 yg ?_;have NL:O (NodesD d (X2.alloc (.cells #[int i64 5,int i64 0,.string xn,.string ⟨#[]⟩,.string ⟨#[]⟩,int i64 0] 68)) (.slice (some ⟨X2.heap.size,0,none⟩) 1 1) [⟨5,0,xn,ByteArray.empty,ByteArray.empty,0⟩]/\ [(⟨5,0,xn,ByteArray.empty,ByteArray.empty,0⟩:Nd)].length=1):=⟨nd_lit (d:=d) X2 ⟨5,0,xn,ByteArray.empty,ByteArray.empty,0⟩ A2.o.1.ltB A2.o.1.ltG ⟨HQ.o.2,z14,z14⟩,rfl⟩
     have A3:=U (A2.o.alloc (.cells #[int i64 5,int i64 0,.string xn,.string ⟨#[]⟩,.string ⟨#[]⟩,int i64 0] 68));have G3:=U ((Grew.refl d X2).alloc (.cells #[int i64 5,int i64 0,.string xn,.string ⟨#[]⟩,.string ⟨#[]⟩,int i64 0] 68));refine z27 (i:=7) (v:=.slice (some ⟨X2.heap.size,0,none⟩) 1 1) (w1:=X2.alloc (.cells #[int i64 5,int i64 0,.string xn,.string ⟨#[]⟩,.string ⟨#[]⟩,int i64 0] 68)) rfl ye rfl rfl yf ⟨(((G1.o.trans (G2.o.trans G3.o)).cell (p:=⟨b,off+j*3,none⟩) HQ.o.1).trans c0),(((G1.o.trans (G2.o.trans G3.o)).cell (p:=⟨b,off+j*3+2,none⟩) HQ.o.1).trans c2)⟩ yg ?_
     generalize X2.alloc (.cells #[int i64 5,int i64 0,.string xn,.string ⟨#[]⟩,.string ⟨#[]⟩,int i64 0] 68)=X3 at*
     have KV:O (KidsV d (X3.alloc (.cells #[.slice (some ⟨X2.heap.size,0,none⟩) 1 1,.slice ad2 n2.length cp2] 24)) (.slice (some ⟨X3.heap.size,0,none⟩) 2 2) [(.slice (some ⟨X2.heap.size,0,none⟩) 1 1,[(⟨5,0,xn,ByteArray.empty,ByteArray.empty,0⟩:Nd)]),(.slice ad2 n2.length cp2,n2)]):=(z70 [(.slice (some ⟨X2.heap.size,0,none⟩) 1 1,[(⟨5,0,xn,ByteArray.empty,ByteArray.empty,0⟩:Nd)]),(.slice ad2 n2.length cp2,n2)] _ rfl A3.o.1.ltB A3.o.1.ltG (fun x hx=>by simp at hx;rcases hx with rfl|rfl;exact NL.o.1;exact(N2.o.1.grew G3.o)))
     have A4:=U (A3.o.alloc (.cells #[.slice (some ⟨X2.heap.size,0,none⟩) 1 1,.slice ad2 n2.length cp2] 24));have G4:=U ((Grew.refl d X3).alloc (.cells #[.slice (some ⟨X2.heap.size,0,none⟩) 1 1,.slice ad2 n2.length cp2] 24));refine z27 (i:=18) (v:=.slice (some ⟨X3.heap.size,0,none⟩) 2 2) (w1:=X3.alloc (.cells #[.slice (some ⟨X2.heap.size,0,none⟩) 1 1,.slice ad2 n2.length cp2] 24)) rfl ye rfl rfl yf ⟨(((G1.o.trans (G2.o.trans (G3.o.trans G4.o))).cell (p:=⟨b,off+j*3,none⟩) HQ.o.1).trans c0),(((G1.o.trans (G2.o.trans (G3.o.trans G4.o))).cell (p:=⟨b,off+j*3+2,none⟩) HQ.o.1).trans c2)⟩ yg ?_
     generalize X3.alloc (.cells #[.slice (some ⟨X2.heap.size,0,none⟩) 1 1,.slice ad2 n2.length cp2] 24)=X4 at*;refine z26 (i:=19) (f:=120) (args:= #[.agg #[int i64 7,int i64 0,.string ⟨#[]⟩,.string ⟨#[]⟩,.string ⟨#[]⟩,int i64 0],.slice (some ⟨X3.heap.size,0,none⟩) 2 2]) rfl ye rfl rfl yf ?_;refine vE (A4.o.put_kids 7 0 0 ⟨#[]⟩ ⟨#[]⟩ ⟨#[]⟩ KV.o ⟨z14,z14,z14⟩ yq (by have:=A4.o.bound HF.o ya yk;have:=N2.o.2;simp[flatL];omega)) fun X5 ad5 cp5 n5 N5 A5 G5=>?_
     refine⟨_,rfl,⟨(((G1.o.trans (G2.o.trans (G3.o.trans (G4.o.trans G5.o)))).cell (p:=⟨b,off+j*3,none⟩) HQ.o.1).trans c0),(((G1.o.trans (G2.o.trans (G3.o.trans (G4.o.trans G5.o)))).cell (p:=⟨b,off+j*3+2,none⟩) HQ.o.1).trans c2)⟩,?_⟩;refine z25 yg ?_;refine pick_o 20 (.slice ad5 n5.length cp5) ⟨(((G1.o.trans (G2.o.trans (G3.o.trans (G4.o.trans G5.o)))).cell (p:=⟨b,off+j*3,none⟩) HQ.o.1).trans c0),(((G1.o.trans (G2.o.trans (G3.o.trans (G4.o.trans G5.o)))).cell (p:=⟨b,off+j*3+2,none⟩) HQ.o.1).trans c2)⟩ ?_;refine zb92 ?_;go_ret
     exact A5.o.done0 5 N5.o.1 (by have:=N5.o.2;have:=N2.o.2;simp[flatL]at *;omega) ya
   .have hty':(xt==wrap64 (10+ty))=false:=by simpa using hty
    clear hty;go_wp2_with fail
    rw[HW.o];exact⟨⟨j,rfl,ya,gv⟩,hstep⟩
theorem perform_calls (ty:Int) (deep:Int) (hO:OfC d ve es D) (h1:deep<=D) (h2:-90<=deep) (h3:D<=100) (h:Gen d ve W s) (hf:Fit s 30) (hE:Env d ve es W v ks vm ms (D+1)) :
 Calls prog 125 #[.pointer (some ⟨d.G,0,none⟩),int i64 ty,v,vm,int i64 deep] W (NodesPost0 d ve W s 30):=by
 have HF:=U hf;have HO:=U hO;have A0:=U (At.start h);have HE:=U hE;have HD:=U (Lc h1 (Lc h2 h3));have hdu:deep<=1000:=ya;obtain⟨ad,cp,rfl⟩:=hE.know.is;obtain⟨adm,cpm,rfl⟩:=hE.may.is;obtain⟨ade,cpe,rfl⟩:=hE.effs.is;clear hO h1 h3 h hf hE;have HL:O (es.length<=4/\ms.length=es.length):=⟨HE.o.few,HE.o.len⟩
 have hwr:IntKind.i64.wrap ((es.length:Int)+1)=(es.length:Int)+1:=by rw[IntKind.wrap_i64];have:=HL.o.1;omega
 go_enter func125,ntmps125
 go_upto_region 1 with fail
 refine z31 (S:=fun w'=> w'.cell? ⟨d.G,0,none⟩=some (.pointer (some ⟨d.B,0,none⟩))/\w'.cell? ⟨d.G,1,none⟩=some (.slice ade es.length cpe)) ye rfl rfl ?_;have A1:=U A0.o.drew;have G1:=U (Grew.refl d W).drew;generalize W.drew=X1 at*;refine pick_o 0 (.pointer (some ⟨d.G,0,none⟩)) ⟨A1.o.1.c0,A1.o.1.c1⟩ ?_;refine pick_o 1 (.pointer (some ⟨d.G,0,none⟩)) ⟨A1.o.1.c0,A1.o.1.c1⟩ ?_;refine pick_o 2 (.pointer (some ⟨d.G,0,none⟩)) ⟨A1.o.1.c0,A1.o.1.c1⟩ ?_;refine pick_o (hy:=fun w' hw=>yc) 3 (.pointer (some ⟨d.B,0,none⟩)) ⟨A1.o.1.c0,A1.o.1.c1⟩ ?_
 refine pick_o 4 (.pointer (some ⟨d.G,0,none⟩)) ⟨A1.o.1.c0,A1.o.1.c1⟩ ?_;refine pick_o 5 (.pointer (some ⟨d.G,0,none⟩)) ⟨A1.o.1.c0,A1.o.1.c1⟩ ?_;refine pick_o 6 (.pointer (some ⟨d.G,1,none⟩)) ⟨A1.o.1.c0,A1.o.1.c1⟩ ?_;refine pick_o (hy:=fun w' hw=>xj) 7 (.slice ade es.length cpe) ⟨A1.o.1.c0,A1.o.1.c1⟩ ?_;refine pick_o 8 (int i64 (es.length:Int)) ⟨A1.o.1.c0,A1.o.1.c1⟩ ?_;refine pick_o (hy:=fun w' hw=>nx) 9 (int i64 ((es.length:Int)+1)) ⟨A1.o.1.c0,A1.o.1.c1⟩ ?_;refine z26 (i:=10) (f:=35) (args:= #[.pointer (some ⟨d.B,0,none⟩),int i64 ((es.length:Int)+1)]) rfl ye rfl rfl yf ?_
 refine(A1.o.pick HF.o ya _ ya).mono ?_;rintro e X2 ⟨m,s2,rfl,hm0,hm1,ha,(G2:O _)⟩;have A2:=U ha;clear ha;refine⟨_,rfl,⟨A2.o.1.c0,A2.o.1.c1⟩,?_⟩;refine z25 yg ?_;refine pick_o 11 (int i64 m) ⟨A2.o.1.c0,A2.o.1.c1⟩ ?_;refine z37 ye ?_;have AX:=A2;have HEX:=U (HE.o.grew (G1.o.trans G2.o));have GX:=U (G1.o.trans G2.o);have g0:=AX.o.1.c0;have g1:=AX.o.1.c1;have HM:=U (Lc hm0 hm1);generalize X2=X at*;clear A0 HE hwr;go_wp2_with fail
 go_loopw [12,13] (fun i k wr=> ∃i':Nat,i=int i64 i'/\i'<=es.length/\wr=X) (fun i _ _=>es.length-(intOf i).toNat)
 case atStart=>exact⟨0,rfl,Li _,rfl⟩
 case round=>
  obtain⟨i',rfl,hle,rfl⟩:=hrel;by_cases hi:(i':Int)<(es.length:Int)
  .obtain⟨kk,hkk⟩:∃kk:Nat,(m+(i':Int)) % (es.length:Int)=(kk:Int):=⟨((m+(i':Int)) % (es.length:Int)).toNat,by have:=Int.emod_nonneg (m+(i':Int)) (show(es.length:Int)≠0 by omega);omega⟩
   have hkl:kk<es.length:=by have:=Int.emod_lt_of_pos (m+(i':Int)) (show(0:Int)<(es.length:Int) by omega);omega
   have hkt:(m+(i':Int)).tmod (es.length:Int)=(kk:Int):=(Int.tmod_eq_emod_of_nonneg (by have:=HM.o.1;omega)).trans hkk;have hsum:wrap64 (m+(i':Int))=m+(i':Int):=by have:=HM.o;have:=HL.o;unfold wrap64;omega
   obtain⟨bm,om,rfl,hqm,cm⟩:=HEX.o.may.at (i:=kk) ny;obtain⟨be,oe,xn,xa,xr,rfl,-,hbr,hqe,c0,c1,c2⟩:=HEX.o.effs.at (i:=kk) hkl;have HQ:=U (Lc hqe hbr);have hk0:(0:Int)<=(kk:Int):=ya;have hk1:(kk:Int)<(es.length:Int):=ya;have hk2:(kk:Int)<(ms.length:Int):=ny;have hstep:es.length-(intOf (int i64 ((i'+ 1:Nat):Int))).toNat<es.length-(intOf (int i64 (i':Int))).toNat:=z55 hi;have hi0:(0:Int)<=(i':Int):=ya;have hne:((es.length:Int)==0)=false:=beq_eq_false_iff_ne.2 ya;clear hqm hqe hbr hkk hkl;generalize ms.getD kk false=bb at*
   cases bb with
   | false=>
     go_wp2_with fail
     rw[z30 ud];exact⟨⟨i'+ 1,rfl,ya,gv⟩,hstep⟩
   | true=>
     go_wp2_with fail
     refine(z71 xr _).mono ?_;rintro e W9 ⟨rfl,rfl⟩;by_cases hty:(xr==ty)=true
     .have HE:=HEX;go_upto_region 7 with fail
      refine z31 (S:=fun w'=> w'.cell? ⟨d.G,1,none⟩=some (.slice (some ⟨be,oe,none⟩) es.length cpe)/\w'.cell? ⟨be,oe+kk*3,none⟩=some (.string xn)/\w'.cell? ⟨be,oe+kk*3+1,none⟩=some (int i64 xa)) ye rfl rfl ?_;have A1:=U AX.o.drew;have G1:=U (Grew.refl d wr).drew;generalize wr.drew=X1 at*;refine pick_o 0 (.pointer (some ⟨d.G,0,none⟩)) ⟨A1.o.1.c1,((G1.o.cell (p:=⟨be,oe+kk*3,none⟩) HQ.o.1).trans c0),((G1.o.cell (p:=⟨be,oe+kk*3+1,none⟩) HQ.o.1).trans c1)⟩ ?_
      refine pick_o 1 (.pointer (some ⟨d.G,0,none⟩)) ⟨A1.o.1.c1,((G1.o.cell (p:=⟨be,oe+kk*3,none⟩) HQ.o.1).trans c0),((G1.o.cell (p:=⟨be,oe+kk*3+1,none⟩) HQ.o.1).trans c1)⟩ ?_;refine pick_o 2 (.pointer (some ⟨d.G,1,none⟩)) ⟨A1.o.1.c1,((G1.o.cell (p:=⟨be,oe+kk*3,none⟩) HQ.o.1).trans c0),((G1.o.cell (p:=⟨be,oe+kk*3+1,none⟩) HQ.o.1).trans c1)⟩ ?_;refine pick_o (hy:=fun w' hw=>yc) 3 (.slice (some ⟨be,oe,none⟩) es.length cpe) ⟨A1.o.1.c1,((G1.o.cell (p:=⟨be,oe+kk*3,none⟩) HQ.o.1).trans c0),((G1.o.cell (p:=⟨be,oe+kk*3+1,none⟩) HQ.o.1).trans c1)⟩ ?_
      refine pick_o 4 (int i64 (kk:Int)) ⟨A1.o.1.c1,((G1.o.cell (p:=⟨be,oe+kk*3,none⟩) HQ.o.1).trans c0),((G1.o.cell (p:=⟨be,oe+kk*3+1,none⟩) HQ.o.1).trans c1)⟩ ?_;refine pick_o (hy:=fun w' hw=>yaa) 5 (.pointer (some ⟨be,oe+kk*3,none⟩)) ⟨A1.o.1.c1,((G1.o.cell (p:=⟨be,oe+kk*3,none⟩) HQ.o.1).trans c0),((G1.o.cell (p:=⟨be,oe+kk*3+1,none⟩) HQ.o.1).trans c1)⟩ ?_;refine pick_o 6 (.pointer (some ⟨be,oe+kk*3,none⟩)) ⟨A1.o.1.c1,((G1.o.cell (p:=⟨be,oe+kk*3,none⟩) HQ.o.1).trans c0),((G1.o.cell (p:=⟨be,oe+kk*3+1,none⟩) HQ.o.1).trans c1)⟩ ?_
      refine pick_o (hy:=fun w' hw=>yd) 7 (.string xn) ⟨A1.o.1.c1,((G1.o.cell (p:=⟨be,oe+kk*3,none⟩) HQ.o.1).trans c0),((G1.o.cell (p:=⟨be,oe+kk*3+1,none⟩) HQ.o.1).trans c1)⟩ ?_;refine pick_o 8 (.agg #[int i64 22,int i64 0,.string xn,.string ⟨#[]⟩,.string ⟨#[]⟩,int i64 0]) ⟨A1.o.1.c1,((G1.o.cell (p:=⟨be,oe+kk*3,none⟩) HQ.o.1).trans c0),((G1.o.cell (p:=⟨be,oe+kk*3+1,none⟩) HQ.o.1).trans c1)⟩ ?_;refine pick_o 9 (.pointer (some ⟨d.G,0,none⟩)) ⟨A1.o.1.c1,((G1.o.cell (p:=⟨be,oe+kk*3,none⟩) HQ.o.1).trans c0),((G1.o.cell (p:=⟨be,oe+kk*3+1,none⟩) HQ.o.1).trans c1)⟩ ?_
      refine pick_o 10 (.pointer (some ⟨d.G,0,none⟩)) ⟨A1.o.1.c1,((G1.o.cell (p:=⟨be,oe+kk*3,none⟩) HQ.o.1).trans c0),((G1.o.cell (p:=⟨be,oe+kk*3+1,none⟩) HQ.o.1).trans c1)⟩ ?_;refine pick_o 11 (.pointer (some ⟨d.G,0,none⟩)) ⟨A1.o.1.c1,((G1.o.cell (p:=⟨be,oe+kk*3,none⟩) HQ.o.1).trans c0),((G1.o.cell (p:=⟨be,oe+kk*3+1,none⟩) HQ.o.1).trans c1)⟩ ?_;refine pick_o 12 (.pointer (some ⟨d.G,1,none⟩)) ⟨A1.o.1.c1,((G1.o.cell (p:=⟨be,oe+kk*3,none⟩) HQ.o.1).trans c0),((G1.o.cell (p:=⟨be,oe+kk*3+1,none⟩) HQ.o.1).trans c1)⟩ ?_
      refine pick_o (hy:=fun w' hw=>yc) 13 (.slice (some ⟨be,oe,none⟩) es.length cpe) ⟨A1.o.1.c1,((G1.o.cell (p:=⟨be,oe+kk*3,none⟩) HQ.o.1).trans c0),((G1.o.cell (p:=⟨be,oe+kk*3+1,none⟩) HQ.o.1).trans c1)⟩ ?_;refine pick_o 14 (int i64 (kk:Int)) ⟨A1.o.1.c1,((G1.o.cell (p:=⟨be,oe+kk*3,none⟩) HQ.o.1).trans c0),((G1.o.cell (p:=⟨be,oe+kk*3+1,none⟩) HQ.o.1).trans c1)⟩ ?_;refine pick_o (hy:=fun w' hw=>yaa) 15 (.pointer (some ⟨be,oe+kk*3,none⟩)) ⟨A1.o.1.c1,((G1.o.cell (p:=⟨be,oe+kk*3,none⟩) HQ.o.1).trans c0),((G1.o.cell (p:=⟨be,oe+kk*3+1,none⟩) HQ.o.1).trans c1)⟩ ?_
      refine pick_o 16 (.pointer (some ⟨be,oe+kk*3+1,none⟩)) ⟨A1.o.1.c1,((G1.o.cell (p:=⟨be,oe+kk*3,none⟩) HQ.o.1).trans c0),((G1.o.cell (p:=⟨be,oe+kk*3+1,none⟩) HQ.o.1).trans c1)⟩ ?_;refine pick_o (hy:=fun w' hw=>ur) 17 (int i64 xa) ⟨A1.o.1.c1,((G1.o.cell (p:=⟨be,oe+kk*3,none⟩) HQ.o.1).trans c0),((G1.o.cell (p:=⟨be,oe+kk*3+1,none⟩) HQ.o.1).trans c1)⟩ ?_;refine pick_o 19 (.slice ad ks.length cp) ⟨A1.o.1.c1,((G1.o.cell (p:=⟨be,oe+kk*3,none⟩) HQ.o.1).trans c0),((G1.o.cell (p:=⟨be,oe+kk*3+1,none⟩) HQ.o.1).trans c1)⟩ ?_
      refine pick_o 20 (.slice (some ⟨bm,om,none⟩) ms.length cpm) ⟨A1.o.1.c1,((G1.o.cell (p:=⟨be,oe+kk*3,none⟩) HQ.o.1).trans c0),((G1.o.cell (p:=⟨be,oe+kk*3+1,none⟩) HQ.o.1).trans c1)⟩ ?_;refine pick_o 21 (int i64 deep) ⟨A1.o.1.c1,((G1.o.cell (p:=⟨be,oe+kk*3,none⟩) HQ.o.1).trans c0),((G1.o.cell (p:=⟨be,oe+kk*3+1,none⟩) HQ.o.1).trans c1)⟩ ?_;refine z26 (i:=18) (f:=157) (args:= #[int i64 xa]) rfl ye rfl rfl yf ?_;refine(z71 xa _).mono ?_;rintro e W8 ⟨rfl,rfl⟩;refine⟨_,rfl,⟨A1.o.1.c1,((G1.o.cell (p:=⟨be,oe+kk*3,none⟩) HQ.o.1).trans c0),((G1.o.cell (p:=⟨be,oe+kk*3+1,none⟩) HQ.o.1).trans c1)⟩,?_⟩
      refine z25 yg ?_;refine z26 (i:=22) (f:=83) (args:= #[.pointer (some ⟨d.G,0,none⟩),int i64 xa,.slice ad ks.length cp,.slice (some ⟨bm,om,none⟩) ms.length cpm,int i64 deep]) rfl ye rfl rfl yf ?_;refine nE (A1.o.nodes (HO.o deep xa _ _ _ _ _ _ nw nw (A1.o.fit HF.o 10 ya) A1.o.1 (HE.o.grew G1.o).down)) fun X2 ad2 cp2 n2 s2 t2 N2 A2 G2=>?_
      refine⟨_,rfl,⟨A2.o.1.c1,(((G1.o.trans G2.o).cell (p:=⟨be,oe+kk*3,none⟩) HQ.o.1).trans c0),(((G1.o.trans G2.o).cell (p:=⟨be,oe+kk*3+1,none⟩) HQ.o.1).trans c1)⟩,?_⟩;refine z25 yg ?_;have KV:O (KidsV d (X2.alloc (.cells #[.slice ad2 n2.length cp2] 24)) (.slice (some ⟨X2.heap.size,0,none⟩) 1 1) [(.slice ad2 n2.length cp2,n2)]):=(z70 [(.slice ad2 n2.length cp2,n2)] _ rfl A2.o.1.ltB A2.o.1.ltG (fun x hx=>by simp at hx;rcases hx with rfl;exact N2.o.1))
      have A3:=U (A2.o.alloc (.cells #[.slice ad2 n2.length cp2] 24));have G3:=U ((Grew.refl d X2).alloc (.cells #[.slice ad2 n2.length cp2] 24));refine z27 (i:=23) (v:=.slice (some ⟨X2.heap.size,0,none⟩) 1 1) (w1:=X2.alloc (.cells #[.slice ad2 n2.length cp2] 24)) rfl ye rfl rfl yf ⟨A3.o.1.c1,(((G1.o.trans (G2.o.trans G3.o)).cell (p:=⟨be,oe+kk*3,none⟩) HQ.o.1).trans c0),(((G1.o.trans (G2.o.trans G3.o)).cell (p:=⟨be,oe+kk*3+1,none⟩) HQ.o.1).trans c1)⟩ yg ?_;generalize X2.alloc (.cells #[.slice ad2 n2.length cp2] 24)=X3 at*
      refine z26 (i:=24) (f:=120) (args:= #[.agg #[int i64 22,int i64 0,.string xn,.string ⟨#[]⟩,.string ⟨#[]⟩,int i64 0],.slice (some ⟨X2.heap.size,0,none⟩) 1 1]) rfl ye rfl rfl yf ?_;refine vE (A3.o.put_kids 22 0 0 xn ⟨#[]⟩ ⟨#[]⟩ KV.o ⟨HQ.o.2,z14,z14⟩ yq (by have:=A3.o.bound HF.o ya yk;have:=N2.o.2;simp[flatL];omega)) fun X4 ad4 cp4 n4 N4 A4 G4=>?_
      refine⟨_,rfl,⟨A4.o.1.c1,(((G1.o.trans (G2.o.trans (G3.o.trans G4.o))).cell (p:=⟨be,oe+kk*3,none⟩) HQ.o.1).trans c0),(((G1.o.trans (G2.o.trans (G3.o.trans G4.o))).cell (p:=⟨be,oe+kk*3+1,none⟩) HQ.o.1).trans c1)⟩,?_⟩;refine z25 yg ?_;refine pick_o 25 (.slice ad4 n4.length cp4) ⟨A4.o.1.c1,(((G1.o.trans (G2.o.trans (G3.o.trans G4.o))).cell (p:=⟨be,oe+kk*3,none⟩) HQ.o.1).trans c0),(((G1.o.trans (G2.o.trans (G3.o.trans G4.o))).cell (p:=⟨be,oe+kk*3+1,none⟩) HQ.o.1).trans c1)⟩ ?_;refine zb92 ?_;go_ret;exact A4.o.done0 5 N4.o.1 (by have:=N4.o.2;have:=N2.o.2;simp[flatL]at *;omega) ya
     .have hty':(xr==ty)=false:=by simpa using hty
      clear hty;go_wp2_with fail
      rw[z30 ud];exact⟨⟨i'+ 1,rfl,ya,gv⟩,hstep⟩
  .go_wp2_with fail
   go_ret;exact none_post AX.o ya
theorem loop_calls (deep:Int) (hO:OfC d ve es D) (h1:deep<=D) (h2:-90<=deep) (h3:D<=100) (h:Gen d ve W s) (hf:Fit s 60) (hE:Env d ve es W v ks vm ms (D+1)) :
 Calls prog 158 #[.pointer (some ⟨d.G,0,none⟩),v,vm,int i64 deep] W (NodesPost d ve W s 60):=by
 have HF:=U hf;have HO:=U hO;have A0:=U (At.start h);have HE:=U hE;have HD:=U (Lc h1 (Lc h2 h3));have hdu:deep<=1000:=ya;obtain⟨ad,cp,rfl⟩:=hE.know.is;obtain⟨adm,cpm,rfl⟩:=hE.may.is;clear hO h1 h3 h hf hE;go_enter func158,ntmps158
 go_wp2_with fail
 refine(A0.o.name HF.o ya).mono ?_;rintro e X1 ⟨x1,s1,rfl,hb1,ha,(G1:O _)⟩;have A1:=U ha;clear ha;have B1:=U hb1;clear hb1;go_wp2_with fail
 refine(A1.o.name HF.o ya).mono ?_;refine zb58 ?_;intro X2 x2 s2 G2 A2 B2;have N3:=U (Lc (nd_lit_at (d:=d) X2 ⟨5,0,x2,ByteArray.empty,ByteArray.empty,0⟩ (X2.heap.size) yq A2.o.1.ltB A2.o.1.ltG ⟨B2.o,z14,z14⟩) (show [(⟨5,0,x2,ByteArray.empty,ByteArray.empty,0⟩:Nd)].length=1 from rfl));have A3:=U (A2.o.alloc (.cells #[int i64 5,int i64 0,.string x2,.string ByteArray.empty,.string ByteArray.empty,int i64 0] 68));have G3:=U ((Grew.refl d X2).alloc (.cells #[int i64 5,int i64 0,.string x2,.string ByteArray.empty,.string ByteArray.empty,int i64 0] 68))
 have N4:=U (Lc (nd_lit_at (d:=d) (X2.alloc (.cells #[int i64 5,int i64 0,.string x2,.string ByteArray.empty,.string ByteArray.empty,int i64 0] 68)) ⟨5,0,x1,ByteArray.empty,ByteArray.empty,0⟩ (X2.heap.size+1) yq A3.o.1.ltB A3.o.1.ltG ⟨B1.o,z14,z14⟩) (show [(⟨5,0,x1,ByteArray.empty,ByteArray.empty,0⟩:Nd)].length=1 from rfl));have A4:=U (A3.o.alloc (.cells #[int i64 5,int i64 0,.string x1,.string ByteArray.empty,.string ByteArray.empty,int i64 0] 68))
 have G4:=U ((Grew.refl d (X2.alloc (.cells #[int i64 5,int i64 0,.string x2,.string ByteArray.empty,.string ByteArray.empty,int i64 0] 68))).alloc (.cells #[int i64 5,int i64 0,.string x1,.string ByteArray.empty,.string ByteArray.empty,int i64 0] 68));go_wp2_with fail
 refine vE (A4.o.node 1 1) fun X5 ad5 cp5 n5 N5 A5 G5=>?_
 go_wp2_with fail
 refine vE (A5.o.put2 12 0 0 ByteArray.empty ByteArray.empty ByteArray.empty (N3.o.1.grew (G4.o.trans G5.o)) N5.o.1 ⟨z14,z14,z14⟩ (by have:=A5.o.bound HF.o ya yk;have:=N3.o.2;have:=N5.o.2;omega)) fun X6 ad6 cp6 n6 N6 A6 G6=>?_
 go_wp2_with fail
 refine vE (A6.o.put2 7 0 0 ByteArray.empty ByteArray.empty ByteArray.empty (N4.o.1.grew (G5.o.trans G6.o)) N6.o.1 ⟨z14,z14,z14⟩ (by have:=A6.o.bound HF.o ya yk;have:=N4.o.2;have:=N6.o.2;have:=N3.o.2;have:=N5.o.2;omega)) fun X7 ad7 cp7 n7 N7 A7 G7=>?_
 go_wp2_with fail
 refine(A7.o.add x2 1 0 (HE.o.grew (G1.o.trans (G2.o.trans (G3.o.trans (G4.o.trans (G5.o.trans (G6.o.trans G7.o))))))).know B2.o nu).mono ?_;rintro e X8 ⟨u8,ks8,rfl,hk8,hkl8,ha,(G8:O _)⟩;have A8:=U ha;clear ha;have K8:=U (Lc hk8 hkl8);obtain⟨ad8,cp8,rfl⟩:=hk8.is;clear hk8 hkl8;go_wp2_with fail
 refine vE (A8.o.node 1 1) fun X9 ad9 cp9 n9 N9 A9 G9=>?_
 go_wp2_with fail
 refine vE (A9.o.put2 15 0 0 ByteArray.empty ByteArray.empty ByteArray.empty (N3.o.1.grew (G4.o.trans (G5.o.trans (G6.o.trans (G7.o.trans (G8.o.trans G9.o)))))) N9.o.1 ⟨z14,z14,z14⟩ (by have:=A9.o.bound HF.o ya yk;have:=N3.o.2;have:=N9.o.2;omega)) fun X10 ad10 cp10 n10 N10 A10 G10=>?_
 go_wp2_with fail
 refine nE (A10.o.nodes (leaf_calls 1 A10.o.1 (A10.o.fit HF.o 10 ya) (K8.o.1.grew (G9.o.trans G10.o)) (by have:=HE.o.room;have:=K8.o.2;omega))) fun X11 ad11 cp11 n11 s11 t11 N11 A11 G11=>?_
 go_wp2_with fail
 refine nE (A11.o.nodes (HO.o (deep-2) 1 _ _ _ _ _ _ nw nw (A11.o.fit HF.o 10 ya) A11.o.1 ((HE.o.grew (G1.o.trans (G2.o.trans (G3.o.trans (G4.o.trans (G5.o.trans (G6.o.trans (G7.o.trans (G8.o.trans (G9.o.trans (G10.o.trans G11.o))))))))))).with (K8.o.1.grew (G9.o.trans (G10.o.trans G11.o))) (by have:=K8.o.2;omega)))) fun X12 ad12 cp12 n12 s12 t12 N12 A12 G12=>?_
 go_wp2_with fail
 refine vE (A12.o.put2 11 0 0 ByteArray.empty ByteArray.empty ByteArray.empty N12.o.1 (N7.o.1.grew (G8.o.trans (G9.o.trans (G10.o.trans (G11.o.trans G12.o))))) ⟨z14,z14,z14⟩ (by have:=A12.o.bound HF.o ya yk;have:=N12.o.2;have:=N7.o.2;have:=N4.o.2;have:=N6.o.2;have:=N3.o.2;have:=N5.o.2;omega)) fun X13 ad13 cp13 n13 N13 A13 G13=>?_
 go_wp2_with fail
 refine vE (A13.o.put3 10 0 0 ByteArray.empty ByteArray.empty ByteArray.empty (N10.o.1.grew (G11.o.trans (G12.o.trans G13.o))) (N11.o.1.grew (G12.o.trans G13.o)) N13.o.1 ⟨z14,z14,z14⟩ (by have:=A13.o.bound HF.o ya yk;have:=N10.o.2;have:=N3.o.2;have:=N9.o.2;have:=N11.o.2;have:=N13.o.2;have:=N12.o.2;have:=N7.o.2;have:=N4.o.2;have:=N6.o.2;have:=N3.o.2;have:=N5.o.2;omega)) fun X14 ad14 cp14 n14 N14 A14 G14=>?_
 have N15:=U (Lc (nd_lit_at (d:=d) X14 ⟨5,0,x1,ByteArray.empty,ByteArray.empty,0⟩ (X14.heap.size) yq A14.o.1.ltB A14.o.1.ltG ⟨B1.o,z14,z14⟩) (show [(⟨5,0,x1,ByteArray.empty,ByteArray.empty,0⟩:Nd)].length=1 from rfl));have A15:=U (A14.o.alloc (.cells #[int i64 5,int i64 0,.string x1,.string ByteArray.empty,.string ByteArray.empty,int i64 0] 68));have G15:=U ((Grew.refl d X14).alloc (.cells #[int i64 5,int i64 0,.string x1,.string ByteArray.empty,.string ByteArray.empty,int i64 0] 68))
 have g0:(X14.alloc (.cells #[int i64 5,int i64 0,.string x1,.string ⟨#[]⟩,.string ⟨#[]⟩,int i64 0] 68)).cell? ⟨d.G,0,none⟩=some (.pointer (some ⟨d.B,0,none⟩)):=A15.o.1.c0;go_wp2_with fail
 refine(A15.o.pick HF.o ya 12 yk).mono ?_;rintro e X16 ⟨m16,s16,rfl,hm16,hM16,ha,(G16:O _)⟩;have A16:=U ha;clear ha;clear g0;go_wp2_with fail
 refine vE (A16.o.node 1 m16) fun X17 ad17 cp17 n17 N17 A17 G17=>?_
 go_wp2_with fail
 refine vE (A17.o.put2 7 0 0 ByteArray.empty ByteArray.empty ByteArray.empty (N15.o.1.grew (G16.o.trans G17.o)) N17.o.1 ⟨z14,z14,z14⟩ (by have:=A17.o.bound HF.o ya yk;have:=N15.o.2;have:=N17.o.2;omega)) fun X18 ad18 cp18 n18 N18 A18 G18=>?_
 go_wp2_with fail
 refine vE (A18.o.put2 9 0 0 x1 x2 ByteArray.empty (N14.o.1.grew (G15.o.trans (G16.o.trans (G17.o.trans G18.o)))) N18.o.1 ⟨B1.o,B2.o,z14⟩ (by have:=A18.o.bound HF.o ya yk;have:=N14.o.2;have:=N10.o.2;have:=N3.o.2;have:=N9.o.2;have:=N11.o.2;have:=N13.o.2;have:=N12.o.2;have:=N7.o.2;have:=N4.o.2;have:=N6.o.2;have:=N3.o.2;have:=N5.o.2;have:=N18.o.2;have:=N15.o.2;have:=N17.o.2;omega)) fun X19 ad19 cp19 n19 N19 A19 G19=>?_
 go_wp2_with fail
 go_ret;exact A19.o.done 30 N19.o.1 (by have:=N19.o.2;have:=N14.o.2;have:=N10.o.2;have:=N3.o.2;have:=N9.o.2;have:=N11.o.2;have:=N13.o.2;have:=N12.o.2;have:=N7.o.2;have:=N4.o.2;have:=N6.o.2;have:=N3.o.2;have:=N5.o.2;have:=N18.o.2;have:=N15.o.2;have:=N17.o.2;omega) ya
end
end Go.Proofs.YtbbffkiobmbkfaaGreatDoor
