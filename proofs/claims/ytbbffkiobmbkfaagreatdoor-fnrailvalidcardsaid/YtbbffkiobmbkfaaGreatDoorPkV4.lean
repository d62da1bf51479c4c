import Derived.Test.YtbbffkiobmbkfaaGreatDoorPkV3
import Derived.Lib.ItoaLen
open Go.Proofs.Tryz
open Go.Value Go.IntKind
set_option maxHeartbeats 1000000
set_option maxRecDepth 100000
namespace Go.Proofs.YtbbffkiobmbkfaaGreatDoor
open Go.RowKit Go.Deep
variable {ss:List ByteArray}{B c i:Nat}{F:Nat->Value}{m:Nd}{v:Value}{w':World}
section
open Go.RowKit Go.Deep
def effIn (es:List Ef) (s:ByteArray):Bool:=es.any (fun e=>e.name.toList==s.toList)
def effPlace:List Ef->ByteArray->Nat->Int
 |[],_,_=> -1
 |e::r,s,i=>if (e.name.toList==s.toList)=true then i else effPlace r s (i+1)
theorem effPlace_lt:∀(es:List Ef) (s:ByteArray) (i:Nat),effPlace es s i<0↔effIn es s=false
 |[],s,i=>by simp[effPlace,effIn]
 | e::r,s,i=>by
   have ih:=effPlace_lt r s (i+1);unfold effPlace;simp only[effIn,List.any_cons] at*;split
   .rename_i h;rw[h];simp
   .rename_i h;have h':(e.name.toList==s.toList)=false:=zx;rw[h',Bool.false_or];exact ih
theorem effs_drop {es:List Ef}(hi:i<es.length):es.drop i=es.getD i default::es.drop (i+1):=by
 rw[List.drop_eq_getElem_cons hi];simp[List.getD,Lr hi]
theorem l2Eff_calls (a0:Option Addr) (cap:Nat) (es:List Ef) (s:ByteArray) (w:World) (hm:es.length<=1000000) (hn:es≠ []-> ∃b off,a0=some ⟨b,off,none⟩/\EffsAt w b off es) :
 Calls prog 25 #[.slice a0 es.length cap,.string s] w fun e w'=> e=.returned (int i64 (effPlace es s 0))/\w=w':= by
 obtain⟨len,hlen⟩:∃len,es.length=len:=⟨_,rfl⟩
 have Hlen:O (es.length=len):=hlen;have HM:O (len<=1000000):=yp;obtain⟨R,hR⟩:∃R,effPlace es s 0=R:=⟨_,rfl⟩
 have HR:O (effPlace es s 0=R):=hR;have HN:O (es≠ []-> ∃b off,a0=some ⟨b,off,none⟩/\EffsAt w b off es):=hn;rw[hlen,hR];clear hlen hR hm hn;go_enter func25,ntmps25
 go_wp2_with fail
 go_loop [5] (fun i=> ∃k:Nat,i=int i64 k/\k<=len/\O (effPlace (es.drop k) s k=R)) (fun i=>len-(intOf i).toNat)
 case atStart=>exact⟨0,rfl,Li _,HR.o⟩
 case round=>
  obtain⟨k,rfl,hle,HT⟩:=hrel;by_cases hlt:(k:Int)<(len:Int)
  .have hil:k<es.length:=by rw[Hlen.o];omega
   obtain⟨b,off,rfl,hE⟩:=HN.o (fun h=>jr);have c0:=hE k hil 0 ya;have hT:=HT.o;rw[effs_drop hil]at hT;obtain⟨n,hnd⟩:∃n,es.getD k default=n:=⟨_,rfl⟩
   rw[hnd]at c0 hT;simp only[Ef.cell,Nat.add_zero]at c0;clear HT HN hil hE hnd
   cases he:(n.name.toList==s.toList) with
   | true=>
     simp only[effPlace,he,if_true]at hT;have HT2:O ((k:Int)=R):=hT;clear hT;go_wp2_with fail
     go_ret;exact⟨js,rfl⟩
   | false=>
     have HT2:O (effPlace (es.drop (k+1)) s (k+1)=R):=by
      show _=_;rw[<-hT,effPlace,he];simp
     clear hT;refine zb83 ?_;intro hs;exact⟨⟨k+1,rfl,ya,HT2⟩,hs⟩
  .have hT:=HT.o;rw[List.drop_eq_nil_of_le jt]at hT;have HT2:O ((-1:Int)=R):=hT;clear hT HT HN;go_wp2_with fail
   go_ret;exact⟨js,rfl⟩
theorem closure_calls (a s:ByteArray) (x y:Int) (P:Nat) (w:World) (hP:w.cell? ⟨P,0,none⟩=some (.string s)) (hlt:P<w.heap.size) :
 Calls prog 93 #[.agg #[.string a,int i64 x,int i64 y],.pointer (some ⟨P,0,none⟩)] w fun e w'=> e=.returned (.bool (a.toList==s.toList))/\Below w.heap.size w w':= by
 go_enter func93,ntmps93
 go_wp2_with fail
 go_ret;exact⟨rfl,Lb.alloc La _⟩
theorem indexFunc_calls (a0:Option Addr) (cap P:Nat) (es:List Ef) (s:ByteArray) (w:World) (hP:w.cell? ⟨P,0,none⟩=some (.string s)) (hPl:P<w.heap.size) (hm:es.length<=1000000) (hn:es≠ []-> ∃b off,a0=some ⟨b,off,none⟩/\b<w.heap.size/\EffsAt w b off es) :
 Calls prog 131 #[.slice a0 es.length cap,.func (.func 93) #[] #[.pointer (some ⟨P,0,none⟩)]] w fun e w'=> e=.returned (int i64 (effPlace es s 0))/\Below w.heap.size w w':= by
 refine zb20 ?_;intro len Hlen HM R HR HN HP;clear hm hn hP hPl;go_enter func131,ntmps131
 go_wp2_with fail
 go_loopw [8] (fun i wr=> ∃k:Nat,i=int i64 k/\k<=len/\O (effPlace (es.drop k) s k=R)/\Below w.heap.size w wr) (fun i _=>len-(intOf i).toNat)
 case atStart=>exact⟨0,rfl,Li _,HR.o,Lb⟩
 case round=>
  obtain⟨k,rfl,hle,HT,hbx⟩:=hrel;by_cases hlt:(k:Int)<(len:Int)
  .have hil:k<es.length:=by rw[Hlen.o];omega
   obtain⟨b,off,rfl,hbw,hE0⟩:=HN.o (fun h=>jr);have hE:=hE0.below hbx hbw;have c0:=hE k hil 0 ya;have c1:=hE k hil 1 ya;have c2:=hE k hil 2 ya;have hT:=HT.o;rw[effs_drop hil]at hT;obtain⟨n,hnd⟩:∃n,es.getD k default=n:=⟨_,rfl⟩
   rw[hnd]at c0 c1 c2 hT;simp only[Ef.cell,Nat.add_zero]at c0 c1 c2;have HC:O (∀a x y,_):=fun a x y=>closure_calls a s x y P wr ((hbx.cell (p:=⟨P,0,none⟩) HP.o.2).trans HP.o.1) (Le HP.o.2 hbx.size)
   have HT1:O (effPlace (n::es.drop (k+1)) s k=R):=hT;clear HT HN hil hE hE0 hnd hT;go_wp2_with fail
   refine(HC.o _ _ _).mono ?_;rintro e w2 ⟨rfl,hb2⟩;have hb3:=hbx.trans (hb2.mono hbx.size);clear c0 c1 c2 HC hb2
   cases he:(n.name.toList==s.toList) with
   | true=>
     have HT2:O ((k:Int)=R):=by
      show _=_;rw[<-HT1.o,effPlace,he];simp
     clear HT1;go_wp2_with fail
     go_ret;exact⟨js,hb3⟩
   | false=>
     have HT2:O (effPlace (es.drop (k+1)) s (k+1)=R):=by
      show _=_;rw[<-HT1.o,effPlace,he];simp
     clear HT1;refine zb83 ?_;intro hs;exact⟨⟨k+1,rfl,ya,HT2,hb3⟩,hs⟩
  .have hT:=HT.o;rw[List.drop_eq_nil_of_le jt]at hT;have HT2:O ((-1:Int)=R):=hT;clear hT HT HN;go_wp2_with fail
   go_ret;exact⟨js,hbx⟩
theorem place_ge (es:List Ef) (s:ByteArray):decide (0<=effPlace es s 0)=effIn es s:=by
 have:=effPlace_lt es s 0
 cases h:effIn es s with
 |false=>rw[decide_eq_false];have:=this.2 h;omega
 | true=>
   rw[decide_eq_true];rcases Int.lt_or_le (effPlace es s 0) 0 with h'|h'
   .rw[this.1 h']at h;cases h
   .exact h'
theorem hasEff_calls (a0:Option Addr) (cap:Nat) (es:List Ef) (s:ByteArray) (w:World) (hm:es.length<=1000000) (hn:es≠ []-> ∃b off,a0=some ⟨b,off,none⟩/\b<w.heap.size/\EffsAt w b off es) :
 Calls prog 40 #[.slice a0 es.length cap,.string s] w fun e w'=> e=.returned (.bool (effIn es s))/\Below w.heap.size w w':= by
 have HW:O (w.heap.size<(w.alloc (.cells #[.string s] 9)).heap.size/\Below w.heap.size w (w.alloc (.cells #[.string s] 9))):=⟨yq,Lb.alloc La _⟩
 have HX:O (Calls _ _ _ _ _):=indexFunc_calls a0 cap w.heap.size es s (w.alloc (.cells #[.string s] 9)) yf HW.o.1 hm (fun h=>by
  obtain⟨b,off,e,hb,hE⟩:=hn h;exact⟨b,off,e,Nat.lt_trans hb HW.o.1,hE.below HW.o.2 hb⟩)
 rw[<-place_ge];clear hm hn;generalize es.length=len at*;generalize effPlace es s 0=R at*;go_enter func40,ntmps40
 go_wp2_with fail
 have HY:O (Calls prog 92 #[.slice a0 len cap,.func (.func 93) #[] #[.pointer (some ⟨w.heap.size,0,none⟩)]] (w.alloc (.cells #[.string s] 9)) fun e w'=> e=.returned (.bool (decide (0<=R)))/\Below w.heap.size w w'):=by
  show Calls _ _ _ _ _;go_enter func92,ntmps92
  go_wp2_with fail
  refine HX.o.mono ?_;rintro e w2 ⟨rfl,hb2⟩;have hb3:=HW.o.2.trans (hb2.mono HW.o.2.size);clear hb2;go_wp2_with fail
  go_ret;exact⟨rfl,hb3⟩
 refine HY.o.mono ?_;rintro e w2 ⟨rfl,hb2⟩;go_wp2_with fail
 go_ret;exact⟨rfl,hb2⟩
theorem baseOk_calls (x:Int) (w:World) :
 Calls prog 39 #[int i64 x] w fun e w'=> e=.returned (.bool (decide (1<=x/\x<=4)))/\w=w':= by
 have hx:(1<=x/\x<=4)\/x<1\/(1<=x/\4<x):=ya;rcases hx with ⟨h1,h2⟩|h1|⟨h1,h2⟩
 .rw[decide_eq_true ⟨h1,h2⟩];go_enter func39,ntmps39
  go_wp2
  all_goals
   go_ret;exact⟨by simp_all,rfl⟩
 .rw[decide_eq_false ya];go_enter func39,ntmps39
  go_wp2
  all_goals
   go_ret;exact⟨by simp_all,rfl⟩
 .rw[decide_eq_false ya];go_enter func39,ntmps39
  go_wp2
  all_goals
   go_ret;exact⟨by simp_all,rfl⟩
end
section
open Go.RowKit
theorem kept_refl (w:World) (row:Option Nat):w.grownBy w row:=⟨rfl,rfl,rfl,La,fun _ _ _=>rfl⟩
theorem kept_of_below {w:World}(h:Below w.heap.size w w') (row:Option Nat):w.grownBy w' row:=⟨h.os,h.tape,h.output,h.size,fun k hk _=>h.block k hk⟩
theorem kept_set {w:World}{g:Nat}(h:w.grownBy w' (some g)) (i:Nat) (v:Value):w.grownBy (w'.setCell ⟨g,i,none⟩ v) (some g):=
 ⟨h.os,h.tape,h.output,by simpa[World.setCell]using h.size,fun k hk hne=>(Lg _ _ _ _ (fun e=>hne (by rw[e]))).trans (h.block k hk hne)⟩
theorem kept_owns {w:World}{base:Nat}{e:TypeId}{size:Nat}{n:Nat}{xs:List Value}(h:w.ownsRow base e size v n xs) (hb:Below w.heap.size w w'):w'.ownsRow base e size v n xs:=
 h.kept (kept_of_below hb none) (by cases hv:v.ownBlock<;>simp)
theorem one_below {w w2:World}{o:Obj}(h:Below (w.alloc o).heap.size (w.alloc o) w2):Below w.heap.size w w2:=(one_kept h).2
def Rw (w:World) (g:Nat) (t:TypeId) (N:Nat) (f:Nat->Value) (n:Nat):Prop:=
 ∃(c:Array Value) (fz:Nat×Nat),w.heap[g]?=some (.cells c t fz)/\c.size=N/\(∀i,i<N->c[i]?=some (f i))/\(fz=(0,0)\/n<=fz.1)
namespace Rw
variable {w:World}{g:Nat}{t:TypeId}{N n:Nat}{f:Nat->Value}
theorem cell (h:Rw w g t N f n) (hi:i<N):w.cell? ⟨g,i,none⟩=some (f i):=by
 obtain⟨c,fz,hg,hs,hc,_⟩:=h;simp[World.cell?,hg,hc i hi]
theorem lt (h:Rw w g t N f n):g<w.heap.size:=by
 obtain⟨c,fz,hg,_⟩:=h;exact z13 hg
theorem set (h:Rw w g t N f n) (i:Nat) (v:Value):Rw (w.setCell ⟨g,i,none⟩ v) g t N (fun j=>if j=i then v else f j) n:=by
 obtain⟨c,fz,hg,hs,hc,hz⟩:=h;refine⟨c.setIfInBounds i v,fz,?_,by simp[hs],fun j hj=>?_,hz⟩
 .rw[setCell_eq_setRow w g i c t fz v hg];exact setRow_heap w g _ _ t _ hg
 .by_cases hji:j=i
  .subst hji;simp[hs,hj]
  .have hij:¬ i=j:=fun e=>hji e.symm
   simp[hji,hij,hc j hj]
end Rw
def CellRow (t:TypeId) (w:World) (g n:Nat) (F:Nat->Value):Prop:=
 ∃N f,Rw w g t N f n/\n<=N/\ ∀i,i<n->f i=F i
theorem CellRow.lt {t:TypeId}{w:World}{g n:Nat}(h:CellRow t w g n F):g<w.heap.size:=by
 obtain⟨N,f,hr,_⟩:=h;exact hr.lt
theorem CellRow.cell {t:TypeId}{w:World}{g n:Nat}(h:CellRow t w g n F) (hi:i<n):w.cell? ⟨g,i,none⟩=some (F i):=by
 obtain⟨N,f,hr,h1,h2⟩:=h;rw[hr.cell ya,h2 i hi]
theorem CellRow.congr {t:TypeId}{w:World}{g n:Nat}{G:Nat->Value}(h:CellRow t w g n F) (e:∀i,i<n->F i=G i):CellRow t w g n G:=by
 obtain⟨N,f,hr,h1,h2⟩:=h;exact⟨N,f,hr,h1,fun i hi=>(h2 i hi).trans (e i hi)⟩
def SliceR (t:TypeId) (sz B:Nat) (w:World) (v:Value) (n:Nat) (F:Nat->Value):Prop:=
 ∃ad cap,v=.slice ad n cap/\(n=0\/ ∃g,ad=some ⟨g,0,none⟩/\B<=g/\CellRow t w g (n*sz) F)
theorem sliceR_of_owns {t:TypeId}{sz:Nat}{w:World}{n:Nat}{xs:List Value}(h:w.ownsRow B t sz v n xs):SliceR t sz B w v n (fun i=>xs.getD i undef):=by
 rcases h.2 with ⟨rfl,hn⟩|⟨g,cap,cur,rfl,hB,hg,hnc,hcm,hsz,htake⟩
 .exact⟨none,0,by rw[hn],Or.inl hn⟩
 .refine⟨_,cap,rfl,Or.inr ⟨g,rfl,hB,cur.size,fun i=>cur.getD i undef,⟨cur,(0,0),hg,rfl,fun i hi=>by simp[hi],Or.inl rfl⟩,by rw[hsz];exact Nat.mul_le_mul_right _ hnc,fun i hi=>?_⟩⟩;rw[<-htake];simp only[List.getD,Array.getD_eq_getD_getElem?];rw[List.getElem?_take_of_lt hi,Array.getElem?_toList]
end
section
open Go.RowKit Go.Deep Go.ChangeShapes Go.WideShapes
structure In where
 op:Int
 a:Int
 b:Int
 c:Int
instance:Inhabited In:=⟨⟨0,0,0,0⟩⟩
def In.cell (n:In):Nat->Value
 |0=>int i64 n.op
 |1=>int i64 n.a
 |2=>int i64 n.b
 |_=>int i64 n.c
def InsAt (w:World) (b off:Nat) (ns:List In):Prop:=
 ∀k,k<ns.length-> ∀c,c<4->w.cell? ⟨b,off+k*4+c,none⟩=some ((ns.getD k default).cell c)
theorem InsAt.below {w:World}{b off:Nat}{ns:List In}(h:InsAt w b off ns) (hb:Below B w w') (hB:b<B):InsAt w' b off ns:=
 fun k hk c hc=>(hb.cell hB).trans (h k hk c hc)
def InsSlice (w:World) (v:Value) (ns:List In):Prop:=
 ∃a cap,v=.slice a ns.length cap/\(ns= []\/ ∃b off,a=some ⟨b,off,none⟩/\b<w.heap.size/\InsAt w b off ns)
theorem InsSlice.below {w:World}{ns:List In}(h:InsSlice w v ns) (hb:Below w.heap.size w w'):InsSlice w' v ns:=by
 obtain⟨a,cap,rfl,h⟩:=h;refine⟨a,cap,rfl,h.imp id ?_⟩;rintro⟨b,off,rfl,hlt,hn⟩;exact⟨b,off,rfl,Le hlt hb.size,hn.below hb hlt⟩
section
variable {H:Type}{enc:TypeId×Value->H}{W:World}{sp:Nat->Bool}{held:Bool}
end
theorem wrap_one {k len:Nat}(hk:k<len) (hm:len<=1048576):wrap64 ((k:Int)+1)=((k+1:Nat):Int):=by
 unfold wrap64;omega
end
section
open Go.RowKit Go.Deep
structure Tp where
 n:Nd
 k:Fo
 at_:Nat
instance:Inhabited Tp:=⟨⟨default,.none,0⟩⟩
def kidsAt:Fo->Nat->List Tp
 |.none,_=> []
 |.tree n k r,p=>⟨n,k,p⟩::kidsAt r (p+1+k.flat.length)
def Tp.kids (t:Tp):List Tp:=kidsAt t.k (t.at_+1)
def Tp.kid (t:Tp) (i:Nat):Tp:=t.kids.getD i default
def Tp.size (t:Tp):Nat:=t.k.flat.length+1
structure Lt where
 t:Tp
 names:List ByteArray
 fr:Nat
 wh:Nat
structure Cs where
 o:List In
 later:List Lt
def Cs.put (s:Cs) (i:In):Cs:=⟨s.o++ [i],s.later⟩
def In.lead (i:In) (wh:Nat) (v:Int):In:=if wh=0 then ⟨i.op,v,i.b,i.c⟩ else if wh=1 then ⟨i.op,i.a,v,i.c⟩ else ⟨i.op,i.a,i.b,v⟩
def Cs.lead (s:Cs) (fr wh:Nat):Cs:=⟨s.o.set fr ((s.o.getD fr default).lead wh s.o.length),s.later⟩
def Cs.wait (s:Cs) (l:Lt):Cs:=⟨s.o,s.later++ [l]⟩
def idxGo (ss:List ByteArray) (x:ByteArray):Nat->Int
 |0=> -1
 |i+1=>if ((ss.getD i ⟨#[]⟩).toList==x.toList)=true then ((ss.length-1-i:Nat):Int) else idxGo ss x i
def idxZ (ss:List ByteArray) (x:ByteArray):Int:=idxGo ss x ss.length
def lastZ (es:List Ef) (n:Nd):In:=
 if n.kind=7 then ⟨8,0,0,0⟩ else if n.kind=16 then ⟨15,0,0,0⟩ else if n.kind=17 then ⟨16,0,0,0⟩ else if n.kind=18 then ⟨17,0,0,0⟩ else if n.kind=19 then ⟨18,0,0,0⟩ else if n.kind=21 then ⟨20,0,0,0⟩ else if n.kind=22 then ⟨22,effPlace es n.a 0,0,0⟩ else ⟨14,n.kind,0,0⟩
def boundZ (go:Tp->List ByteArray->Cs->Cs) (t:Tp) (ss:List ByteArray) (s:Cs):Cs:=(go t ss (s.put ⟨12,0,0,0⟩)).put ⟨13,0,0,0⟩
def opZ (es:List Ef) (ss:List ByteArray) (s:Cs) (c:Tp):Cs:=(s.put ⟨25,effPlace es c.n.a 0,0,0⟩).wait ⟨c.kid 0,ss++ [c.n.b,c.n.c],s.o.length,1⟩
def handA (go:Tp->List ByteArray->Cs->Cs) (t:Tp) (ss:List ByteArray) (s:Cs):Cs:=
 ((go (t.kid 0) ss (s.put ⟨21,0,if t.n.kind=23 then 1 else 0,0⟩)).put ⟨23,0,0,0⟩).lead s.o.length 0
def handB (t:Tp) (ss:List ByteArray) (s:Cs):Cs:=(s.put ⟨24,0,t.n.kids-2,0⟩).wait ⟨(t.kid 1).kid 0,ss++ [(t.kid 1).n.a],s.o.length,0⟩
def handZ (es:List Ef) (go:Tp->List ByteArray->Cs->Cs) (t:Tp) (ss:List ByteArray) (s:Cs):Cs:=
 ((t.kids.drop 2).foldl (opZ es ss) (handB t ss (handA go t ss s))).lead s.o.length 2
def ifZ (go:Tp->List ByteArray->Cs->Cs) (t:Tp) (ss:List ByteArray) (s:Cs):Cs:=
 let s1:=go (t.kid 0) ss s
 let s2:=go (t.kid 1) ss (s1.put ⟨10,0,0,0⟩)
 let s3:=go (t.kid 2) ss ((s2.put ⟨11,0,0,0⟩).lead s1.o.length 0)
 s3.lead s2.o.length 0
def caseZ (go:Tp->List ByteArray->Cs->Cs) (t:Tp) (ss:List ByteArray) (s:Cs):Cs:=
 let s1:=go (t.kid 0) ss s
 let s2:=((go (t.kid 2) (ss++ [t.n.a,t.n.b]) (s1.put ⟨19,0,0,0⟩)).put ⟨13,0,0,0⟩).put ⟨13,0,0,0⟩
 let s3:=go (t.kid 1) ss ((s2.put ⟨11,0,0,0⟩).lead s1.o.length 0)
 s3.lead s2.o.length 0
def partZ (es:List Ef):Nat->Tp->List ByteArray->Cs->Cs
 |0,_,_,s=>s
 | f+1,t,ss,s=>
   if t.n.kind=1 then s.put ⟨1,t.n.num,0,0⟩ else
   if t.n.kind=2 then s.put ⟨2,t.n.num,0,0⟩ else
   if t.n.kind=3 then s.put ⟨3,0,0,0⟩ else
   if t.n.kind=4 then s.put ⟨4,0,0,0⟩ else
   if t.n.kind=5 then s.put ⟨5,idxZ ss t.n.a,0,0⟩ else
   if t.n.kind=6 then (s.put ⟨6,0,0,0⟩).wait ⟨t.kid 0,ss++ [t.n.a],s.o.length,0⟩ else
   if t.n.kind=8 then boundZ (partZ es f) (t.kid 1) (ss++ [t.n.a]) (partZ es f (t.kid 0) ss s) else
   if t.n.kind=9 then boundZ (partZ es f) (t.kid 1) (ss++ [t.n.a]) ((s.put ⟨7,0,0,0⟩).wait ⟨t.kid 0,ss++ [t.n.a,t.n.b],s.o.length,0⟩) else
   if t.n.kind=10 then ifZ (partZ es f) t ss s else
   if t.n.kind=20 then caseZ (partZ es f) t ss s else
   if t.n.kind=23\/t.n.kind=24 then handZ es (partZ es f) t ss s else
   (t.kids.foldl (fun s c=>partZ es f c ss s) s).put (lastZ es t.n)
def restZ (es:List Ef):Nat->Nat->Cs->Cs
 |0,_,s=>s
 | m +1,i,s=>if i<s.later.length then
     let l:=s.later.getD i ⟨default,[],0,0⟩
     restZ es m (i+1) ((partZ es 400 l.t l.names (s.lead l.fr l.wh)).put ⟨9,0,0,0⟩) else s
def codeZ (es:List Ef) (n:Nd) (k:Fo):List In:=(restZ es 400 0 ((partZ es 400 ⟨n,k,0⟩ [] ⟨[],[]⟩).put ⟨0,0,0,0⟩)).o
def headsZ (k:Fo):Prop:= ∀t∈(kidsAt k 0).drop 1,t.n.kids=1
def goodF:Fo->Prop
 |.none=>True
 |.tree n k r=>n.kids=k.count/\kidsOk n.kind n.kids=true/\(n.kind=23\/n.kind=24->headsZ k)/\goodF k/\goodF r
theorem goodF.wf:∀ {f:Fo},goodF f->f.wf
 |.none,_=>trivial
 |.tree _ _ _,h=>⟨h.1,h.2.2.2.1.wf,h.2.2.2.2.wf⟩
structure Good (t:Tp):Prop where
 kids:t.n.kids=t.k.count
 own:kidsOk t.n.kind t.n.kids=true
 heads:t.n.kind=23\/t.n.kind=24->headsZ t.k
 good:goodF t.k
structure Stands (ns:List Nd) (t:Tp):Prop extends Good t where
 drop:∃suf,ns.drop t.at_=t.n::(t.k.flat++suf)
theorem kidsAt_len:∀(f:Fo) (p:Nat),(kidsAt f p).length=f.count
 |.none,_=>rfl
 |.tree n k r,p=>by simp[kidsAt,Fo.count,kidsAt_len r]
theorem kidsAt_sum:∀(f:Fo) (p:Nat),((kidsAt f p).map Tp.size).sum=f.flat.length
 |.none,_=>rfl
 | .tree n k r,p=>by
   simp only[kidsAt,Fo.flat,List.map_cons,List.sum_cons,kidsAt_sum r,Ll,Lk,Tp.size];omega
theorem kidsAt_mem:∀(f:Fo) (p:Nat) (ns suf:List Nd),goodF f->ns.drop p=f.flat++suf-> ∀t∈kidsAt f p,Stands ns t
 |.none,p,ns,suf,_,_,t,h=>ju
 | .tree n k r,p,ns,suf,hg,hd,t,h=>by
   obtain⟨h1,h2,h3,h4,h5⟩:=hg;simp only[Fo.flat,Ln,Lo]at hd;rw[kidsAt,List.mem_cons]at h;rcases h with rfl|h
   .exact⟨⟨h1,h2,h3,h4⟩,⟨_,hd⟩⟩
   .refine kidsAt_mem r _ ns suf h5 ?_ t h;rw[show p+1+k.flat.length=p+(1+k.flat.length) by omega,<-List.drop_drop,hd,Nat.add_comm 1,List.drop_succ_cons,List.drop_left]
theorem kidsAt_place:∀(f:Fo) (p q:Nat),(kidsAt f q).map (fun t=>(t.n,t.k))=(kidsAt f p).map (fun t=>(t.n,t.k))
 |.none,_,_=>rfl
 | .tree n k r,p,q=>by
   simp only[kidsAt,List.map_cons];rw[kidsAt_place r (p+1+k.flat.length)]
theorem Tp.kids_len (t:Tp):t.kids.length=t.k.count:=kidsAt_len _ _
theorem Tp.kids_sum (t:Tp):(t.kids.map Tp.size).sum+1=t.size:=by
 have:=kidsAt_sum t.k (t.at_+1);unfold Tp.kids;rw[this];rfl
theorem Stands.kids_mem {ns:List Nd}{t:Tp}(h:Stands ns t):∀c∈t.kids,Stands ns c:=by
 obtain⟨suf,hd⟩:=h.drop;refine kidsAt_mem t.k _ ns suf h.good ?_;rw[<-List.drop_drop,hd];rfl
theorem Tp.kid_mem {t:Tp}(h:i<t.k.count):t.kid i∈t.kids:=getD_mem' (by rw[t.kids_len];exact h)
where
 getD_mem' {l:List Tp} {k:Nat} (h:k<l.length):l.getD k default∈l:=by
  rw[show l.getD k default=l[k] by simp[List.getD,h]];exact List.getElem_mem h
theorem Stands.kid {ns:List Nd}{t:Tp}(h:Stands ns t) (hi:i<t.k.count):Stands ns (t.kid i):=h.kids_mem _ (Tp.kid_mem hi)
theorem Stands.head {ns:List Nd}{t:Tp}(h:Stands ns t) (hk:t.n.kind=23\/t.n.kind=24):∀c∈t.kids.drop 1,c.n.kids=1/\c.k.count=1:=fun c hc=>by
 have h1:=h.heads hk;have hs:=h.kids_mem c (List.mem_of_mem_drop hc);have e:∃c'∈(kidsAt t.k 0).drop 1,(c'.n,c'.k)=(c.n,c.k):=by
  have h2:=congrArg (List.drop 1) (kidsAt_place t.k 0 (t.at_+1));rw[<-List.map_drop,<-List.map_drop]at h2;have h3:(c.n,c.k)∈((kidsAt t.k (t.at_+1)).drop 1).map (fun t=>(t.n,t.k)):=List.mem_map_of_mem (f:=fun t:Tp=>(t.n,t.k)) hc;rw[h2,List.mem_map]at h3;obtain⟨c',h4,h5⟩:=h3;exact⟨c',h4,h5⟩
 obtain⟨c',hc',e⟩:=e;have h6:=h1 c' hc';simp only[Prod.mk.injEq]at e;rw[e.1]at h6;have h7:=hs.kids;exact⟨h6,ya⟩
theorem role_two (pk:Int) (i:Nat) (h:pk=23\/pk=24) (hi:1<=i):role pk i=1\/role pk i=2:=by
 unfold role;rw[if_pos h];split<;>omega
theorem head_kids (h:headOk m c=true) (hc:c=1\/c=2) (ho:ownOk m=true):m.kids=1:=by
 unfold headOk at h;simp only[Lq]at h;unfold ownOk at ho;simp only[Lq]at ho;have hk:=ho.1;rcases hc with rfl|rfl
 .have e:m.kind=25:=by simpa using h.1.1
  rw[e]at hk;exact of_decide_eq_true hk
 .have e:m.kind=26:=by simpa using h.1.2
  rw[e]at hk;exact of_decide_eq_true hk
theorem spec_heads:∀(f:Fo) (pk:Int) (i p:Nat) (ops:List ByteArray),(pk=23\/pk=24)->(∀m∈f.flat,ownOk m=true)->specKids f pk i ops=true->1<=i-> ∀t∈kidsAt f p,t.n.kids=1
 |.none,pk,i,p,ops,_,_,_,_,t,h=>ju
 | .tree n k r,pk,i,p,ops,hp,ho,hs,hi,t,h=>by
   simp only[specKids,Lq]at hs;rw[kidsAt,List.mem_cons]at h;rcases h with rfl|h
   .exact head_kids hs.1 (role_two pk i hp hi) (ho n (by simp[Fo.flat]))
   .have ho':∀m∈r.flat,ownOk m=true:=fun m hm=>ho m jv
    have h2:=hs.2.2;split at h2
    .rw[Lq]at h2;exact spec_heads r pk (i+1) _ _ hp ho' h2.2 ya t h
    .exact spec_heads r pk (i+1) _ _ hp ho' h2 ya t h
theorem heads_of (k:Fo) (pk:Int) (hp:pk=23\/pk=24) (ho:∀m∈k.flat,ownOk m=true) (hs:specKids k pk 0 []=true):headsZ k:=by
 cases k with
 |none=>exact fun t h=>ju
 | tree n k r=>
   intro t h;rw[kidsAt,List.drop_succ_cons,List.drop_zero]at h;simp only[specKids,Lq]at hs;have h2:=hs.2.2;have ho':∀m∈r.flat,ownOk m=true:=fun m hm=>ho m jv
   split at h2
   .rw[Lq]at h2;exact spec_heads r pk (0+1) _ _ hp ho' h2.2 ya t h
   .exact spec_heads r pk (0+1) _ _ hp ho' h2 ya t h
theorem good_of:∀(f:Fo) (pk:Int) (i:Nat) (ops:List ByteArray),f.wf->(∀m∈f.flat,ownOk m=true)->specKids f pk i ops=true->goodF f
 |.none,_,_,_,_,_,_=>trivial
 | .tree n k r,pk,i,ops,hw,ho,hs=>by
   simp only[specKids,Lq]at hs;have hk:∀m∈k.flat,ownOk m=true:=fun m hm=>ho m jv
   have hr:∀m∈r.flat,ownOk m=true:=fun m hm=>ho m jv
   have hn:=ho n (by simp[Fo.flat]);unfold ownOk at hn;rw[Lq]at hn;refine⟨hw.1,hn.1,fun h=>heads_of k n.kind h hk hs.2.1,good_of k n.kind 0 [] hw.2.1 hk hs.2.1,?_⟩;have h2:=hs.2.2;split at h2
   .rw[Lq]at h2;exact good_of r pk (i+1) _ hw.2.2 hr h2.2
   .exact good_of r pk (i+1) _ hw.2.2 hr h2
theorem stands_of {ns:List Nd}{n:Nd}{k:Fo}(hA:SpecAns ns true) (h1:ns=n::k.flat) (h2:n.kids=k.count) (h3:k.wf):Stands ns ⟨n,k,0⟩:=by
 rcases hA with ⟨-,h⟩|⟨-,-,-,h⟩|⟨-,-,n',k',e1,e2,e3,hR⟩
 .cases h
 .cases h
 obtain⟨rfl,rfl⟩:=tree_inj h1 h2 h3 e1 e2 e3;have hR':= hR.symm;rw[Lq,Lq]at hR';obtain⟨ho,-,hs⟩:=hR';unfold specTree at hs;rw[Lq]at hs;have ho':∀m∈ns,ownOk m=true:=fun m hm=>List.all_eq_true.1 ho m hm
 have hn:=ho' n' (by rw[e1];simp);have hk:∀m∈k'.flat,ownOk m=true:=fun m hm=>ho' m (by rw[e1];simp[hm])
 unfold ownOk at hn;rw[Lq]at hn;exact⟨⟨e2,hn.1,fun h=>heads_of k' n'.kind h hk hs.2,good_of k' n'.kind 0 [] e3 hk hs.2⟩,⟨[],by rw[e1];simp⟩⟩
def Cs.rest (s:Cs):Nat:=(s.later.map (fun l=>l.t.size)).sum
def LOk (ns:List Nd) (K:Nat) (s:Cs):Prop:= ∀l∈s.later,Stands ns l.t/\(l.names.length+2*l.t.size<=K/\(l.wh=0\/l.wh=1))/\l.fr<s.o.length
structure Rs (ns:List Nd) (K c z:Nat) (s s':Cs):Prop where
 cost:s'.o.length+10*s'.rest<=s.o.length+10*s.rest+c
 rest:s'.rest<=s.rest+z
 o:s.o.length<=s'.o.length
 len:s.later.length<=s'.later.length
 ok:LOk ns K s->LOk ns K s'
 pre:∃r,s'.later=s.later++r
theorem Rs.refl (ns:List Nd) (K:Nat) (s:Cs):Rs ns K 0 0 s s:=⟨La,La,La,La,id,[],yq⟩
theorem Rs.trans {ns:List Nd}{K z c' z':Nat}{s s' s'':Cs}(h:Rs ns K c z s s') (h':Rs ns K c' z' s' s''):Rs ns K (c+c') (z+z') s s'':=
 ⟨by have:=h.cost;have:=h'.cost;omega,by have:=h.rest;have:=h'.rest;omega,Lf h.o h'.o,Lf h.len h'.len,fun x=>h'.ok (h.ok x),by
  obtain⟨r,e⟩:=h.pre;obtain⟨r',e'⟩:=h'.pre;exact⟨r++r',by rw[e',e,Lo]⟩⟩
theorem Rs.mono {ns:List Nd}{K z c' z':Nat}{s s':Cs}(h:Rs ns K c z s s') (hc:c<=c') (hz:z<=z'):Rs ns K c' z' s s':=
 ⟨by have:=h.cost;omega,by have:=h.rest;omega,h.o,h.len,h.ok,h.pre⟩
theorem Rs.put (ns:List Nd) (K:Nat) (s:Cs) (i:In):Rs ns K 1 0 s (s.put i):=by
 refine⟨?_,La,?_,La,fun h l hl=>?_,[],jw⟩
 .simp only[Cs.put,Cs.rest,Lk,List.length_singleton];omega
 .simp only[Cs.put,Lk];omega
 .obtain⟨h1,h2,h3⟩:=h l hl;refine⟨h1,h2,?_⟩;simp only[Cs.put,Lk];omega
theorem z67 (s:Cs) (fr wh:Nat):(s.lead fr wh).o.length=s.o.length:=by simp[Cs.lead]
theorem Rs.lead (ns:List Nd) (K:Nat) (s:Cs) (fr wh:Nat):Rs ns K 0 0 s (s.lead fr wh):=by
 refine⟨?_,La,by rw[z67];exact La,La,fun h l hl=>?_,[],by simp[Cs.lead]⟩
 .rw[z67];exact La
 .obtain⟨h1,h2,h3⟩:=h l hl;exact⟨h1,h2,by rw[z67];exact h3⟩
theorem Rs.wait {ns:List Nd}{K:Nat}{s:Cs}{l:Lt}(h1:Stands ns l.t) (h2:l.names.length+2*l.t.size<=K) (h3:l.fr<s.o.length) (h4:l.wh=0\/l.wh=1:=by simp):Rs ns K (10*l.t.size) l.t.size s (s.wait l):=by
 refine⟨?_,?_,La,?_,fun h l' hl=>?_,[l],rfl⟩
 .simp only[Cs.wait,Cs.rest,List.map_append,List.map_cons,List.map_nil,List.sum_append,List.sum_cons,List.sum_nil];omega
 .simp only[Cs.wait,Cs.rest,List.map_append,List.map_cons,List.map_nil,List.sum_append,List.sum_cons,List.sum_nil];omega
 .simp only[Cs.wait,Lk];omega
 .simp only[Cs.wait,List.mem_append,Ls]at hl;rcases hl with hl|rfl
  .exact h l' hl
  .exact⟨h1,⟨h2,h4⟩,h3⟩
theorem kids_of (t:Tp) (h:t.k.count=c):t.kids.length=c:=by rw[t.kids_len,h]
theorem kids1 {t:Tp}(h:t.k.count=1):t.kids= [t.kid 0]/\(t.kid 0).size+1=t.size:=by
 have hl:=kids_of t h;have hs:=t.kids_sum;unfold Tp.kid;match hk:t.kids,hl with
 |[a],_=>rw[hk]at hs;simp at hs ⊢;omega
theorem kids2 {t:Tp}(h:t.k.count=2):t.kids= [t.kid 0,t.kid 1]/\(t.kid 0).size+(t.kid 1).size+1=t.size:=by
 have hl:=kids_of t h;have hs:=t.kids_sum;unfold Tp.kid;match hk:t.kids,hl with
 |[a,b],_=>rw[hk]at hs;simp at hs ⊢;omega
theorem kids3 {t:Tp}(h:t.k.count=3):t.kids= [t.kid 0,t.kid 1,t.kid 2]/\(t.kid 0).size+(t.kid 1).size+(t.kid 2).size+1=t.size:=by
 have hl:=kids_of t h;have hs:=t.kids_sum;unfold Tp.kid;match hk:t.kids,hl with
 |[a,b,c],_=>rw[hk]at hs;simp at hs ⊢;omega
theorem kidsM {t:Tp}(h:2<=t.k.count):t.kids=t.kid 0::t.kid 1::t.kids.drop 2/\(t.kid 0).size+(t.kid 1).size+((t.kids.drop 2).map Tp.size).sum+1=t.size:=by
 have hl:=t.kids_len;have hs:=t.kids_sum;unfold Tp.kid;match hk:t.kids with
 |[]=>rw[hk]at hl;simp at hl;omega
 |[a]=>rw[hk]at hl;simp at hl;omega
 |a::b::r=>rw[hk]at hs;simp at hs ⊢;omega
theorem z69 {t:Tp}(h:Good t):arityZ t.n.kind≠ -1/\(arityZ t.n.kind= -2->2<=t.k.count/\t.k.count<=6)/\(arityZ t.n.kind≠ -2->(t.k.count:Int)=arityZ t.n.kind):=by
 have h1:=h.own;have h2:=h.kids;unfold kidsOk at h1;split at h1
 .cases h1
 .rename_i e;refine⟨e,fun e2=>?_,fun e2=>?_⟩
  .rw[if_pos e2]at h1;have:=of_decide_eq_true h1;omega
  .rw[if_neg e2]at h1;have:=of_decide_eq_true h1;omega
theorem z43 {t:Tp}(h:Good t) {k:Int}(hk:t.n.kind=k) (ha:arityZ k=(c:Int)):t.k.count=c:=by
 have h3:=(z69 h).2.2;rw[hk]at h3;have:=h3 ya;omega
theorem part1 {es:List Ef}{f:Nat}{t:Tp}{s:Cs}(h:t.n.kind=1):partZ es (f+1) t ss s=s.put ⟨1,t.n.num,0,0⟩:=by
 rw[partZ,if_pos h]
theorem part2 {es:List Ef}{f:Nat}{t:Tp}{s:Cs}(h:t.n.kind=2):partZ es (f+1) t ss s=s.put ⟨2,t.n.num,0,0⟩:=by
 rw[partZ,if_neg ya,if_pos h]
theorem part3 {es:List Ef}{f:Nat}{t:Tp}{s:Cs}(h:t.n.kind=3):partZ es (f+1) t ss s=s.put ⟨3,0,0,0⟩:=by
 rw[partZ,if_neg ya,if_neg ya,if_pos h]
theorem part4 {es:List Ef}{f:Nat}{t:Tp}{s:Cs}(h:t.n.kind=4):partZ es (f+1) t ss s=s.put ⟨4,0,0,0⟩:=by
 rw[partZ,if_neg ya,if_neg ya,if_neg ya,if_pos h]
theorem part5 {es:List Ef}{f:Nat}{t:Tp}{s:Cs}(h:t.n.kind=5):partZ es (f+1) t ss s=s.put ⟨5,idxZ ss t.n.a,0,0⟩:=by
 rw[partZ];(iterate 4 rw[if_neg ya]);rw[if_pos h]
theorem part6 {es:List Ef}{f:Nat}{t:Tp}{s:Cs}(h:t.n.kind=6):partZ es (f+1) t ss s=(s.put ⟨6,0,0,0⟩).wait ⟨t.kid 0,ss++ [t.n.a],s.o.length,0⟩:=by
 rw[partZ];(iterate 5 rw[if_neg ya]);rw[if_pos h]
theorem part8 {es:List Ef}{f:Nat}{t:Tp}{s:Cs}(h:t.n.kind=8):partZ es (f+1) t ss s=boundZ (partZ es f) (t.kid 1) (ss++ [t.n.a]) (partZ es f (t.kid 0) ss s):=by
 rw[partZ];(iterate 6 rw[if_neg ya]);rw[if_pos h]
theorem part9 {es:List Ef}{f:Nat}{t:Tp}{s:Cs}(h:t.n.kind=9):partZ es (f+1) t ss s=boundZ (partZ es f) (t.kid 1) (ss++ [t.n.a]) ((s.put ⟨7,0,0,0⟩).wait ⟨t.kid 0,ss++ [t.n.a,t.n.b],s.o.length,0⟩):=by
 rw[partZ];(iterate 7 rw[if_neg ya]);rw[if_pos h]
theorem part10 {es:List Ef}{f:Nat}{t:Tp}{s:Cs}(h:t.n.kind=10):partZ es (f+1) t ss s=ifZ (partZ es f) t ss s:=by
 rw[partZ];(iterate 8 rw[if_neg ya]);rw[if_pos h]
theorem part20 {es:List Ef}{f:Nat}{t:Tp}{s:Cs}(h:t.n.kind=20):partZ es (f+1) t ss s=caseZ (partZ es f) t ss s:=by
 rw[partZ];(iterate 9 rw[if_neg ya]);rw[if_pos h]
theorem partH {es:List Ef}{f:Nat}{t:Tp}{s:Cs}(h:t.n.kind=23\/t.n.kind=24):partZ es (f+1) t ss s=handZ es (partZ es f) t ss s:=by
 rw[partZ];(iterate 10 rw[if_neg ya]);rw[if_pos h]
theorem partK {es:List Ef}{f:Nat}{t:Tp}{s:Cs}(h1:t.n.kind≠1) (h2:t.n.kind≠2) (h3:t.n.kind≠3) (h4:t.n.kind≠4) (h5:t.n.kind≠5) (h6:t.n.kind≠6) (h8:t.n.kind≠8) (h9:t.n.kind≠9) (h10:t.n.kind≠10) (h20:t.n.kind≠20) (h23:t.n.kind≠23) (h24:t.n.kind≠24):partZ es (f+1) t ss s=(t.kids.foldl (fun s c=>partZ es f c ss s) s).put (lastZ es t.n):=by
 rw[partZ,if_neg h1,if_neg h2,if_neg h3,if_neg h4,if_neg h5,if_neg h6,if_neg h8,if_neg h9,if_neg h10,if_neg h20,if_neg ya]
section
variable {ns:List Nd}{K:Nat}{es:List Ef}
def PartR (ns:List Nd) (K:Nat) (go:Tp->List ByteArray->Cs->Cs) (F:Nat):Prop:= ∀t ss s,t.size<=F->Stands ns t->ss.length+2*t.size<=K->Rs ns K (10*t.size-1) (t.size-1) s (go t ss s)
theorem Tp.size_pos (t:Tp):1<=t.size:=by unfold Tp.size;omega
theorem bound_r {go:Tp->List ByteArray->Cs->Cs}{F:Nat}(hgo:PartR ns K go F) {t:Tp}(s:Cs) (h1:t.size<=F) (h2:Stands ns t) (h3:ss.length+2*t.size<=K):Rs ns K (10*t.size+1) (t.size-1) s (boundZ go t ss s):=
 (((Rs.put ns K s _).trans (hgo t ss _ h1 h2 h3)).trans (Rs.put ns K _ _)).mono (by have:=t.size_pos;omega) ya
theorem kids_r {go:Tp->List ByteArray->Cs->Cs}{F:Nat}(hgo:PartR ns K go F) {ss:List ByteArray}:∀(l:List Tp) (s:Cs),(∀c∈l,c.size<=F/\Stands ns c/\ss.length+2*c.size<=K)->Rs ns K (10*(l.map Tp.size).sum) ((l.map Tp.size).sum) s (l.foldl (fun s c=>go c ss s) s)
 |[],s,_=>Rs.refl _ _ _
 | c::l,s,h=>by
   have hc:=h c List.mem_cons_self;refine((hgo c ss s hc.1 hc.2.1 hc.2.2).trans (kids_r hgo l _ (fun x hx=>h x (List.mem_cons_of_mem _ hx)))).mono ?_ ?_
   .simp only[List.map_cons,List.sum_cons];omega
   .simp only[List.map_cons,List.sum_cons];omega
theorem op_r (s:Cs) (c:Tp) (h1:c.k.count=1) (h2:Stands ns c) (h3:ss.length+2*c.size<=K):Rs ns K (10*c.size) (c.size-1) s (opZ es ss s c):=by
 obtain⟨-,e⟩:=kids1 h1;refine((Rs.put ns K s _).trans (Rs.wait (l:=⟨c.kid 0,ss++ [c.n.b,c.n.c],s.o.length,1⟩) (h2.kid ya) ?_ ?_)).mono ?_ ?_
 .simp only[Lk,Ll,Lm];omega
 .simp[Cs.put]
 .show 1+10*(c.kid 0).size<=_;omega
 .show 0+(c.kid 0).size<=_;omega
theorem ops_r {ss:List ByteArray}:∀(l:List Tp) (s:Cs),(∀c∈l,c.k.count=1/\Stands ns c/\ss.length+2*c.size<=K)->Rs ns K (10*(l.map Tp.size).sum) ((l.map Tp.size).sum) s (l.foldl (opZ es ss) s)
 |[],s,_=>Rs.refl _ _ _
 | c::l,s,h=>by
   have hc:=h c List.mem_cons_self;refine((op_r s c hc.1 hc.2.1 hc.2.2).trans (ops_r l _ (fun x hx=>h x (List.mem_cons_of_mem _ hx)))).mono ?_ ?_
   .simp only[List.map_cons,List.sum_cons];omega
   .simp only[List.map_cons,List.sum_cons];omega
theorem sum_mem (l:List Tp) (c:Tp) (h:c∈l):c.size<=(l.map Tp.size).sum:=by
 induction l with
 |nil=>simp at h
 | cons a l ih=>
   simp only[List.map_cons,List.sum_cons];rw[List.mem_cons]at h;rcases h with rfl|h
   .omega
   .have:=ih h;omega
theorem part_r:∀F,PartR ns K (partZ es F) F:=by
 intro F;induction F with
 |zero=>intro t ss s h;have:=t.size_pos;omega
 | succ F ih=>
   intro t ss s hF hs hK;have hg:=hs.toGood;have hp:=t.size_pos;have one:∀i,Rs ns K (10*t.size-1) (t.size-1) s (s.put i):=fun i=>(Rs.put ns K s i).mono ya ya
   by_cases e:t.n.kind=1
   .rw[part1 e];exact one _
   have n1:=e;clear e;by_cases e:t.n.kind=2
   .rw[part2 e];exact one _
   have n2:=e;clear e;by_cases e:t.n.kind=3
   .rw[part3 e];exact one _
   have n3:=e;clear e;by_cases e:t.n.kind=4
   .rw[part4 e];exact one _
   have n4:=e;clear e;by_cases e:t.n.kind=5
   .rw[part5 e];exact one _
   have n5:=e;clear e;by_cases e:t.n.kind=6
   .rw[part6 e];obtain⟨-,e1⟩:=kids1 (z43 hg e (c:=1) rfl);refine((Rs.put ns K s _).trans (Rs.wait (l:=⟨t.kid 0,ss++ [t.n.a],s.o.length,0⟩) (hs.kid (by rw[z43 hg e (c:=1) rfl];omega)) ?_ ?_)).mono ?_ ?_
    .simp only[Lk,Ll,Lm];omega
    .simp[Cs.put]
    .show 1+10*(t.kid 0).size<=_;omega
    .show 0+(t.kid 0).size<=_;omega
   have n6:=e;clear e;by_cases e:t.n.kind=8
   .rw[part8 e];have hc:=z43 hg e (c:=2) rfl;obtain⟨-,e1⟩:=kids2 hc;have p0:=(t.kid 0).size_pos;have p1:=(t.kid 1).size_pos;refine((ih (t.kid 0) ss s ya (hs.kid ya) ya).trans (bound_r ih _ ya (hs.kid ya) ?_)).mono ya ya;simp only[Lk,Ll,Lm];omega
   have n8:=e;clear e;by_cases e:t.n.kind=9
   .rw[part9 e];have hc:=z43 hg e (c:=2) rfl;obtain⟨-,e1⟩:=kids2 hc;have p0:=(t.kid 0).size_pos;have p1:=(t.kid 1).size_pos;refine(((Rs.put ns K s _).trans (Rs.wait (l:=⟨t.kid 0,ss++ [t.n.a,t.n.b],s.o.length,0⟩) (hs.kid ya) ?_ ?_)).trans (bound_r ih _ ya (hs.kid ya) ?_)).mono ?_ ?_
    .simp only[Lk,Ll,Lm];omega
    .simp[Cs.put]
    .simp only[Lk,Ll,Lm];omega
    .show 1+10*(t.kid 0).size+_<=_;omega
    .show 0+(t.kid 0).size+_<=_;omega
   have n9:=e;clear e;by_cases e:t.n.kind=10
   .rw[part10 e];have hc:=z43 hg e (c:=3) rfl;obtain⟨-,e1⟩:=kids3 hc;have p0:=(t.kid 0).size_pos;have p1:=(t.kid 1).size_pos;have p2:=(t.kid 2).size_pos;unfold ifZ;exact((((((ih (t.kid 0) ss s ya (hs.kid ya) ya).trans (Rs.put ns K _ _)).trans (ih (t.kid 1) ss _ ya (hs.kid ya) ya)).trans (Rs.put ns K _ _)).trans (Rs.lead ns K _ _ _)).trans ((ih (t.kid 2) ss _ ya (hs.kid ya) ya).trans (Rs.lead ns K _ _ _))).mono ya ya
   have n10:=e;clear e;by_cases e:t.n.kind=20
   .rw[part20 e];have hc:=z43 hg e (c:=3) rfl;obtain⟨-,e1⟩:=kids3 hc;have p0:=(t.kid 0).size_pos;have p1:=(t.kid 1).size_pos;have p2:=(t.kid 2).size_pos;have h3:(ss++ [t.n.a,t.n.b]).length+2*(t.kid 2).size<=K:=jx;unfold caseZ;exact((((((((ih (t.kid 0) ss s ya (hs.kid ya) ya).trans (Rs.put ns K _ _)).trans (ih (t.kid 2) (ss++ [t.n.a,t.n.b]) _ ya (hs.kid ya) h3)).trans (Rs.put ns K _ _)).trans (Rs.put ns K _ _)).trans (Rs.put ns K _ _)).trans (Rs.lead ns K _ _ _)).trans ((ih (t.kid 1) ss _ ya (hs.kid ya) ya).trans (Rs.lead ns K _ _ _))).mono ya ya
   have n20:=e;clear e;by_cases e:t.n.kind=23\/t.n.kind=24
   ·rw [partH e];have hc:2<=t.k.count:=by
     have:=(z69 hg).2.1 jy;exact this.1
    obtain⟨e0,e1⟩:=kidsM hc;have hh:=hs.head e;have hh1:(t.kid 1).k.count=1:=(hh (t.kid 1) (by rw[e0];simp)).2;obtain⟨-,e2⟩:=kids1 hh1;have p0:=(t.kid 0).size_pos;have p1:=(t.kid 1).size_pos;have r1:Rs ns K (10*(t.kid 0).size+1) ((t.kid 0).size) s (handA (partZ es F) t ss s):=by
     unfold handA;exact((((Rs.put ns K s _).trans (ih (t.kid 0) ss _ ya (hs.kid ya) ya)).trans (Rs.put ns K _ _)).trans (Rs.lead ns K _ _ _)).mono ya ya
    have r2:Rs ns K (10*(t.kid 1).size) ((t.kid 1).size) (handA (partZ es F) t ss s) (handB t ss (handA (partZ es F) t ss s)):=by
     unfold handB;refine((Rs.put ns K _ _).trans (Rs.wait (l:=⟨(t.kid 1).kid 0,ss++ [(t.kid 1).n.a],(handA (partZ es F) t ss s).o.length,0⟩) ((hs.kid ya).kid ya) ?_ ?_)).mono ?_ ?_
     .simp only[Lk,Ll,Lm];omega
     .simp[Cs.put]
     .show 1+10*((t.kid 1).kid 0).size<=_;omega
     .show 0+((t.kid 1).kid 0).size<=_;omega
    have r3:Rs ns K _ _ _ ((t.kids.drop 2).foldl (opZ es ss) (handB t ss (handA (partZ es F) t ss s))):=ops_r (ns:=ns) (K:=K) (t.kids.drop 2) _ (fun c hc=>by
     have h4:=sum_mem _ c hc;refine⟨(hh c ?_).2,hs.kids_mem c (List.mem_of_mem_drop hc),ya⟩;rw[show(2:Nat)=1+1 from rfl,<-List.drop_drop]at hc;exact List.mem_of_mem_drop hc)
    unfold handZ;exact(((r1.trans r2).trans r3).trans (Rs.lead ns K _ _ _)).mono ya ya
   .rw[partK n1 n2 n3 n4 n5 n6 n8 n9 n10 n20 (fun h=>e (Or.inl h)) (fun h=>e (Or.inr h))];have e1:=t.kids_sum;refine((kids_r ih t.kids s (fun c hc=>?_)).trans (Rs.put ns K _ _)).mono ya ya;have h4:=sum_mem _ c hc;exact⟨ya,hs.kids_mem c hc,ya⟩
end
end
section
open Go.RowKit
abbrev Sco:=List (ByteArray×ByteArray)
def findS:Sco->ByteArray->Option ByteArray
 |[],_=>none
 |(x,y)::r,s=>if x=s then some y else findS r s
def knownZ (n:Nd) (i:Nat):List ByteArray:=
 if n.kind=6\/n.kind=25 then [n.a]
 else if (n.kind=8/\i=1)\/(n.kind=9/\i=1) then [n.a]
 else if n.kind=9\/(n.kind=20/\i=2) then [n.a,n.b]
 else if n.kind=26 then [n.b,n.c]
 else []
theorem knownZ_len (n:Nd) (i:Nat):(knownZ n i).length<=2:=by
 unfold knownZ;repeat' split
 all_goals simp
theorem knownZ_same {n:Nd}(h:n.kind=m.kind) (i:Nat):(knownZ n i).length=(knownZ m i).length:=by
 unfold knownZ;rw[h];repeat' split
 all_goals rfl
def freshZ (m:Nat):ByteArray:=⟨(118::Lib.itoa (m:Int)).toArray⟩
def makesZ (k:Int):Nat:=if k=6\/k=8\/k=25 then 1 else if k=9\/k=20\/k=26 then 2 else 0
def renZ (n:Nd) (sc:Sco) (made:Nat):Nd:=
 if n.kind=5 then { n with a:=(findS sc n.a).getD ⟨#[]⟩ }
 else if n.kind=6\/n.kind=8\/n.kind=25 then { n with a:=freshZ made }
 else if n.kind=9\/n.kind=20 then { n with a:=freshZ made,b:=freshZ (made+1) }
 else if n.kind=26 then { n with b:=freshZ made,c:=freshZ (made+1) }
 else n
theorem renZ_kind (n:Nd) (sc:Sco) (made:Nat):(renZ n sc made).kind=n.kind:=by
 unfold renZ;repeat' split
 all_goals rfl
def lostZ (n:Nd) (sc:Sco):List ByteArray:=if n.kind=5/\findS sc n.a=none then [n.a] else []
structure Wst where
 plain:List Nd
 free:List ByteArray
 made:Nat
def stepW (n:Nd) (sc:Sco) (s:Wst):Wst:=⟨s.plain++ [renZ n sc s.made],s.free++lostZ n sc,s.made+makesZ n.kind⟩
def openS (old new:Nd) (i:Nat) (sc:Sco):Sco:=((knownZ old i).zip (knownZ new i)).foldl (fun s p=>p::s) sc
def kidsW (old new:Nd):Nat->Fo->Sco->Wst->Wst
 |_,.none,_,s=>s
 | i,.tree n k r,sc,s=>
   kidsW old new (i+1) r sc (kidsW n (renZ n (openS old new i sc) s.made) 0 k (openS old new i sc) (stepW n (openS old new i sc) s))
def walkW (n:Nd) (k:Fo) (sc:Sco) (s:Wst):Wst:=kidsW n (renZ n sc s.made) 0 k sc (stepW n sc s)
theorem kidsW_plain (old new:Nd):∀(f:Fo) (i:Nat) (sc:Sco) (s:Wst),(kidsW old new i f sc s).plain.length=s.plain.length+f.flat.length/\(kidsW old new i f sc s).free.length<=s.free.length+f.flat.length/\(kidsW old new i f sc s).made<=s.made+2*f.flat.length:=by
 intro f;induction f generalizing old new with
 | none=>
   intro i sc s;simp[kidsW,Fo.flat]
 | tree n k r ihk ihr=>
   intro i sc s;have h1:=ihk n (renZ n (openS old new i sc) s.made) 0 (openS old new i sc) (stepW n (openS old new i sc) s);have h2:=ihr old new (i+1) sc (kidsW n (renZ n (openS old new i sc) s.made) 0 k (openS old new i sc) (stepW n (openS old new i sc) s));have hm:makesZ n.kind<=2:=by
    unfold makesZ;repeat' split
    all_goals omega
   have hf:(lostZ n (openS old new i sc)).length<=1:=by
    unfold lostZ;split<;>simp
   have hs1:(stepW n (openS old new i sc) s).plain.length=s.plain.length+1:=by simp[stepW]
   have hs2:(stepW n (openS old new i sc) s).free.length<=s.free.length+1:=jz;have hs3:(stepW n (openS old new i sc) s).made<=s.made+2:=by simp only[stepW];omega
   simp only[kidsW,Fo.flat,Ll,Lk];omega
end
section
open Go.RowKit Go.Deep
def ndV (n:Nd):Value:=.agg #[int i64 n.kind,int i64 n.num,.string n.a,.string n.b,.string n.c,int i64 n.kids]
def plainZ (n:Nd):Nd:=
 ⟨n.kind,if n.kind=1\/n.kind=2 then n.num else 0,if 1<=namesZ n.kind then n.a else ⟨#[]⟩,if 2<=namesZ n.kind then n.b else ⟨#[]⟩,if 3<=namesZ n.kind then n.c else ⟨#[]⟩,0⟩
def NodePost (m:Nd) (w:World) (e:Ending) (w':World):Prop:=e=.returned (ndV m)/\Below w.heap.size w w'
def NodeOf (w:World) (v:Value) (m:Nd):Prop:=
 ∃T pv g rv,v=.iface T pv/\(∀w,(method 424 T pv "loop.example/handrail/impl.node").run prog w=.ok (g,rv) w)/\(∀args w,(callFunc g args).run prog w=.ok (.enter g args) w)/\Calls prog g #[rv] w (NodePost m w)
theorem node_int (num:Int) (w:World):Calls prog 235 #[.agg #[int i64 num]] w (NodePost ⟨1,num,⟨#[]⟩,⟨#[]⟩,⟨#[]⟩,0⟩ w):=by
 go_enter func235,ntmps235
 go_wp2_with fail
 refine bodyPost_ret (v:=ndV ⟨1,num,⟨#[]⟩,⟨#[]⟩,⟨#[]⟩,0⟩) (by simp[results,results235,go_sem,ndV]) rfl ?_;exact⟨rfl,by repeat(first|exact Lb|refine Below.alloc ?_ jb _)⟩
theorem node_bool (num:Int) (w:World):Calls prog 237 #[.agg #[int i64 num]] w (NodePost ⟨2,num,⟨#[]⟩,⟨#[]⟩,⟨#[]⟩,0⟩ w):=by
 go_enter func237,ntmps237
 go_wp2_with fail
 refine bodyPost_ret (v:=ndV ⟨2,num,⟨#[]⟩,⟨#[]⟩,⟨#[]⟩,0⟩) (by simp[results,results237,go_sem,ndV]) rfl ?_;exact⟨rfl,by repeat(first|exact Lb|refine Below.alloc ?_ jb _)⟩
theorem node_unit (w:World):Calls prog 239 #[.agg #[]] w (NodePost ⟨3,0,⟨#[]⟩,⟨#[]⟩,⟨#[]⟩,0⟩ w):=by
 go_enter func239,ntmps239
 go_wp2_with fail
 refine bodyPost_ret (v:=ndV ⟨3,0,⟨#[]⟩,⟨#[]⟩,⟨#[]⟩,0⟩) (by simp[results,results239,go_sem,ndV]) rfl ?_;exact⟨rfl,by repeat(first|exact Lb|refine Below.alloc ?_ jb _)⟩
theorem node_nil (w:World):Calls prog 241 #[.agg #[]] w (NodePost ⟨4,0,⟨#[]⟩,⟨#[]⟩,⟨#[]⟩,0⟩ w):=by
 go_enter func241,ntmps241
 go_wp2_with fail
 refine bodyPost_ret (v:=ndV ⟨4,0,⟨#[]⟩,⟨#[]⟩,⟨#[]⟩,0⟩) (by simp[results,results241,go_sem,ndV]) rfl ?_;exact⟨rfl,by repeat(first|exact Lb|refine Below.alloc ?_ jb _)⟩
theorem node_var (a:ByteArray) (w:World):Calls prog 203 #[.agg #[.string a]] w (NodePost ⟨5,0,a,⟨#[]⟩,⟨#[]⟩,0⟩ w):=by
 go_enter func203,ntmps203
 go_wp2_with fail
 refine bodyPost_ret (v:=ndV ⟨5,0,a,⟨#[]⟩,⟨#[]⟩,0⟩) (by simp[results,results203,go_sem,ndV]) rfl ?_;exact⟨rfl,by repeat(first|exact Lb|refine Below.alloc ?_ jb _)⟩
theorem node_fn (a:ByteArray) (T0:TypeId) (p0:Value) (w:World):Calls prog 207 #[.agg #[.string a,.iface T0 p0]] w (NodePost ⟨6,0,a,⟨#[]⟩,⟨#[]⟩,0⟩ w):=by
 go_enter func207,ntmps207
 go_wp2_with fail
 refine bodyPost_ret (v:=ndV ⟨6,0,a,⟨#[]⟩,⟨#[]⟩,0⟩) (by simp[results,results207,go_sem,ndV]) rfl ?_;exact⟨rfl,by repeat(first|exact Lb|refine Below.alloc ?_ jb _)⟩
theorem node_app (T0 T1:TypeId) (p0 p1:Value) (w:World):Calls prog 245 #[.agg #[.iface T0 p0,.iface T1 p1]] w (NodePost ⟨7,0,⟨#[]⟩,⟨#[]⟩,⟨#[]⟩,0⟩ w):=by
 go_enter func245,ntmps245
 go_wp2_with fail
 refine bodyPost_ret (v:=ndV ⟨7,0,⟨#[]⟩,⟨#[]⟩,⟨#[]⟩,0⟩) (by simp[results,results245,go_sem,ndV]) rfl ?_;exact⟨rfl,by repeat(first|exact Lb|refine Below.alloc ?_ jb _)⟩
theorem node_bind (a:ByteArray) (T0 T1:TypeId) (p0 p1:Value) (w:World):Calls prog 213 #[.agg #[.string a,.iface T0 p0,.iface T1 p1]] w (NodePost ⟨8,0,a,⟨#[]⟩,⟨#[]⟩,0⟩ w):=by
 go_enter func213,ntmps213
 go_wp2_with fail
 refine bodyPost_ret (v:=ndV ⟨8,0,a,⟨#[]⟩,⟨#[]⟩,0⟩) (by simp[results,results213,go_sem,ndV]) rfl ?_;exact⟨rfl,by repeat(first|exact Lb|refine Below.alloc ?_ jb _)⟩
theorem node_recur (a b:ByteArray) (T0 T1:TypeId) (p0 p1:Value) (w:World):Calls prog 210 #[.agg #[.string a,.string b,.iface T0 p0,.iface T1 p1]] w (NodePost ⟨9,0,a,b,⟨#[]⟩,0⟩ w):=by
 go_enter func210,ntmps210
 go_wp2_with fail
 refine bodyPost_ret (v:=ndV ⟨9,0,a,b,⟨#[]⟩,0⟩) (by simp[results,results210,go_sem,ndV]) rfl ?_;exact⟨rfl,by repeat(first|exact Lb|refine Below.alloc ?_ jb _)⟩
theorem node_cond (T0 T1 T2:TypeId) (p0 p1 p2:Value) (w:World):Calls prog 216 #[.agg #[.iface T0 p0,.iface T1 p1,.iface T2 p2]] w (NodePost ⟨10,0,⟨#[]⟩,⟨#[]⟩,⟨#[]⟩,0⟩ w):=by
 go_enter func216,ntmps216
 go_wp2_with fail
 refine bodyPost_ret (v:=ndV ⟨10,0,⟨#[]⟩,⟨#[]⟩,⟨#[]⟩,0⟩) (by simp[results,results216,go_sem,ndV]) rfl ?_;exact⟨rfl,by repeat(first|exact Lb|refine Below.alloc ?_ jb _)⟩
theorem node_sign (k:Int) (T0 T1:TypeId) (p0 p1:Value) (w:World):Calls prog 265 #[.agg #[int i64 k,.iface T0 p0,.iface T1 p1]] w (NodePost ⟨k,0,⟨#[]⟩,⟨#[]⟩,⟨#[]⟩,0⟩ w):=by
 go_enter func265,ntmps265
 go_wp2_with fail
 refine bodyPost_ret (v:=ndV ⟨k,0,⟨#[]⟩,⟨#[]⟩,⟨#[]⟩,0⟩) (by simp[results,results265,go_sem,ndV]) rfl ?_;exact⟨rfl,by repeat(first|exact Lb|refine Below.alloc ?_ jb _)⟩
theorem node_pair (T0 T1:TypeId) (p0 p1:Value) (w:World):Calls prog 249 #[.agg #[.iface T0 p0,.iface T1 p1]] w (NodePost ⟨16,0,⟨#[]⟩,⟨#[]⟩,⟨#[]⟩,0⟩ w):=by
 go_enter func249,ntmps249
 go_wp2_with fail
 refine bodyPost_ret (v:=ndV ⟨16,0,⟨#[]⟩,⟨#[]⟩,⟨#[]⟩,0⟩) (by simp[results,results249,go_sem,ndV]) rfl ?_;exact⟨rfl,by repeat(first|exact Lb|refine Below.alloc ?_ jb _)⟩
theorem node_take (k:Int) (T0:TypeId) (p0:Value) (w:World):Calls prog 253 #[.agg #[int i64 k,.iface T0 p0]] w (NodePost ⟨k,0,⟨#[]⟩,⟨#[]⟩,⟨#[]⟩,0⟩ w):=by
 go_enter func253,ntmps253
 go_wp2_with fail
 refine bodyPost_ret (v:=ndV ⟨k,0,⟨#[]⟩,⟨#[]⟩,⟨#[]⟩,0⟩) (by simp[results,results253,go_sem,ndV]) rfl ?_;exact⟨rfl,by repeat(first|exact Lb|refine Below.alloc ?_ jb _)⟩
theorem node_cons (T0 T1:TypeId) (p0 p1:Value) (w:World):Calls prog 257 #[.agg #[.iface T0 p0,.iface T1 p1]] w (NodePost ⟨19,0,⟨#[]⟩,⟨#[]⟩,⟨#[]⟩,0⟩ w):=by
 go_enter func257,ntmps257
 go_wp2_with fail
 refine bodyPost_ret (v:=ndV ⟨19,0,⟨#[]⟩,⟨#[]⟩,⟨#[]⟩,0⟩) (by simp[results,results257,go_sem,ndV]) rfl ?_;exact⟨rfl,by repeat(first|exact Lb|refine Below.alloc ?_ jb _)⟩
theorem node_case (a b:ByteArray) (T0 T1 T2:TypeId) (p0 p1 p2:Value) (w:World):Calls prog 219 #[.agg #[.iface T0 p0,.iface T1 p1,.string a,.string b,.iface T2 p2]] w (NodePost ⟨20,0,a,b,⟨#[]⟩,0⟩ w):=by
 go_enter func219,ntmps219
 go_wp2_with fail
 refine bodyPost_ret (v:=ndV ⟨20,0,a,b,⟨#[]⟩,0⟩) (by simp[results,results219,go_sem,ndV]) rfl ?_;exact⟨rfl,by repeat(first|exact Lb|refine Below.alloc ?_ jb _)⟩
theorem node_perform (a:ByteArray) (T0:TypeId) (p0:Value) (w:World):Calls prog 261 #[.agg #[.string a,.iface T0 p0]] w (NodePost ⟨22,0,a,⟨#[]⟩,⟨#[]⟩,0⟩ w):=by
 go_enter func261,ntmps261
 go_wp2_with fail
 refine bodyPost_ret (v:=ndV ⟨22,0,a,⟨#[]⟩,⟨#[]⟩,0⟩) (by simp[results,results261,go_sem,ndV]) rfl ?_;exact⟨rfl,by repeat(first|exact Lb|refine Below.alloc ?_ jb _)⟩
theorem node_handler (k:Int) (T0:TypeId) (p0:Value) (ad:Option Addr) (sn sc:Nat) (w:World):Calls prog 223 #[.agg #[int i64 k,.iface T0 p0,.slice ad sn sc]] w (NodePost ⟨k,0,⟨#[]⟩,⟨#[]⟩,⟨#[]⟩,0⟩ w):=by
 go_enter func223,ntmps223
 go_wp2_with fail
 refine bodyPost_ret (v:=ndV ⟨k,0,⟨#[]⟩,⟨#[]⟩,⟨#[]⟩,0⟩) (by simp[results,results223,go_sem,ndV]) rfl ?_;exact⟨rfl,by repeat(first|exact Lb|refine Below.alloc ?_ jb _)⟩
theorem node_ret (a:ByteArray) (T0:TypeId) (p0:Value) (w:World):Calls prog 230 #[.agg #[.string a,.iface T0 p0]] w (NodePost ⟨25,0,a,⟨#[]⟩,⟨#[]⟩,0⟩ w):=by
 go_enter func230,ntmps230
 go_wp2_with fail
 refine bodyPost_ret (v:=ndV ⟨25,0,a,⟨#[]⟩,⟨#[]⟩,0⟩) (by simp[results,results230,go_sem,ndV]) rfl ?_;exact⟨rfl,by repeat(first|exact Lb|refine Below.alloc ?_ jb _)⟩
theorem node_op (a b c:ByteArray) (T0:TypeId) (p0:Value) (w:World):Calls prog 233 #[.agg #[.string a,.string b,.string c,.iface T0 p0]] w (NodePost ⟨26,0,a,b,c,0⟩ w):=by
 go_enter func233,ntmps233
 go_wp2_with fail
 refine bodyPost_ret (v:=ndV ⟨26,0,a,b,c,0⟩) (by simp[results,results233,go_sem,ndV]) rfl ?_;exact⟨rfl,by repeat(first|exact Lb|refine Below.alloc ?_ jb _)⟩
theorem z48 {w:World}{m':Nd}(T:TypeId) (pv:Value) (g:FuncId) (hv:v=.iface T pv) (hm:∀w,(method 424 T pv "loop.example/handrail/impl.node").run prog w=.ok (g,pv) w)
 (hc:∀args w,(callFunc g args).run prog w=.ok (.enter g args) w) (he:m'= m) (hK:Calls prog g #[pv] w (NodePost m w)):NodeOf w v m':= by
 subst he;exact⟨T,pv,g,pv,hv,hm,hc,hK⟩
theorem nodeOf {w:World}{n:Nd}{us:List Value}(h:Shape B w n us v) (hi:∀u∈us,∃T p,u=.iface T p):NodeOf w v (plainZ n):=by
 cases h with
 | int=>
   exact z48 _ _ 235 rfl (fun w=>ye) (fun args w=>ye) rfl (node_int _ w)
 | bool=>
   exact z48 _ _ 237 rfl (fun w=>ye) (fun args w=>ye) rfl (node_bool _ w)
 | unit=>
   exact z48 _ _ 239 rfl (fun w=>ye) (fun args w=>ye) rfl (node_unit w)
 | nil=>
   exact z48 _ _ 241 rfl (fun w=>ye) (fun args w=>ye) rfl (node_nil w)
 | var=>
   exact z48 _ _ 203 rfl (fun w=>ye) (fun args w=>ye) rfl (node_var _ w)
 | fn=>
   obtain⟨T0,p0,rfl⟩:=hi _ (Lh (i:=0) rfl);exact z48 _ _ 207 rfl (fun w=>ye) (fun args w=>ye) rfl (node_fn _ _ _ w)
 | app=>
   obtain⟨T0,p0,rfl⟩:=hi _ (Lh (i:=0) rfl);obtain⟨T1,p1,rfl⟩:=hi _ (Lh (i:=1) rfl);exact z48 _ _ 245 rfl (fun w=>ye) (fun args w=>ye) rfl (node_app _ _ _ _ w)
 | bind=>
   obtain⟨T0,p0,rfl⟩:=hi _ (Lh (i:=0) rfl);obtain⟨T1,p1,rfl⟩:=hi _ (Lh (i:=1) rfl);exact z48 _ _ 213 rfl (fun w=>ye) (fun args w=>ye) rfl (node_bind _ _ _ _ _ w)
 | recur=>
   obtain⟨T0,p0,rfl⟩:=hi _ (Lh (i:=0) rfl);obtain⟨T1,p1,rfl⟩:=hi _ (Lh (i:=1) rfl);exact z48 _ _ 210 rfl (fun w=>ye) (fun args w=>ye) rfl (node_recur _ _ _ _ _ _ w)
 | cond=>
   obtain⟨T0,p0,rfl⟩:=hi _ (Lh (i:=0) rfl);obtain⟨T1,p1,rfl⟩:=hi _ (Lh (i:=1) rfl);obtain⟨T2,p2,rfl⟩:=hi _ (Lh (i:=2) rfl);exact z48 _ _ 216 rfl (fun w=>ye) (fun args w=>ye) rfl (node_cond _ _ _ _ _ _ w)
 | sign h=>
   obtain⟨T0,p0,rfl⟩:=hi _ (Lh (i:=0) rfl);obtain⟨T1,p1,rfl⟩:=hi _ (Lh (i:=1) rfl);exact z48 _ _ 265 rfl (fun w=>ye) (fun args w=>ye) (by rcases h with rfl|rfl|rfl|rfl|rfl<;>rfl) (node_sign _ _ _ _ _ w)
 | pair=>
   obtain⟨T0,p0,rfl⟩:=hi _ (Lh (i:=0) rfl);obtain⟨T1,p1,rfl⟩:=hi _ (Lh (i:=1) rfl);exact z48 _ _ 249 rfl (fun w=>ye) (fun args w=>ye) rfl (node_pair _ _ _ _ w)
 | take h=>
   obtain⟨T0,p0,rfl⟩:=hi _ (Lh (i:=0) rfl);exact z48 _ _ 253 rfl (fun w=>ye) (fun args w=>ye) (by rcases h with rfl|rfl|rfl<;>rfl) (node_take _ _ _ w)
 | cons=>
   obtain⟨T0,p0,rfl⟩:=hi _ (Lh (i:=0) rfl);obtain⟨T1,p1,rfl⟩:=hi _ (Lh (i:=1) rfl);exact z48 _ _ 257 rfl (fun w=>ye) (fun args w=>ye) rfl (node_cons _ _ _ _ w)
 | case=>
   obtain⟨T0,p0,rfl⟩:=hi _ (Lh (i:=0) rfl);obtain⟨T1,p1,rfl⟩:=hi _ (Lh (i:=1) rfl);obtain⟨T2,p2,rfl⟩:=hi _ (Lh (i:=2) rfl);exact z48 _ _ 219 rfl (fun w=>ye) (fun args w=>ye) rfl (node_case _ _ _ _ _ _ _ _ w)
 | perform=>
   obtain⟨T0,p0,rfl⟩:=hi _ (Lh (i:=0) rfl);exact z48 _ _ 261 rfl (fun w=>ye) (fun args w=>ye) rfl (node_perform _ _ _ w)
 | handler h hs hl=>
   obtain⟨T0,p0,rfl⟩:=hi _ (Lh (i:=0) rfl);obtain⟨g0,o0,c0,rfl,-⟩:=hs;exact z48 _ _ 223 rfl (fun w=>ye) (fun args w=>ye) (by rcases h with rfl|rfl<;>rfl) (node_handler _ _ _ _ _ _ w)
 | ret=>
   obtain⟨T0,p0,rfl⟩:=hi _ (Lh (i:=0) rfl);exact z48 _ _ 230 rfl (fun w=>ye) (fun args w=>ye) rfl (node_ret _ _ _ w)
 | op=>
   obtain⟨T0,p0,rfl⟩:=hi _ (Lh (i:=0) rfl);exact z48 _ _ 233 rfl (fun w=>ye) (fun args w=>ye) rfl (node_op _ _ _ _ _ w)
end
end Go.Proofs.YtbbffkiobmbkfaaGreatDoor
