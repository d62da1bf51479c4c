import Derived.Test.YtfbojelpdccjaaaGreatDoorPkT3
import Derived.Lib.ItoaLen
open Go.Proofs.Tryz
set_option maxHeartbeats 1000000
set_option maxRecDepth 100000
namespace Go.Proofs.YtfbojelpdccjaaaGreatDoor
open Go.RowKit Go.Deep
variable {c i:Nat}{F:Nat->Value}
section
open Go.RowKit Go.Deep
def effIn (es:List Ef) (s:ByteArray):Bool:=es.any (fun e=>e.name.toList==s.toList)
def effPlace:List Ef->ByteArray->Nat->Int
 |[],_,_=> -1
 |e::r,s,i=>if (e.name.toList==s.toList)=true then i else effPlace r s (i+1)
theorem effPlace_lt:∀(es:List Ef) (s:ByteArray) (i:Nat),effPlace es s i<0↔effIn es s=false
 |[],s,i=>by simp[effPlace,effIn]
 | e::r,s,i=>by
   have ih:=effPlace_lt r s (i+1);unfold effPlace;simp only[effIn,List.any_cons] at*;split
   .rename_i h;rw[h];simp
   .rename_i h;have h':(e.name.toList==s.toList)=false:=zn;rw[h',Bool.false_or];exact ih
theorem effs_drop {es:List Ef}(hi:i<es.length):es.drop i=es.getD i default::es.drop (i+1):=by
 rw[List.drop_eq_getElem_cons hi];simp[List.getD,List.getElem?_eq_getElem hi]
theorem l2Eff_calls (a0:Option Addr) (cap:Nat) (es:List Ef) (s:ByteArray) (w:World) (hm:es.length<=1000000) (hn:es≠ []-> ∃b off,a0=some ⟨b,off,none⟩/\EffsAt w b off es) :
 Calls prog 25 #[.slice a0 es.length cap,.string s] w fun e w'=> e=.returned (.int .i64 (effPlace es s 0))/\w=w':= by
 obtain⟨len,hlen⟩:∃len,es.length=len:=⟨_,rfl⟩
 have Hlen:I (es.length=len):=hlen;have HM:I (len<=1000000):=je;obtain⟨R,hR⟩:∃R,effPlace es s 0=R:=⟨_,rfl⟩
 have HR:I (effPlace es s 0=R):=hR;have HN:I (es≠ []-> ∃b off,a0=some ⟨b,off,none⟩/\EffsAt w b off es):=hn;rw[hlen,hR];clear hlen hR hm hn;go_enter func25,ntmps25
 go_wp2_with fail
 go_loop [5] (fun i=> ∃k:Nat,i=.int .i64 k/\k<=len/\I (effPlace (es.drop k) s k=R)) (fun i=>len-(intOf i).toNat)
 case atStart=>exact⟨0,rfl,Li _,HR.o⟩
 case round=>
  obtain⟨k,rfl,hle,HT⟩:=hrel;by_cases hlt:(k:Int)<(len:Int)
  .have hil:k<es.length:=by rw[Hlen.o];omega
   obtain⟨b,off,rfl,hE⟩:=HN.o (fun h=>by rw[h]at hil;cases hil);have c0:=hE k hil 0 yf;have hT:=HT.o;rw[effs_drop hil]at hT;obtain⟨n,hnd⟩:∃n,es.getD k default=n:=⟨_,rfl⟩
   rw[hnd]at c0 hT;simp only[Ef.cell,Nat.add_zero]at c0;clear HT HN hil hE hnd
   cases he:(n.name.toList==s.toList) with
   | true=>
     simp only[effPlace,he,if_true]at hT;have HT2:I ((k:Int)=R):=hT;clear hT;go_wp2_with fail
     go_ret;exact⟨jj,rfl⟩
   | false=>
     have HT2:I (effPlace (es.drop (k+1)) s (k+1)=R):=by
      show _=_;rw[<-hT,effPlace,he];simp
     clear hT;refine zb83 ?_;intro hs;exact⟨⟨k+1,rfl,yf,HT2⟩,hs⟩
  .have hT:=HT.o;rw[List.drop_eq_nil_of_le jk]at hT;have HT2:I ((-1:Int)=R):=hT;clear hT HT HN;go_wp2_with fail
   go_ret;exact⟨jj,rfl⟩
theorem closure_calls (a s:ByteArray) (x y:Int) (P:Nat) (w:World) (hP:w.cell? ⟨P,0,none⟩=some (.string s)) (hlt:P<w.heap.size) :
 Calls prog 79 #[.agg #[.string a,.int .i64 x,.int .i64 y],.pointer (some ⟨P,0,none⟩)] w fun e w'=> e=.returned (.bool (a.toList==s.toList))/\Below w.heap.size w w':= by
 go_enter func79,ntmps79
 go_wp2_with fail
 go_ret;exact⟨rfl,Lb.alloc La _⟩
theorem indexFunc_calls (a0:Option Addr) (cap P:Nat) (es:List Ef) (s:ByteArray) (w:World) (hP:w.cell? ⟨P,0,none⟩=some (.string s)) (hPl:P<w.heap.size) (hm:es.length<=1000000) (hn:es≠ []-> ∃b off,a0=some ⟨b,off,none⟩/\b<w.heap.size/\EffsAt w b off es) :
 Calls prog 117 #[.slice a0 es.length cap,.func (.func 79) #[] #[.pointer (some ⟨P,0,none⟩)]] w fun e w'=> e=.returned (.int .i64 (effPlace es s 0))/\Below w.heap.size w w':= by
 obtain⟨len,hlen⟩:∃len,es.length=len:=⟨_,rfl⟩
 have Hlen:I (es.length=len):=hlen;have HM:I (len<=1000000):=je;obtain⟨R,hR⟩:∃R,effPlace es s 0=R:=⟨_,rfl⟩
 have HR:I (effPlace es s 0=R):=hR;have HN:I (es≠ []-> ∃b off,a0=some ⟨b,off,none⟩/\b<w.heap.size/\EffsAt w b off es):=hn;have HP:I (w.cell? ⟨P,0,none⟩=some (.string s)/\P<w.heap.size):=⟨hP,hPl⟩
 rw[hlen,hR];clear hlen hR hm hn hP hPl;go_enter func117,ntmps117
 go_wp2_with fail
 go_loopw [8] (fun i wr=> ∃k:Nat,i=.int .i64 k/\k<=len/\I (effPlace (es.drop k) s k=R)/\Below w.heap.size w wr) (fun i _=>len-(intOf i).toNat)
 case atStart=>exact⟨0,rfl,Li _,HR.o,Lb⟩
 case round=>
  obtain⟨k,rfl,hle,HT,hbx⟩:=hrel;by_cases hlt:(k:Int)<(len:Int)
  .have hil:k<es.length:=by rw[Hlen.o];omega
   obtain⟨b,off,rfl,hbw,hE0⟩:=HN.o (fun h=>by rw[h]at hil;cases hil);have hE:=hE0.below hbx hbw;have c0:=hE k hil 0 yf;have c1:=hE k hil 1 yf;have c2:=hE k hil 2 yf;have hT:=HT.o;rw[effs_drop hil]at hT;obtain⟨n,hnd⟩:∃n,es.getD k default=n:=⟨_,rfl⟩
   rw[hnd]at c0 c1 c2 hT;simp only[Ef.cell,Nat.add_zero]at c0 c1 c2;have HC:I (∀a x y,_):=fun a x y=>closure_calls a s x y P wr ((hbx.cell (p:=⟨P,0,none⟩) HP.o.2).trans HP.o.1) (Le HP.o.2 hbx.size)
   have HT1:I (effPlace (n::es.drop (k+1)) s k=R):=hT;clear HT HN hil hE hE0 hnd hT;go_wp2_with fail
   refine(HC.o _ _ _).mono ?_;rintro e w2 ⟨rfl,hb2⟩;have hb3:=hbx.trans (hb2.mono hbx.size);clear c0 c1 c2 HC hb2
   cases he:(n.name.toList==s.toList) with
   | true=>
     have HT2:I ((k:Int)=R):=by
      show _=_;rw[<-HT1.o,effPlace,he];simp
     clear HT1;go_wp2_with fail
     go_ret;exact⟨jj,hb3⟩
   | false=>
     have HT2:I (effPlace (es.drop (k+1)) s (k+1)=R):=by
      show _=_;rw[<-HT1.o,effPlace,he];simp
     clear HT1;refine zb83 ?_;intro hs;exact⟨⟨k+1,rfl,yf,HT2,hb3⟩,hs⟩
  .have hT:=HT.o;rw[List.drop_eq_nil_of_le jk]at hT;have HT2:I ((-1:Int)=R):=hT;clear hT HT HN;go_wp2_with fail
   go_ret;exact⟨jj,hbx⟩
theorem place_ge (es:List Ef) (s:ByteArray):decide (0<=effPlace es s 0)=effIn es s:=by
 have:=effPlace_lt es s 0
 cases h:effIn es s with
 |false=>rw[decide_eq_false];have:=this.2 h;omega
 | true=>
   rw[decide_eq_true];rcases Int.lt_or_le (effPlace es s 0) 0 with h'|h'
   .rw[this.1 h']at h;cases h
   .exact h'
theorem hasEff_calls (a0:Option Addr) (cap:Nat) (es:List Ef) (s:ByteArray) (w:World) (hm:es.length<=1000000) (hn:es≠ []-> ∃b off,a0=some ⟨b,off,none⟩/\b<w.heap.size/\EffsAt w b off es) :
 Calls prog 42 #[.slice a0 es.length cap,.string s] w fun e w'=> e=.returned (.bool (effIn es s))/\Below w.heap.size w w':= by
 have HW:I (w.heap.size<(w.alloc (.cells #[.string s] 9)).heap.size/\Below w.heap.size w (w.alloc (.cells #[.string s] 9))):=⟨yn,Lb.alloc La _⟩
 have HX:I (Calls _ _ _ _ _):=indexFunc_calls a0 cap w.heap.size es s (w.alloc (.cells #[.string s] 9)) yc HW.o.1 hm (fun h=>by
  obtain⟨b,off,e,hb,hE⟩:=hn h;exact⟨b,off,e,Nat.lt_trans hb HW.o.1,hE.below HW.o.2 hb⟩)
 rw[<-place_ge];clear hm hn;generalize es.length=len at*;generalize effPlace es s 0=R at*;go_enter func42,ntmps42
 go_wp2_with fail
 have HY:I (Calls prog 78 #[.slice a0 len cap,.func (.func 79) #[] #[.pointer (some ⟨w.heap.size,0,none⟩)]] (w.alloc (.cells #[.string s] 9)) fun e w'=> e=.returned (.bool (decide (0<=R)))/\Below w.heap.size w w'):=by
  show Calls _ _ _ _ _;go_enter func78,ntmps78
  go_wp2_with fail
  refine HX.o.mono ?_;rintro e w2 ⟨rfl,hb2⟩;have hb3:=HW.o.2.trans (hb2.mono HW.o.2.size);clear hb2;go_wp2_with fail
  go_ret;exact⟨rfl,hb3⟩
 refine HY.o.mono ?_;rintro e w2 ⟨rfl,hb2⟩;go_wp2_with fail
 go_ret;exact⟨rfl,hb2⟩
theorem baseOk_calls (x:Int) (w:World) :
 Calls prog 41 #[.int .i64 x] w fun e w'=> e=.returned (.bool (decide (1<=x/\x<=4)))/\w=w':= by
 have hx:(1<=x/\x<=4)\/x<1\/(1<=x/\4<x):=yf;rcases hx with ⟨h1,h2⟩|h1|⟨h1,h2⟩
 .rw[decide_eq_true ⟨h1,h2⟩];go_enter func41,ntmps41
  go_wp2
  all_goals
   go_ret;exact⟨by simp_all,rfl⟩
 .rw[decide_eq_false yf];go_enter func41,ntmps41
  go_wp2
  all_goals
   go_ret;exact⟨by simp_all,rfl⟩
 .rw[decide_eq_false yf];go_enter func41,ntmps41
  go_wp2
  all_goals
   go_ret;exact⟨by simp_all,rfl⟩
end
section
open Go.RowKit
theorem kept_refl (w:World) (row:Option Nat):w.grownBy w row:=⟨rfl,rfl,rfl,La,fun _ _ _=>rfl⟩
theorem kept_of_below {w w':World}(h:Below w.heap.size w w') (row:Option Nat):w.grownBy w' row:=⟨h.os,h.tape,h.output,h.size,fun k hk _=>h.block k hk⟩
theorem kept_set {w w':World}{g:Nat}(h:w.grownBy w' (some g)) (i:Nat) (v:Value):w.grownBy (w'.setCell ⟨g,i,none⟩ v) (some g):=
 ⟨h.os,h.tape,h.output,by simpa[World.setCell]using h.size,fun k hk hne=>(Lg _ _ _ _ (fun e=>hne (by rw[e]))).trans (h.block k hk hne)⟩
def Rw (w:World) (g:Nat) (t:TypeId) (N:Nat) (f:Nat->Value) (n:Nat):Prop:=
 ∃(c:Array Value) (fz:Nat×Nat),w.heap[g]?=some (.cells c t fz)/\c.size=N/\(∀i,i<N->c[i]?=some (f i))/\(fz=(0,0)\/n<=fz.1)
namespace Rw
variable {w:World}{g:Nat}{t:TypeId}{N n:Nat}{f:Nat->Value}
theorem cell (h:Rw w g t N f n) (hi:i<N):w.cell? ⟨g,i,none⟩=some (f i):=by
 obtain⟨c,fz,hg,hs,hc,_⟩:=h;simp[World.cell?,hg,hc i hi]
theorem lt (h:Rw w g t N f n):g<w.heap.size:=by
 obtain⟨c,fz,hg,_⟩:=h;exact z12 hg
theorem set (h:Rw w g t N f n) (i:Nat) (v:Value):Rw (w.setCell ⟨g,i,none⟩ v) g t N (fun j=>if j=i then v else f j) n:=by
 obtain⟨c,fz,hg,hs,hc,hz⟩:=h;refine⟨c.setIfInBounds i v,fz,?_,by simp[hs],fun j hj=>?_,hz⟩
 .rw[setCell_eq_setRow w g i c t fz v hg];exact setRow_heap w g _ _ t _ hg
 .by_cases hji:j=i
  .subst hji;simp[hs,hj]
  .have hij:¬ i=j:=fun e=>hji e.symm
   simp[hji,hij,hc j hj]
end Rw
def CellRow (t:TypeId) (w:World) (g n:Nat) (F:Nat->Value):Prop:=
 ∃N f,Rw w g t N f n/\n<=N/\ ∀i,i<n->f i=F i
theorem CellRow.lt {t:TypeId}{w:World}{g n:Nat}(h:CellRow t w g n F):g<w.heap.size:=by
 obtain⟨N,f,hr,_⟩:=h;exact hr.lt
theorem CellRow.cell {t:TypeId}{w:World}{g n:Nat}(h:CellRow t w g n F) (hi:i<n):w.cell? ⟨g,i,none⟩=some (F i):=by
 obtain⟨N,f,hr,h1,h2⟩:=h;rw[hr.cell yf,h2 i hi]
theorem CellRow.congr {t:TypeId}{w:World}{g n:Nat}{G:Nat->Value}(h:CellRow t w g n F) (e:∀i,i<n->F i=G i):CellRow t w g n G:=by
 obtain⟨N,f,hr,h1,h2⟩:=h;exact⟨N,f,hr,h1,fun i hi=>(h2 i hi).trans (e i hi)⟩
def SliceR (t:TypeId) (sz B:Nat) (w:World) (v:Value) (n:Nat) (F:Nat->Value):Prop:=
 ∃ad cap,v=.slice ad n cap/\(n=0\/ ∃g,ad=some ⟨g,0,none⟩/\B<=g/\CellRow t w g (n*sz) F)
theorem sliceR_of_owns {t:TypeId}{sz B:Nat}{w:World}{v:Value}{n:Nat}{xs:List Value}(h:w.ownsRow B t sz v n xs):SliceR t sz B w v n (fun i=>xs.getD i undef):=by
 rcases h.2 with ⟨rfl,hn⟩|⟨g,cap,cur,rfl,hB,hg,hnc,hcm,hsz,htake⟩
 .exact⟨none,0,by rw[hn],Or.inl hn⟩
 .refine⟨_,cap,rfl,Or.inr ⟨g,rfl,hB,cur.size,fun i=>cur.getD i undef,⟨cur,(0,0),hg,rfl,fun i hi=>by simp[hi],Or.inl rfl⟩,by rw[hsz];exact Nat.mul_le_mul_right _ hnc,fun i hi=>?_⟩⟩;rw[<-htake];simp only[List.getD,Array.getD_eq_getD_getElem?];rw[List.getElem?_take_of_lt hi,Array.getElem?_toList]
end
section
open Go.RowKit Go.Deep Go.ChangeShapes Go.WideShapes
section
variable {H:Type}{enc:TypeId×Value->H}{W:World}{sp:Nat->Bool}{held:Bool}
end
end
section
open Go.RowKit Go.Deep
structure Tp where
 n:Nd
 k:Fo
 at_:Nat
instance:Inhabited Tp:=⟨⟨default,.none,0⟩⟩
def kidsAt:Fo->Nat->List Tp
 |.none,_=> []
 |.tree n k r,p=>⟨n,k,p⟩::kidsAt r (p+1+k.flat.length)
def Tp.kids (t:Tp):List Tp:=kidsAt t.k (t.at_+1)
def Tp.kid (t:Tp) (i:Nat):Tp:=t.kids.getD i default
def Tp.size (t:Tp):Nat:=t.k.flat.length+1
def headsZ (k:Fo):Prop:= ∀t∈(kidsAt k 0).drop 1,t.n.kids=1
def goodF:Fo->Prop
 |.none=>True
 |.tree n k r=>n.kids=k.count/\kidsOk n.kind n.kids=true/\(n.kind=23\/n.kind=24->headsZ k)/\goodF k/\goodF r
theorem goodF.wf:∀ {f:Fo},goodF f->f.wf
 |.none,_=>trivial
 |.tree _ _ _,h=>⟨h.1,h.2.2.2.1.wf,h.2.2.2.2.wf⟩
structure Good (t:Tp):Prop where
 kids:t.n.kids=t.k.count
 own:kidsOk t.n.kind t.n.kids=true
 heads:t.n.kind=23\/t.n.kind=24->headsZ t.k
 good:goodF t.k
structure Stands (ns:List Nd) (t:Tp):Prop extends Good t where
 drop:∃suf,ns.drop t.at_=t.n::(t.k.flat++suf)
theorem kidsAt_len:∀(f:Fo) (p:Nat),(kidsAt f p).length=f.count
 |.none,_=>rfl
 |.tree n k r,p=>by simp[kidsAt,Fo.count,kidsAt_len r]
theorem kidsAt_sum:∀(f:Fo) (p:Nat),((kidsAt f p).map Tp.size).sum=f.flat.length
 |.none,_=>rfl
 | .tree n k r,p=>by
   simp only[kidsAt,Fo.flat,List.map_cons,List.sum_cons,kidsAt_sum r,List.length_cons,List.length_append,Tp.size];omega
theorem kidsAt_mem:∀(f:Fo) (p:Nat) (ns suf:List Nd),goodF f->ns.drop p=f.flat++suf-> ∀t∈kidsAt f p,Stands ns t
 |.none,p,ns,suf,_,_,t,h=>jl
 | .tree n k r,p,ns,suf,hg,hd,t,h=>by
   obtain⟨h1,h2,h3,h4,h5⟩:=hg;simp only[Fo.flat,List.cons_append,List.append_assoc]at hd;rw[kidsAt,List.mem_cons]at h;rcases h with rfl|h
   .exact⟨⟨h1,h2,h3,h4⟩,⟨_,hd⟩⟩
   .refine kidsAt_mem r _ ns suf h5 ?_ t h;rw[show p+1+k.flat.length=p+(1+k.flat.length) by omega,<-List.drop_drop,hd,Nat.add_comm 1,List.drop_succ_cons,List.drop_left]
theorem kidsAt_place:∀(f:Fo) (p q:Nat),(kidsAt f q).map (fun t=>(t.n,t.k))=(kidsAt f p).map (fun t=>(t.n,t.k))
 |.none,_,_=>rfl
 | .tree n k r,p,q=>by
   simp only[kidsAt,List.map_cons];rw[kidsAt_place r (p+1+k.flat.length)]
theorem Tp.kids_len (t:Tp):t.kids.length=t.k.count:=kidsAt_len _ _
theorem Tp.kids_sum (t:Tp):(t.kids.map Tp.size).sum+1=t.size:=by
 have:=kidsAt_sum t.k (t.at_+1);unfold Tp.kids;rw[this];rfl
theorem Stands.kids_mem {ns:List Nd}{t:Tp}(h:Stands ns t):∀c∈t.kids,Stands ns c:=by
 obtain⟨suf,hd⟩:=h.drop;refine kidsAt_mem t.k _ ns suf h.good ?_;rw[<-List.drop_drop,hd];rfl
theorem Tp.kid_mem {t:Tp}(h:i<t.k.count):t.kid i∈t.kids:=getD_mem' (by rw[t.kids_len];exact h)
where
 getD_mem' {l:List Tp} {k:Nat} (h:k<l.length):l.getD k default∈l:=by
  rw[show l.getD k default=l[k] by simp[List.getD,h]];exact List.getElem_mem h
theorem Stands.kid {ns:List Nd}{t:Tp}(h:Stands ns t) (hi:i<t.k.count):Stands ns (t.kid i):=h.kids_mem _ (Tp.kid_mem hi)
theorem Stands.head {ns:List Nd}{t:Tp}(h:Stands ns t) (hk:t.n.kind=23\/t.n.kind=24):∀c∈t.kids.drop 1,c.n.kids=1/\c.k.count=1:=fun c hc=>by
 have h1:=h.heads hk;have hs:=h.kids_mem c (List.mem_of_mem_drop hc);have e:∃c'∈(kidsAt t.k 0).drop 1,(c'.n,c'.k)=(c.n,c.k):=by
  have h2:=congrArg (List.drop 1) (kidsAt_place t.k 0 (t.at_+1));rw[<-List.map_drop,<-List.map_drop]at h2;have h3:(c.n,c.k)∈((kidsAt t.k (t.at_+1)).drop 1).map (fun t=>(t.n,t.k)):=List.mem_map_of_mem (f:=fun t:Tp=>(t.n,t.k)) hc;rw[h2,List.mem_map]at h3;obtain⟨c',h4,h5⟩:=h3;exact⟨c',h4,h5⟩
 obtain⟨c',hc',e⟩:=e;have h6:=h1 c' hc';simp only[Prod.mk.injEq]at e;rw[e.1]at h6;have h7:=hs.kids;exact⟨h6,yf⟩
theorem role_two (pk:Int) (i:Nat) (h:pk=23\/pk=24) (hi:1<=i):role pk i=1\/role pk i=2:=by
 unfold role;rw[if_pos h];split<;>omega
theorem head_kids {m:Nd}(h:headOk m c=true) (hc:c=1\/c=2) (ho:ownOk m=true):m.kids=1:=by
 unfold headOk at h;simp only[Bool.and_eq_true]at h;unfold ownOk at ho;simp only[Bool.and_eq_true]at ho;have hk:=ho.1;rcases hc with rfl|rfl
 .have e:m.kind=25:=by simpa using h.1.1
  rw[e]at hk;exact of_decide_eq_true hk
 .have e:m.kind=26:=by simpa using h.1.2
  rw[e]at hk;exact of_decide_eq_true hk
theorem spec_heads:∀(f:Fo) (pk:Int) (i p:Nat) (ops:List ByteArray),(pk=23\/pk=24)->(∀m∈f.flat,ownOk m=true)->specKids f pk i ops=true->1<=i-> ∀t∈kidsAt f p,t.n.kids=1
 |.none,pk,i,p,ops,_,_,_,_,t,h=>jl
 | .tree n k r,pk,i,p,ops,hp,ho,hs,hi,t,h=>by
   simp only[specKids,Bool.and_eq_true]at hs;rw[kidsAt,List.mem_cons]at h;rcases h with rfl|h
   .exact head_kids hs.1 (role_two pk i hp hi) (ho n (by simp[Fo.flat]))
   .have ho':∀m∈r.flat,ownOk m=true:=fun m hm=>ho m jm
    have h2:=hs.2.2;split at h2
    .rw[Bool.and_eq_true]at h2;exact spec_heads r pk (i+1) _ _ hp ho' h2.2 yf t h
    .exact spec_heads r pk (i+1) _ _ hp ho' h2 yf t h
theorem heads_of (k:Fo) (pk:Int) (hp:pk=23\/pk=24) (ho:∀m∈k.flat,ownOk m=true) (hs:specKids k pk 0 []=true):headsZ k:=by
 cases k with
 |none=>exact fun t h=>jl
 | tree n k r=>
   intro t h;rw[kidsAt,List.drop_succ_cons,List.drop_zero]at h;simp only[specKids,Bool.and_eq_true]at hs;have h2:=hs.2.2;have ho':∀m∈r.flat,ownOk m=true:=fun m hm=>ho m jm
   split at h2
   .rw[Bool.and_eq_true]at h2;exact spec_heads r pk (0+1) _ _ hp ho' h2.2 yf t h
   .exact spec_heads r pk (0+1) _ _ hp ho' h2 yf t h
theorem good_of:∀(f:Fo) (pk:Int) (i:Nat) (ops:List ByteArray),f.wf->(∀m∈f.flat,ownOk m=true)->specKids f pk i ops=true->goodF f
 |.none,_,_,_,_,_,_=>trivial
 | .tree n k r,pk,i,ops,hw,ho,hs=>by
   simp only[specKids,Bool.and_eq_true]at hs;have hk:∀m∈k.flat,ownOk m=true:=fun m hm=>ho m jm
   have hr:∀m∈r.flat,ownOk m=true:=fun m hm=>ho m jm
   have hn:=ho n (by simp[Fo.flat]);unfold ownOk at hn;rw[Bool.and_eq_true]at hn;refine⟨hw.1,hn.1,fun h=>heads_of k n.kind h hk hs.2.1,good_of k n.kind 0 [] hw.2.1 hk hs.2.1,?_⟩;have h2:=hs.2.2;split at h2
   .rw[Bool.and_eq_true]at h2;exact good_of r pk (i+1) _ hw.2.2 hr h2.2
   .exact good_of r pk (i+1) _ hw.2.2 hr h2
theorem stands_of {ns:List Nd}{n:Nd}{k:Fo}(hA:SpecAns ns true) (h1:ns=n::k.flat) (h2:n.kids=k.count) (h3:k.wf):Stands ns ⟨n,k,0⟩:=by
 rcases hA with ⟨-,h⟩|⟨-,-,-,h⟩|⟨-,-,n',k',e1,e2,e3,hR⟩
 .cases h
 .cases h
 obtain⟨rfl,rfl⟩:=tree_inj h1 h2 h3 e1 e2 e3;have hR':= hR.symm;rw[Bool.and_eq_true,Bool.and_eq_true]at hR';obtain⟨ho,-,hs⟩:=hR';unfold specTree at hs;rw[Bool.and_eq_true]at hs;have ho':∀m∈ns,ownOk m=true:=fun m hm=>List.all_eq_true.1 ho m hm
 have hn:=ho' n' (by rw[e1];simp);have hk:∀m∈k'.flat,ownOk m=true:=fun m hm=>ho' m (by rw[e1];simp[hm])
 unfold ownOk at hn;rw[Bool.and_eq_true]at hn;exact⟨⟨e2,hn.1,fun h=>heads_of k' n'.kind h hk hs.2,good_of k' n'.kind 0 [] e3 hk hs.2⟩,⟨[],by rw[e1];simp⟩⟩
theorem kids_of (t:Tp) (h:t.k.count=c):t.kids.length=c:=by rw[t.kids_len,h]
theorem kids1 {t:Tp}(h:t.k.count=1):t.kids= [t.kid 0]/\(t.kid 0).size+1=t.size:=by
 have hl:=kids_of t h;have hs:=t.kids_sum;unfold Tp.kid;match hk:t.kids,hl with
 |[a],_=>rw[hk]at hs;simp at hs ⊢;omega
theorem kids2 {t:Tp}(h:t.k.count=2):t.kids= [t.kid 0,t.kid 1]/\(t.kid 0).size+(t.kid 1).size+1=t.size:=by
 have hl:=kids_of t h;have hs:=t.kids_sum;unfold Tp.kid;match hk:t.kids,hl with
 |[a,b],_=>rw[hk]at hs;simp at hs ⊢;omega
theorem kids3 {t:Tp}(h:t.k.count=3):t.kids= [t.kid 0,t.kid 1,t.kid 2]/\(t.kid 0).size+(t.kid 1).size+(t.kid 2).size+1=t.size:=by
 have hl:=kids_of t h;have hs:=t.kids_sum;unfold Tp.kid;match hk:t.kids,hl with
 |[a,b,c],_=>rw[hk]at hs;simp at hs ⊢;omega
theorem kidsM {t:Tp}(h:2<=t.k.count):t.kids=t.kid 0::t.kid 1::t.kids.drop 2/\(t.kid 0).size+(t.kid 1).size+((t.kids.drop 2).map Tp.size).sum+1=t.size:=by
 have hl:=t.kids_len;have hs:=t.kids_sum;unfold Tp.kid;match hk:t.kids with
 |[]=>rw[hk]at hl;simp at hl;omega
 |[a]=>rw[hk]at hl;simp at hl;omega
 |a::b::r=>rw[hk]at hs;simp at hs ⊢;omega
theorem arity_at {t:Tp}(h:Good t):arityZ t.n.kind≠ -1/\(arityZ t.n.kind= -2->2<=t.k.count/\t.k.count<=6)/\(arityZ t.n.kind≠ -2->(t.k.count:Int)=arityZ t.n.kind):=by
 have h1:=h.own;have h2:=h.kids;unfold kidsOk at h1;split at h1
 .cases h1
 .rename_i e;refine⟨e,fun e2=>?_,fun e2=>?_⟩
  .rw[if_pos e2]at h1;have:=of_decide_eq_true h1;omega
  .rw[if_neg e2]at h1;have:=of_decide_eq_true h1;omega
theorem z19 {t:Tp}(h:Good t) {k:Int}(hk:t.n.kind=k) (ha:arityZ k=(c:Int)):t.k.count=c:=by
 have h3:=(arity_at h).2.2;rw[hk]at h3;have:=h3 yf;omega
section
variable {ns:List Nd}{K:Nat}{es:List Ef}
theorem Tp.size_pos (t:Tp):1<=t.size:=by unfold Tp.size;omega
theorem sum_mem (l:List Tp) (c:Tp) (h:c∈l):c.size<=(l.map Tp.size).sum:=by
 induction l with
 |nil=>simp at h
 | cons a l ih=>
   simp only[List.map_cons,List.sum_cons];rw[List.mem_cons]at h;rcases h with rfl|h
   .omega
   .have:=ih h;omega
end
def lvZ (k:Int):Int:=if k=8\/k=9\/k=10\/k=6\/k=20 then 0 else if k=19 then 1 else if k=14\/k=15 then 2 else if k=11\/k=12 then 3 else if k=13 then 4 else if k=7\/k=17\/k=18\/k=21\/k=22 then 5 else 6
def brZ (k least:Int) (T:List UInt8):List UInt8:=if lvZ k<least then [40]++T++ [41] else T
def retT (c:Tp) (T:List UInt8):List UInt8:= [32,114,101,116,32]++c.n.a.data.toList++ [32,45,62,32]++T
def opT (c:Tp) (T:List UInt8):List UInt8:= [32,124,32]++c.n.a.data.toList++ [32]++c.n.b.data.toList++ [32]++c.n.c.data.toList++ [32,45,62,32]++T
def handT (go:Tp->Int->List UInt8) (t:Tp):List UInt8:=
 (t.kids.drop 2).foldl (fun T c=>T++opT c (go (c.kid 0) 0)) ((if t.n.kind=24 then [115,104,97,108,108,111,119,32] else [104,97,110,100,108,101,32])++go (t.kid 0) 0++ [32,119,105,116,104]++retT (t.kid 1) (go ((t.kid 1).kid 0) 0))++ [32,101,110,100]
def text3 (_go:Tp->Int->List UInt8) (_t:Tp):List UInt8:= [40,41]
def text4 (_go:Tp->Int->List UInt8) (_t:Tp):List UInt8:= [110,105,108]
def text5 (_go:Tp->Int->List UInt8) (t:Tp):List UInt8:=t.n.a.data.toList
def text6 (go:Tp->Int->List UInt8) (t:Tp):List UInt8:= [102,110,32]++t.n.a.data.toList++ [32,45,62,32]++go (t.kid 0) 0
def text7 (go:Tp->Int->List UInt8) (t:Tp):List UInt8:=go (t.kid 0) 5++ [32]++go (t.kid 1) 6
def text8 (go:Tp->Int->List UInt8) (t:Tp):List UInt8:= [108,101,116,32]++t.n.a.data.toList++ [32,61,32]++go (t.kid 0) 0++ [32,105,110,32]++go (t.kid 1) 0
def text9 (go:Tp->Int->List UInt8) (t:Tp):List UInt8:= [108,101,116,32,114,101,99,32]++t.n.a.data.toList++ [32]++t.n.b.data.toList++ [32,61,32]++go (t.kid 0) 0++ [32,105,110,32]++go (t.kid 1) 0
def text10 (go:Tp->Int->List UInt8) (t:Tp):List UInt8:= [105,102,32]++go (t.kid 0) 0++ [32,116,104,101,110,32]++go (t.kid 1) 0++ [32,101,108,115,101,32]++go (t.kid 2) 0
def text11 (go:Tp->Int->List UInt8) (t:Tp):List UInt8:=go (t.kid 0) 3++ [32]++ [43]++ [32]++go (t.kid 1) 4
def text12 (go:Tp->Int->List UInt8) (t:Tp):List UInt8:=go (t.kid 0) 3++ [32]++ [45]++ [32]++go (t.kid 1) 4
def text13 (go:Tp->Int->List UInt8) (t:Tp):List UInt8:=go (t.kid 0) 4++ [32]++ [42]++ [32]++go (t.kid 1) 5
def text14 (go:Tp->Int->List UInt8) (t:Tp):List UInt8:=go (t.kid 0) 3++ [32]++ [61]++ [32]++go (t.kid 1) 3
def text15 (go:Tp->Int->List UInt8) (t:Tp):List UInt8:=go (t.kid 0) 3++ [32]++ [60]++ [32]++go (t.kid 1) 3
def text19 (go:Tp->Int->List UInt8) (t:Tp):List UInt8:=go (t.kid 0) 2++ [32]++ [58,58]++ [32]++go (t.kid 1) 1
def text16 (go:Tp->Int->List UInt8) (t:Tp):List UInt8:= [40]++go (t.kid 0) 0++ [44,32]++go (t.kid 1) 0++ [41]
def text17 (go:Tp->Int->List UInt8) (t:Tp):List UInt8:= [102,115,116,32]++go (t.kid 0) 6
def text18 (go:Tp->Int->List UInt8) (t:Tp):List UInt8:= [115,110,100,32]++go (t.kid 0) 6
def text21 (go:Tp->Int->List UInt8) (t:Tp):List UInt8:= [112,114,105,110,116,32]++go (t.kid 0) 6
def text22 (go:Tp->Int->List UInt8) (t:Tp):List UInt8:= [100,111,32]++t.n.a.data.toList++ [32]++go (t.kid 0) 6
def text20 (go:Tp->Int->List UInt8) (t:Tp):List UInt8:= [99,97,115,101,32]++go (t.kid 0) 0++ [32,111,102,32,110,105,108,32,45,62,32]++go (t.kid 1) 0++ [32,124,32]++t.n.a.data.toList++ [32,58,58,32]++t.n.b.data.toList++ [32,45,62,32]++go (t.kid 2) 0
def bareZ:Nat->Tp->List UInt8
 |0,_=> []
 | f+1,t=>
   if t.n.kind=1 then Lib.itoa t.n.num else
   if t.n.kind=2 then (if t.n.num=0 then [102,97,108,115,101] else [116,114,117,101]) else
   if t.n.kind=3 then text3 (fun c least=>brZ c.n.kind least (bareZ f c)) t else
   if t.n.kind=4 then text4 (fun c least=>brZ c.n.kind least (bareZ f c)) t else
   if t.n.kind=5 then text5 (fun c least=>brZ c.n.kind least (bareZ f c)) t else
   if t.n.kind=6 then text6 (fun c least=>brZ c.n.kind least (bareZ f c)) t else
   if t.n.kind=7 then text7 (fun c least=>brZ c.n.kind least (bareZ f c)) t else
   if t.n.kind=8 then text8 (fun c least=>brZ c.n.kind least (bareZ f c)) t else
   if t.n.kind=9 then text9 (fun c least=>brZ c.n.kind least (bareZ f c)) t else
   if t.n.kind=10 then text10 (fun c least=>brZ c.n.kind least (bareZ f c)) t else
   if t.n.kind=11 then text11 (fun c least=>brZ c.n.kind least (bareZ f c)) t else
   if t.n.kind=12 then text12 (fun c least=>brZ c.n.kind least (bareZ f c)) t else
   if t.n.kind=13 then text13 (fun c least=>brZ c.n.kind least (bareZ f c)) t else
   if t.n.kind=14 then text14 (fun c least=>brZ c.n.kind least (bareZ f c)) t else
   if t.n.kind=15 then text15 (fun c least=>brZ c.n.kind least (bareZ f c)) t else
   if t.n.kind=19 then text19 (fun c least=>brZ c.n.kind least (bareZ f c)) t else
   if t.n.kind=16 then text16 (fun c least=>brZ c.n.kind least (bareZ f c)) t else
   if t.n.kind=17 then text17 (fun c least=>brZ c.n.kind least (bareZ f c)) t else
   if t.n.kind=18 then text18 (fun c least=>brZ c.n.kind least (bareZ f c)) t else
   if t.n.kind=21 then text21 (fun c least=>brZ c.n.kind least (bareZ f c)) t else
   if t.n.kind=22 then text22 (fun c least=>brZ c.n.kind least (bareZ f c)) t else
   if t.n.kind=20 then text20 (fun c least=>brZ c.n.kind least (bareZ f c)) t else
   handT (fun c least=>brZ c.n.kind least (bareZ f c)) t
def showZ (f:Nat) (t:Tp) (least:Int):List UInt8:=brZ t.n.kind least (bareZ f t)
theorem bare1 {f:Nat}{t:Tp}(h:t.n.kind=1):bareZ (f+1) t=Lib.itoa t.n.num:=by
 rw[bareZ,if_pos h]
theorem bare2 {f:Nat}{t:Tp}(h:t.n.kind=2):bareZ (f+1) t=(if t.n.num=0 then [102,97,108,115,101] else [116,114,117,101]):=by
 rw[bareZ,if_neg yf,if_pos h]
theorem bare3 {f:Nat}{t:Tp}(h:t.n.kind=3):bareZ (f+1) t=text3 (showZ f) t:=by
 rw[bareZ,if_neg yf,if_neg yf,if_pos h];rfl
theorem bare4 {f:Nat}{t:Tp}(h:t.n.kind=4):bareZ (f+1) t=text4 (showZ f) t:=by
 rw[bareZ,if_neg yf,if_neg yf,if_neg yf,if_pos h];rfl
theorem bare5 {f:Nat}{t:Tp}(h:t.n.kind=5):bareZ (f+1) t=text5 (showZ f) t:=by
 rw[bareZ];(iterate 4 rw[if_neg yf]);rw[if_pos h];rfl
theorem bare6 {f:Nat}{t:Tp}(h:t.n.kind=6):bareZ (f+1) t=text6 (showZ f) t:=by
 rw[bareZ];(iterate 5 rw[if_neg yf]);rw[if_pos h];rfl
theorem bare7 {f:Nat}{t:Tp}(h:t.n.kind=7):bareZ (f+1) t=text7 (showZ f) t:=by
 rw[bareZ];(iterate 6 rw[if_neg yf]);rw[if_pos h];rfl
theorem bare8 {f:Nat}{t:Tp}(h:t.n.kind=8):bareZ (f+1) t=text8 (showZ f) t:=by
 rw[bareZ];(iterate 7 rw[if_neg yf]);rw[if_pos h];rfl
theorem bare9 {f:Nat}{t:Tp}(h:t.n.kind=9):bareZ (f+1) t=text9 (showZ f) t:=by
 rw[bareZ];(iterate 8 rw[if_neg yf]);rw[if_pos h];rfl
theorem bare10 {f:Nat}{t:Tp}(h:t.n.kind=10):bareZ (f+1) t=text10 (showZ f) t:=by
 rw[bareZ];(iterate 9 rw[if_neg yf]);rw[if_pos h];rfl
theorem bare11 {f:Nat}{t:Tp}(h:t.n.kind=11):bareZ (f+1) t=text11 (showZ f) t:=by
 rw[bareZ];(iterate 10 rw[if_neg yf]);rw[if_pos h];rfl
theorem bare12 {f:Nat}{t:Tp}(h:t.n.kind=12):bareZ (f+1) t=text12 (showZ f) t:=by
 rw[bareZ];(iterate 11 rw[if_neg yf]);rw[if_pos h];rfl
theorem bare13 {f:Nat}{t:Tp}(h:t.n.kind=13):bareZ (f+1) t=text13 (showZ f) t:=by
 rw[bareZ];(iterate 12 rw[if_neg yf]);rw[if_pos h];rfl
theorem bare14 {f:Nat}{t:Tp}(h:t.n.kind=14):bareZ (f+1) t=text14 (showZ f) t:=by
 rw[bareZ];(iterate 13 rw[if_neg yf]);rw[if_pos h];rfl
theorem bare15 {f:Nat}{t:Tp}(h:t.n.kind=15):bareZ (f+1) t=text15 (showZ f) t:=by
 rw[bareZ];(iterate 14 rw[if_neg yf]);rw[if_pos h];rfl
theorem bare19 {f:Nat}{t:Tp}(h:t.n.kind=19):bareZ (f+1) t=text19 (showZ f) t:=by
 rw[bareZ];(iterate 15 rw[if_neg yf]);rw[if_pos h];rfl
theorem bare16 {f:Nat}{t:Tp}(h:t.n.kind=16):bareZ (f+1) t=text16 (showZ f) t:=by
 rw[bareZ];(iterate 16 rw[if_neg yf]);rw[if_pos h];rfl
theorem bare17 {f:Nat}{t:Tp}(h:t.n.kind=17):bareZ (f+1) t=text17 (showZ f) t:=by
 rw[bareZ];(iterate 17 rw[if_neg yf]);rw[if_pos h];rfl
theorem bare18 {f:Nat}{t:Tp}(h:t.n.kind=18):bareZ (f+1) t=text18 (showZ f) t:=by
 rw[bareZ];(iterate 18 rw[if_neg yf]);rw[if_pos h];rfl
theorem bare21 {f:Nat}{t:Tp}(h:t.n.kind=21):bareZ (f+1) t=text21 (showZ f) t:=by
 rw[bareZ];(iterate 19 rw[if_neg yf]);rw[if_pos h];rfl
theorem bare22 {f:Nat}{t:Tp}(h:t.n.kind=22):bareZ (f+1) t=text22 (showZ f) t:=by
 rw[bareZ];(iterate 20 rw[if_neg yf]);rw[if_pos h];rfl
theorem bare20 {f:Nat}{t:Tp}(h:t.n.kind=20):bareZ (f+1) t=text20 (showZ f) t:=by
 rw[bareZ];(iterate 21 rw[if_neg yf]);rw[if_pos h];rfl
theorem bareH {f:Nat}{t:Tp}(h:t.n.kind=23\/t.n.kind=24):bareZ (f+1) t=handT (showZ f) t:=by
 rw[bareZ];(iterate 22 rw[if_neg yf]);rfl
structure Neat (m:Nd):Prop where
 a:m.a.size<=8
 b:m.b.size<=8
 c:m.c.size<=8
 num:m.kind=1->0<=m.num/\m.num<=999999999
 bit:m.kind=2->m.num=0\/m.num=1
theorem br_len (k least:Int) (T:List UInt8):(brZ k least T).length<=T.length+2:=by
 unfold brZ;split
 .simp only[List.length_append,List.length_cons,List.length_nil];omega
 .omega
theorem name_len {s:ByteArray}(h:s.size<=8):s.data.toList.length<=8:=zn
def Sk (t:Tp):Prop:=specKids t.k t.n.kind 0 []=true
def Ex (t:Tp):Prop:=Sk t/\t.n.kind≠25/\t.n.kind≠26
theorem kids_role:∀(f:Fo) (pk:Int) (i p:Nat) (ops:List ByteArray) (j:Nat),specKids f pk i ops=true->j<f.count->headOk ((kidsAt f p).getD j default).n (role pk (i+j))=true/\Sk ((kidsAt f p).getD j default)
 |.none,pk,i,p,ops,j,_,hj=>by simp[Fo.count]at hj
 | .tree n k r,pk,i,p,ops,0,hs,_=>by
   simp only[specKids,Bool.and_eq_true]at hs;exact⟨hs.1,hs.2.1⟩
 | .tree n k r,pk,i,p,ops,j+1,hs,hj=>by
   simp only[specKids,Bool.and_eq_true]at hs;have h2:=hs.2.2;simp only[Fo.count]at hj;rw[show i+(j+1)=i+1+j by omega];simp only[kidsAt,List.getD_cons_succ];split at h2
   .rw[Bool.and_eq_true]at h2;exact kids_role r pk (i+1) _ _ j h2.2 yf
   .exact kids_role r pk (i+1) _ _ j h2 yf
theorem head_none {m:Nd}(h:headOk m 0=true):m.kind≠25/\m.kind≠26:=by
 unfold headOk at h;simp only[Bool.and_eq_true]at h;refine⟨fun e=>?_,fun e=>?_⟩
 .have:=h.1.1;rw[e]at this;exact absurd this yh
 .have:=h.1.2;rw[e]at this;exact absurd this yh
theorem Sk.ex {t:Tp}(h:Sk t) {j:Nat}(hj:j<t.k.count) (hr:role t.n.kind j=0):Ex (t.kid j):=by
 have h1:=kids_role t.k t.n.kind 0 (t.at_+1) [] j h hj;rw[Nat.zero_add,hr]at h1;exact⟨h1.2,head_none h1.1⟩
theorem z14 {k:Int}(h:¬ (k=23\/k=24)) (j:Nat):role k j=0:=by unfold role;rw[if_neg h]
theorem role_first (k:Int):role k 0=0:=by unfold role;split<;>simp
theorem clause_ex {t:Tp}(h:Sk t) {j:Nat}(hj:j<t.k.count) (hc:(t.kid j).k.count=1):Ex ((t.kid j).kid 0):=by
 have h2:=kids_role t.k t.n.kind 0 (t.at_+1) [] j h hj;refine Sk.ex h2.2 (by show 0<(t.kid j).k.count;omega) ?_;exact role_first _
def TextR (ns:List Nd) (go:Tp->Int->List UInt8) (F:Nat):Prop:= ∀t least,t.size<=F->Stands ns t->Ex t->(go t least).length<=60*t.size
theorem Stands.neat {ns:List Nd}{t:Tp}(h:Stands ns t) (hn:∀m∈ns,Neat m):Neat t.n:=by
 obtain⟨suf,hd⟩:=h.drop;refine hn _ (List.mem_of_mem_drop (i:=t.at_) ?_);rw[hd];exact List.mem_cons_self
theorem ops_len {ns:List Nd}{go:Tp->Int->List UInt8}{F:Nat}(hn:∀m∈ns,Neat m) (hgo:TextR ns go F):∀(l:List Tp) (T:List UInt8),(∀c∈l,c.size<=F/\c.k.count=1/\Stands ns c/\Ex (c.kid 0))->(l.foldl (fun T c=>T++opT c (go (c.kid 0) 0)) T).length<=T.length+60*(l.map Tp.size).sum
 |[],T,_=>yn
 | c::l,T,h=>by
   obtain⟨h1,h2,h3,h4⟩:=h c List.mem_cons_self;have e:=(kids1 h2).2;have g:=hgo (c.kid 0) 0 yf (h3.kid yf) h4;have nt:=h3.neat hn;have a:=name_len nt.a;have b:=name_len nt.b;have cc:=name_len nt.c;refine Lf (ops_len hn hgo l _ (fun x hx=>h x (List.mem_cons_of_mem _ hx))) ?_;simp only[opT,List.length_append,List.length_cons,List.length_nil,List.map_cons,List.sum_cons];omega
theorem bare_len {ns:List Nd}(hn:∀m∈ns,Neat m):∀F,TextR ns (showZ F) F/\ ∀t,t.size<=F->Stands ns t->Ex t->(bareZ F t).length+2<=60*t.size:=by
 intro F;induction F with
 |zero=>exact⟨fun t _ h=>jn,fun t h=>jn⟩
 | succ F ih=>
   have key:∀t,t.size<=F+1->Stands ns t->Ex t->(bareZ (F+1) t).length+2<=60*t.size:=by
    intro t hF hs hx;have hg:=hs.toGood;have nt:=hs.neat hn;have na:=name_len nt.a;have nb:=name_len nt.b;have hp:=t.size_pos;by_cases k1:t.n.kind=1
    .rw[bare1 k1];have:=nt.num k1;have:=Lib.itoa_length_le t.n.num yf yf;omega
    by_cases k2:t.n.kind=2
    .rw[bare2 k2];split<;>simp<;>omega
    by_cases k3:t.n.kind=3
    .rw[bare3 k3];simp only[text3,List.length_cons,List.length_nil];omega
    by_cases k4:t.n.kind=4
    .rw[bare4 k4];simp only[text4,List.length_cons,List.length_nil];omega
    by_cases k5:t.n.kind=5
    .rw[bare5 k5];simp only[text5];omega
    by_cases k6:t.n.kind=6
    .rw[bare6 k6];have hc:=z19 hg k6 (c:=1) rfl;have e1:=(kids1 hc).2;have g0:=ih.1 (t.kid 0) 0 yf (hs.kid yf) (hx.1.ex yf (z14 yf _));have p0:=(t.kid 0).size_pos;simp only[text6,List.length_append,List.length_cons,List.length_nil];omega
    by_cases k7:t.n.kind=7
    .rw[bare7 k7];have hc:=z19 hg k7 (c:=2) rfl;have e1:=(kids2 hc).2;have g0:=ih.1 (t.kid 0) 5 yf (hs.kid yf) (hx.1.ex yf (z14 yf _));have g1:=ih.1 (t.kid 1) 6 yf (hs.kid yf) (hx.1.ex yf (z14 yf _));have p0:=(t.kid 0).size_pos;have p1:=(t.kid 1).size_pos;simp only[text7,List.length_append,List.length_cons,List.length_nil];omega
    by_cases k8:t.n.kind=8
    .rw[bare8 k8];have hc:=z19 hg k8 (c:=2) rfl;have e1:=(kids2 hc).2;have g0:=ih.1 (t.kid 0) 0 yf (hs.kid yf) (hx.1.ex yf (z14 yf _));have g1:=ih.1 (t.kid 1) 0 yf (hs.kid yf) (hx.1.ex yf (z14 yf _));have p0:=(t.kid 0).size_pos;have p1:=(t.kid 1).size_pos;simp only[text8,List.length_append,List.length_cons,List.length_nil];omega
    by_cases k9:t.n.kind=9
    .rw[bare9 k9];have hc:=z19 hg k9 (c:=2) rfl;have e1:=(kids2 hc).2;have g0:=ih.1 (t.kid 0) 0 yf (hs.kid yf) (hx.1.ex yf (z14 yf _));have g1:=ih.1 (t.kid 1) 0 yf (hs.kid yf) (hx.1.ex yf (z14 yf _));have p0:=(t.kid 0).size_pos;have p1:=(t.kid 1).size_pos;simp only[text9,List.length_append,List.length_cons,List.length_nil];omega
    by_cases k10:t.n.kind=10
    .rw[bare10 k10];have hc:=z19 hg k10 (c:=3) rfl;have e1:=(kids3 hc).2;have g0:=ih.1 (t.kid 0) 0 yf (hs.kid yf) (hx.1.ex yf (z14 yf _));have g1:=ih.1 (t.kid 1) 0 yf (hs.kid yf) (hx.1.ex yf (z14 yf _));have g2:=ih.1 (t.kid 2) 0 yf (hs.kid yf) (hx.1.ex yf (z14 yf _));have p0:=(t.kid 0).size_pos;have p1:=(t.kid 1).size_pos;have p2:=(t.kid 2).size_pos;simp only[text10,List.length_append,List.length_cons,List.length_nil];omega
    by_cases k11:t.n.kind=11
    .rw[bare11 k11];have hc:=z19 hg k11 (c:=2) rfl;have e1:=(kids2 hc).2;have g0:=ih.1 (t.kid 0) 3 yf (hs.kid yf) (hx.1.ex yf (z14 yf _));have g1:=ih.1 (t.kid 1) 4 yf (hs.kid yf) (hx.1.ex yf (z14 yf _));have p0:=(t.kid 0).size_pos;have p1:=(t.kid 1).size_pos;simp only[text11,List.length_append,List.length_cons,List.length_nil];omega
    by_cases k12:t.n.kind=12
    .rw[bare12 k12];have hc:=z19 hg k12 (c:=2) rfl;have e1:=(kids2 hc).2;have g0:=ih.1 (t.kid 0) 3 yf (hs.kid yf) (hx.1.ex yf (z14 yf _));have g1:=ih.1 (t.kid 1) 4 yf (hs.kid yf) (hx.1.ex yf (z14 yf _));have p0:=(t.kid 0).size_pos;have p1:=(t.kid 1).size_pos;simp only[text12,List.length_append,List.length_cons,List.length_nil];omega
    by_cases k13:t.n.kind=13
    .rw[bare13 k13];have hc:=z19 hg k13 (c:=2) rfl;have e1:=(kids2 hc).2;have g0:=ih.1 (t.kid 0) 4 yf (hs.kid yf) (hx.1.ex yf (z14 yf _));have g1:=ih.1 (t.kid 1) 5 yf (hs.kid yf) (hx.1.ex yf (z14 yf _));have p0:=(t.kid 0).size_pos;have p1:=(t.kid 1).size_pos;simp only[text13,List.length_append,List.length_cons,List.length_nil];omega
    by_cases k14:t.n.kind=14
    .rw[bare14 k14];have hc:=z19 hg k14 (c:=2) rfl;have e1:=(kids2 hc).2;have g0:=ih.1 (t.kid 0) 3 yf (hs.kid yf) (hx.1.ex yf (z14 yf _));have g1:=ih.1 (t.kid 1) 3 yf (hs.kid yf) (hx.1.ex yf (z14 yf _));have p0:=(t.kid 0).size_pos;have p1:=(t.kid 1).size_pos;simp only[text14,List.length_append,List.length_cons,List.length_nil];omega
    by_cases k15:t.n.kind=15
    .rw[bare15 k15];have hc:=z19 hg k15 (c:=2) rfl;have e1:=(kids2 hc).2;have g0:=ih.1 (t.kid 0) 3 yf (hs.kid yf) (hx.1.ex yf (z14 yf _));have g1:=ih.1 (t.kid 1) 3 yf (hs.kid yf) (hx.1.ex yf (z14 yf _));have p0:=(t.kid 0).size_pos;have p1:=(t.kid 1).size_pos;simp only[text15,List.length_append,List.length_cons,List.length_nil];omega
    by_cases k19:t.n.kind=19
    .rw[bare19 k19];have hc:=z19 hg k19 (c:=2) rfl;have e1:=(kids2 hc).2;have g0:=ih.1 (t.kid 0) 2 yf (hs.kid yf) (hx.1.ex yf (z14 yf _));have g1:=ih.1 (t.kid 1) 1 yf (hs.kid yf) (hx.1.ex yf (z14 yf _));have p0:=(t.kid 0).size_pos;have p1:=(t.kid 1).size_pos;simp only[text19,List.length_append,List.length_cons,List.length_nil];omega
    by_cases k16:t.n.kind=16
    .rw[bare16 k16];have hc:=z19 hg k16 (c:=2) rfl;have e1:=(kids2 hc).2;have g0:=ih.1 (t.kid 0) 0 yf (hs.kid yf) (hx.1.ex yf (z14 yf _));have g1:=ih.1 (t.kid 1) 0 yf (hs.kid yf) (hx.1.ex yf (z14 yf _));have p0:=(t.kid 0).size_pos;have p1:=(t.kid 1).size_pos;simp only[text16,List.length_append,List.length_cons,List.length_nil];omega
    by_cases k17:t.n.kind=17
    .rw[bare17 k17];have hc:=z19 hg k17 (c:=1) rfl;have e1:=(kids1 hc).2;have g0:=ih.1 (t.kid 0) 6 yf (hs.kid yf) (hx.1.ex yf (z14 yf _));have p0:=(t.kid 0).size_pos;simp only[text17,List.length_append,List.length_cons,List.length_nil];omega
    by_cases k18:t.n.kind=18
    .rw[bare18 k18];have hc:=z19 hg k18 (c:=1) rfl;have e1:=(kids1 hc).2;have g0:=ih.1 (t.kid 0) 6 yf (hs.kid yf) (hx.1.ex yf (z14 yf _));have p0:=(t.kid 0).size_pos;simp only[text18,List.length_append,List.length_cons,List.length_nil];omega
    by_cases k21:t.n.kind=21
    .rw[bare21 k21];have hc:=z19 hg k21 (c:=1) rfl;have e1:=(kids1 hc).2;have g0:=ih.1 (t.kid 0) 6 yf (hs.kid yf) (hx.1.ex yf (z14 yf _));have p0:=(t.kid 0).size_pos;simp only[text21,List.length_append,List.length_cons,List.length_nil];omega
    by_cases k22:t.n.kind=22
    .rw[bare22 k22];have hc:=z19 hg k22 (c:=1) rfl;have e1:=(kids1 hc).2;have g0:=ih.1 (t.kid 0) 6 yf (hs.kid yf) (hx.1.ex yf (z14 yf _));have p0:=(t.kid 0).size_pos;simp only[text22,List.length_append,List.length_cons,List.length_nil];omega
    by_cases k20:t.n.kind=20
    .rw[bare20 k20];have hc:=z19 hg k20 (c:=3) rfl;have e1:=(kids3 hc).2;have g0:=ih.1 (t.kid 0) 0 yf (hs.kid yf) (hx.1.ex yf (z14 yf _));have g1:=ih.1 (t.kid 1) 0 yf (hs.kid yf) (hx.1.ex yf (z14 yf _));have g2:=ih.1 (t.kid 2) 0 yf (hs.kid yf) (hx.1.ex yf (z14 yf _));have p0:=(t.kid 0).size_pos;have p1:=(t.kid 1).size_pos;have p2:=(t.kid 2).size_pos;simp only[text20,List.length_append,List.length_cons,List.length_nil];omega
    have hh:t.n.kind=23\/t.n.kind=24:=by
     have h1:=(arity_at hg).1;have h2:=kinds t.n.kind;have h3:=hx.2;by_cases h4:t.n.kind<1\/26<t.n.kind
     .exact absurd (tab_other h4) h1
     .omega
    have hc:=((arity_at hg).2.1 jo).1;have hm:=kidsM hc;have hd:=hs.head hh;have hd1:=(hd (t.kid 1) (by rw[hm.1];simp)).2;have e1:=(kids1 hd1).2;have g0:=ih.1 (t.kid 0) 0 yf (hs.kid yf) (hx.1.ex yf (role_first _));have g1:=ih.1 ((t.kid 1).kid 0) 0 yf ((hs.kid yf).kid yf) (clause_ex hx.1 yf hd1);have nt1:=(hs.kid (i:=1) yf).neat hn;have na1:=name_len nt1.a;have hol:=ops_len hn ih.1 (t.kids.drop 2) ((if t.n.kind=24 then [115,104,97,108,108,111,119,32] else [104,97,110,100,108,101,32])++showZ F (t.kid 0) 0++ [32,119,105,116,104]++retT (t.kid 1) (showZ F ((t.kid 1).kid 0) 0)) (fun c hc2=>by
     have hs4:=sum_mem _ c hc2;have hc3:c∈t.kids.drop 1:=by
      rw[show(2:Nat)=1+1 from rfl,<-List.drop_drop]at hc2;exact List.mem_of_mem_drop hc2
     obtain⟨j,hj,rfl⟩:=List.getElem_of_mem hc2;have hlen:(t.kids.drop 2).length=t.k.count-2:=jp;have hjk:(t.kids.drop 2)[j]=t.kid (2+j):=by
      unfold Tp.kid;simp[List.getD,show 2+j<t.kids.length by rw[t.kids_len];omega]
     rw[hjk]at hs4 hc3 |-;have h7:=(hd _ hc3).2;exact⟨yf,h7,hs.kid yf,clause_ex hx.1 yf h7⟩)
    rw[bareH hh];have hif:(if t.n.kind=24 then [115,104,97,108,108,111,119,32] else [104,97,110,100,108,101,32]:List UInt8).length<=8:=by split<;>simp
    simp only[List.length_append,retT,List.length_cons,List.length_nil]at hol;simp only[handT,List.length_append,List.length_cons,List.length_nil];simp only[retT] at*;omega
   exact⟨fun t least hF hs hx=>Lf (br_len _ _ _) (key t hF hs hx),key⟩
end
end Go.Proofs.YtfbojelpdccjaaaGreatDoor
