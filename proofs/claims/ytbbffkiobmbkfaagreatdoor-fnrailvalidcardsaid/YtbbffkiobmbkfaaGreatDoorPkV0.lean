import Derived.Test.YtbbffkiobmbkfaaGreatDoorPkVM
import Derived.Test.YtbbffkiobmbkfaaGreatDoorRows
import Derived.Deep.OwnRows
import Derived.Deep.Slices
import Derived.Maps.OwnOps
import Derived.Maps.Views
import Derived.Lib.OthersKept
open Go.Proofs.Tryz
open Go.Value Go.IntKind
set_option maxRecDepth 100000
namespace Go.Proofs.YtbbffkiobmbkfaaGreatDoor
open Go.RowKit
variable {s:ByteArray}{p:Nat}
section
open Go.RowKit
structure Nd where
 kind:Int
 num:Int
 a:ByteArray
 b:ByteArray
 c:ByteArray
 kids:Int
instance:Inhabited Nd:=⟨⟨0,0,ByteArray.empty,ByteArray.empty,ByteArray.empty,0⟩⟩
def Nd.cell (n:Nd):Nat->Value
 |0=>int i64 n.kind
 |1=>int i64 n.num
 |2=> .string n.a
 |3=> .string n.b
 |4=> .string n.c
 |_=>int i64 n.kids
def NodesAt (w:World) (b off:Nat) (ns:List Nd):Prop:=
 ∀k,k<ns.length-> ∀c,c<6->w.cell? ⟨b,off+k*6+c,none⟩=some ((ns.getD k default).cell c)
def Short (ns:List Nd):Prop:= ∀n∈ns,n.a.size<=maxLen/\n.b.size<=maxLen/\n.c.size<=maxLen
theorem NodesAt.below {w w':World}{b off B:Nat}{ns:List Nd}(h:NodesAt w b off ns) (hb:Below B w w') (hB:b<B):NodesAt w' b off ns:=
 fun k hk c hc=>(hb.cell hB).trans (h k hk c hc)
def endGo (L:Nat):List Nd->Nat->Nat->Int
 |_,0,pos=>pos
 |[],_+1,_=> -1
 |n::r,owed+1,pos=>if n.kids<0\/(L:Int)<n.kids then -1 else endGo L r (owed+n.kids.toNat) (pos+1)
def treeEnd (ns:List Nd) (at_:Int):Int:=if at_<0\/(ns.length:Int)<=at_ then -1 else endGo ns.length (ns.drop at_.toNat) 1 at_.toNat
theorem endGo_zero (L:Nat) (r:List Nd) (pos:Nat):endGo L r 0 pos=pos:=by cases r<;>rfl
theorem endGo_short (L:Nat):∀(r:List Nd) (owed pos:Nat),r.length<owed->endGo L r owed pos= -1
 |r,0,pos,h=>ya
 |[],o+1,pos,_=>rfl
 | n::r,o+1,pos,h=>by
   unfold endGo;split
   .rfl
   .exact endGo_short L r _ _ (by simp at h;omega)
theorem drop_at {ns:List Nd}(hp:p<ns.length):ns.drop p=ns.getD p default::ns.drop (p+1):=by
 rw[List.drop_eq_getElem_cons hp];simp[List.getD,Lr hp]
theorem endGo_bad {L:Nat}{ns:List Nd}{o:Nat}(ho:0<o) (hp:p<ns.length) (hk:(ns.getD p default).kids<0\/(L:Int)<(ns.getD p default).kids):endGo L (ns.drop p) o p= -1:=by
 obtain⟨o',rfl⟩:∃o',o=o'+ 1:=⟨o-1,ya⟩
 rw[drop_at hp];unfold endGo;rw[if_pos hk]
theorem endGo_step {L:Nat}{ns:List Nd}{o:Nat}(ho:0<o) (hp:p<ns.length) (hk:¬ ((ns.getD p default).kids<0\/(L:Int)<(ns.getD p default).kids)) :
 endGo L (ns.drop (p+1)) (o-1+(ns.getD p default).kids.toNat) (p+1)=endGo L (ns.drop p) o p:=by
 obtain⟨o',rfl⟩:∃o',o=o'+ 1:=⟨o-1,ya⟩
 rw[drop_at hp];show _=endGo L (_::_) (o'+ 1) p;rw[endGo,if_neg hk];rfl
theorem z59 (b off cap:Nat) (ns:List Nd) (at_:Int) (w:World) (hn:NodesAt w b off ns) (hm:ns.length<=1048576) :
 Calls prog 63 #[.slice (some ⟨b,off,none⟩) ns.length cap,int i64 at_] w fun e w'=> e=.returned (int i64 (treeEnd ns at_))/\w=w':= by
 obtain⟨R,hR⟩:∃R,treeEnd ns at_=R:=⟨_,rfl⟩
 rw[hR];obtain⟨len,hlen⟩:∃len,ns.length=len:=⟨_,rfl⟩
 rw[hlen]at hm |-;unfold treeEnd at hR;rw[hlen]at hR;by_cases h0:at_<0
 .rw[if_pos (Or.inl h0)]at hR;subst hR;go_enter func63,ntmps63
  go_wp2_with fail
  go_ret;exact⟨rfl,rfl⟩
 obtain⟨p0,rfl⟩:=Int.eq_ofNat_of_zero_le (show 0<=at_ by omega);by_cases h1:(len:Int)<=(p0:Int)
 .rw[if_pos (Or.inr h1)]at hR;subst hR;go_enter func63,ntmps63
  go_wp2_with fail
  go_ret;exact⟨rfl,rfl⟩
 rw[if_neg ya,Lp]at hR;have HR:O (endGo len (ns.drop p0) 1 p0=R):=hR;have Hlen:O (ns.length=len):=hlen;clear hR hlen;go_enter func63,ntmps63
 go_wp2_with fail
 go_loop [1,5] (fun a o=> ∃p q:Nat,a=int i64 p/\o=int i64 q/\p<=len/\q<=1+p*1048576/\O (endGo len (ns.drop p) q p=R)) (fun a _=>len-(intOf a).toNat)
 case atStart=>exact⟨p0,1,rfl,rfl,ya,ya,HR⟩
 case round=>
  obtain⟨p,q,rfl,rfl,hp,hq,HE⟩:=hrel;clear HR;by_cases hq0:q=0
  .subst hq0;have hE:=HE.o;rw[endGo_zero]at hE;subst hE;clear HE;go_wp2_with fail
   go_ret;exact⟨rfl,rfl⟩
  have hqp:(0:Int)<(q:Int):=ya;by_cases hpl:p<len
  .have c5:=hn p (by rw[Hlen.o];exact hpl) 5 ya;obtain⟨n,hnd⟩:∃n,ns.getD p default=n:=⟨_,rfl⟩
   rw[hnd]at c5;have hpl':p<ns.length:=by rw[Hlen.o];exact hpl
   have hbad:(n.kids<0\/(len:Int)<n.kids)->O (R= -1):=fun h=>by
    rw[<-HE.o];exact endGo_bad ya hpl' zq
   have hstep:¬ (n.kids<0\/(len:Int)<n.kids)->O (endGo len (ns.drop (p+1)) (q-1+n.kids.toNat) (p+1)=R):=fun h=>by
    rw[<-HE.o,<-hnd];exact endGo_step ya hpl' zq
   simp only[Nd.cell]at c5;clear hn HE hnd hq0;by_cases hk0:n.kids<0
   .have HB:=hbad (Or.inl hk0);clear hbad hstep;go_wp2_with fail
    go_ret;exact⟨zr,rfl⟩
   by_cases hk1:(len:Int)<n.kids
   .have HB:=hbad (Or.inr hk1);clear hbad hstep;go_wp2_with fail
    go_ret;exact⟨zr,rfl⟩
   have HS:=hstep ya;clear hbad hstep;go_wp2_with fail
   refine⟨⟨p+1,q-1+n.kids.toNat,yq,?_,ya,ya,HS⟩,zu⟩;congr 1
   omega
  ·have HB:O (R= -1):=by
    have hE:=HE.o;rw[endGo_short len _ q p zv]at hE;exact hE.symm
   clear HE;go_wp2_with fail
   go_ret;exact⟨zr,rfl⟩
theorem implEnd_calls (b off cap:Nat) (ns:List Nd) (at_:Int) (w:World) (hn:NodesAt w b off ns) (hm:ns.length<=1048576) (hat:at_<=9223372036854775807) :
 Calls prog 86 #[.slice (some ⟨b,off,none⟩) ns.length cap,int i64 at_] w fun e w'=> e=.returned (int i64 (treeEnd ns at_))/\w=w':= by
 obtain⟨R,hR⟩:∃R,treeEnd ns at_=R:=⟨_,rfl⟩
 rw[hR];obtain⟨len,hlen⟩:∃len,ns.length=len:=⟨_,rfl⟩
 rw[hlen]at hm |-;unfold treeEnd at hR;rw[hlen]at hR;by_cases h0:at_<0
 .rw[if_pos (Or.inl h0)]at hR;subst hR;clear hat;go_enter func86,ntmps86
  go_wp2_with fail
  go_ret;exact⟨rfl,rfl⟩
 obtain⟨p0,rfl⟩:=Int.eq_ofNat_of_zero_le (show 0<=at_ by omega);by_cases h1:(len:Int)<=(p0:Int)
 ·rw [if_pos (Or.inr h1)]at hR;subst hR;have hw:O (wrap64 ((len:Int)-(p0:Int))=(len:Int)-(p0:Int)):=by
   show wrap64 _=_;unfold wrap64;omega
  have hgt:wrap64 ((len:Int)-(p0:Int))<1:=by rw[hw.o];omega
  clear hat hw;go_enter func86,ntmps86
  go_wp2_with fail
  go_loop [1,5] (fun a o=>a=int i64 p0/\o=int i64 1) (fun _ _=>0)
  case atStart=>exact⟨rfl,rfl⟩
  case round=>
   obtain⟨rfl,rfl⟩:=hrel;go_wp2_with fail
   go_ret;exact⟨rfl,rfl⟩
 rw[if_neg ya,Lp]at hR;have HR:O (endGo len (ns.drop p0) 1 p0=R):=hR;have Hlen:O (ns.length=len):=hlen;clear hR hlen hat;go_enter func86,ntmps86
 go_wp2_with fail
 go_loop [1,5] (fun a o=> ∃p q:Nat,a=int i64 p/\o=int i64 q/\p<=len/\q<=1+p*1048576/\O (endGo len (ns.drop p) q p=R)) (fun a _=>len-(intOf a).toNat)
 case atStart=>exact⟨p0,1,rfl,rfl,ya,ya,HR⟩
 case round=>
  obtain⟨p,q,rfl,rfl,hp,hq,HE⟩:=hrel;clear HR;by_cases hq0:q=0
  .subst hq0;have hE:=HE.o;rw[endGo_zero]at hE;subst hE;clear HE;go_wp2_with fail
   go_ret;exact⟨rfl,rfl⟩
  have hqp:(0:Int)<(q:Int):=ya;by_cases hpl:(len:Int)-(p:Int)<(q:Int)
  ·have HB:O (R= -1):=by
    have hE:=HE.o;rw[endGo_short len _ q p zv]at hE;exact hE.symm
   clear HE;go_wp2_with fail
   go_ret;exact⟨zr,rfl⟩
  .have hpl':p<ns.length:=by rw[Hlen.o];omega
   have c5:=hn p hpl' 5 ya;obtain⟨n,hnd⟩:∃n,ns.getD p default=n:=⟨_,rfl⟩
   rw[hnd]at c5;have hbad:(n.kids<0\/(len:Int)<n.kids)->O (R= -1):=fun h=>by
    rw[<-HE.o];exact endGo_bad ya hpl' zq
   have hstep:¬ (n.kids<0\/(len:Int)<n.kids)->O (endGo len (ns.drop (p+1)) (q-1+n.kids.toNat) (p+1)=R):=fun h=>by
    rw[<-HE.o,<-hnd];exact endGo_step ya hpl' zq
   simp only[Nd.cell]at c5;have hpl2:p<len:=ya;clear hn HE hnd hq0 hpl';by_cases hk0:n.kids<0
   .have HB:=hbad (Or.inl hk0);clear hbad hstep;go_wp2_with fail
    go_ret;exact⟨zr,rfl⟩
   by_cases hk1:(len:Int)<n.kids
   .have HB:=hbad (Or.inr hk1);clear hbad hstep;go_wp2_with fail
    go_ret;exact⟨zr,rfl⟩
   have HS:=hstep ya;clear hbad hstep;go_wp2_with fail
   refine⟨⟨p+1,q-1+n.kids.toNat,yq,?_,ya,ya,HS⟩,zu⟩;congr 1
   omega
inductive Fo where
 |none:Fo
 |tree (n:Nd) (kids rest:Fo):Fo
namespace Fo
def flat:Fo->List Nd
 |.none=> []
 |.tree n k r=>n::(k.flat++r.flat)
def count:Fo->Nat
 |.none=>0
 |.tree _ _ r=>r.count+1
def deep:Fo->Nat
 |.none=>0
 |.tree _ k r=>max (k.deep+1) r.deep
def wf:Fo->Prop
 |.none=>True
 |.tree n k r=>n.kids=k.count/\k.wf/\r.wf
def app:Fo->Fo->Fo
 |.none,g=>g
 |.tree n k r,g=> .tree n k (r.app g)
theorem app_flat:∀(f g:Fo),(f.app g).flat=f.flat++g.flat
 |.none,_=>rfl
 |.tree n k r,g=>by simp[app,flat,app_flat r g]
theorem app_count:∀(f g:Fo),(f.app g).count=f.count+g.count
 |.none,g=>by simp[app,count]
 |.tree n k r,g=>by simp only[app,count,app_count r g];omega
theorem app_wf:∀(f g:Fo),(f.app g).wf↔f.wf/\g.wf
 |.none,g=>by simp[app,wf]
 |.tree n k r,g=>by simp only[app,wf,app_wf r g];constructor<;>(intro h;simp_all)
theorem split:∀(f:Fo) (i:Nat),i<=f.count-> ∃g h:Fo,f=g.app h/\g.count=i
 |f,0,_=>⟨.none,f,rfl,rfl⟩
 |.none,i+1,h=>by simp[count]at h
 | .tree n k r,i+1,h=>by
   obtain⟨g,h',e,hc⟩:=split r i (by simp[count]at h;omega);exact⟨.tree n k g,h',zw,by simp[count,hc]⟩
theorem count_le:∀(f:Fo),f.count<=f.flat.length
 |.none=>La
 | .tree n k r=>by
   have:=count_le r;simp only[count,flat,Ll,Lk];omega
theorem deep_le:∀(f:Fo),f.deep<=f.flat.length
 |.none=>La
 | .tree n k r=>by
   have:=deep_le k;have:=deep_le r;simp only[deep,flat,Ll,Lk];omega
theorem end_of:∀(f:Fo) (L o pos:Nat) (suf:List Nd),f.wf->f.flat.length<=L->endGo L (f.flat++suf) (f.count+o) pos=endGo L suf o (pos+f.flat.length)
 |.none,L,o,pos,suf,_,_=>by simp[flat,count]
 | .tree n k r,L,o,pos,suf,h,hL=>by
   obtain⟨hn,hk,hr⟩:=h;have hc:=count_le k;simp only[flat,Ll,Lk]at hL;have e:(Fo.tree n k r).count+o=r.count+o+1:=by simp only[count];omega
   rw[e];show endGo L (n::(k.flat++r.flat)++suf) (r.count+o+1) pos=_;rw[Ln,endGo,if_neg (by rw[hn];omega),hn,Lp,Lo,Nat.add_comm (r.count+o),end_of k L _ _ _ hk ya,end_of r L _ _ _ hr ya];congr 1
   simp only[flat,Ll,Lk];omega
theorem of_end:∀(r:List Nd) (L o pos:Nat),endGo L r o pos=pos+r.length-> ∃f:Fo,f.wf/\f.count=o/\f.flat=r
 | r,L,0,pos,h=>by
   rw[endGo_zero]at h;have:r= []:=Lu ya;exact⟨.none,trivial,rfl,this.symm⟩
 | [],L,o+1,pos,h=>by
   simp[endGo]at h
 | n::r,L,o+1,pos,h=>by
   rw[endGo]at h;split at h
   .simp only[Ll]at h;omega
   .rename_i hk;obtain⟨f,hf,hc,he⟩:=of_end r L _ _ (by rw[h];simp only[Ll];omega);obtain⟨g,g',hs,hg⟩:=split f n.kids.toNat ya;rw[hs]at hf hc he;rw[app_count]at hc;obtain⟨hw,hw'⟩:=(app_wf _ _).1 hf;refine⟨.tree n g g',⟨ya,hw,hw'⟩,by simp only[count];omega,?_⟩;rw[flat,<-app_flat,he]
end Fo
theorem treeEnd_at {ns:List Nd}{n:Nd}{k:Fo}{suf:List Nd}(hp:ns.drop p=n::(k.flat++suf)) (hn:n.kids=k.count) (hk:k.wf):treeEnd ns p=((p+1+k.flat.length:Nat):Int):=by
 have hl:(ns.drop p).length=1+k.flat.length+suf.length:=by rw[hp];simp only[Ll,Lk];omega
 rw[List.length_drop]at hl;have e:=Fo.end_of (.tree n k .none) ns.length 0 p suf ⟨hn,hk,trivial⟩ (by simp only[Fo.flat,Ll,Lk,Lm];omega);rw[endGo_zero]at e;simp only[Fo.flat,Fo.count,List.append_nil,Ln,Nat.zero_add,Nat.add_zero,Ll]at e;rw[treeEnd,if_neg ya,Lp,hp,e];omega
theorem tree_of {ns:List Nd}(h:treeEnd ns 0=ns.length):∃(n:Nd) (k:Fo),ns=n::k.flat/\n.kids=k.count/\k.wf:=by
 rw[treeEnd]at h;split at h
 .omega
 .obtain⟨f,hf,hc,he⟩:=Fo.of_end ns ns.length 1 0 zx;match f,hf,hc,he with
  |.none,_,hc,_=>simp[Fo.count]at hc
  | .tree n k r,hf,hc,he=>
    have:r=.none:=by
     cases r with
     |none=>rfl
     |tree=>simp[Fo.count]at hc
    subst this;exact⟨n,k,by rw[<-he];simp[Fo.flat],hf.1,hf.2.1⟩
end
section
open Go.RowKit Go.Maps Go.WideMaps
def keyBytes:List (List UInt8):=
 [[98,111,111,108],[99,97,115,101],[100,111],[101,102,102,101,99,116],[101,108,115,101],[101,110,100],
  [102,97,108,115,101],[102,110],[102,115,116],[104,97,110,100,108,101],[105,102],[105,110],[105,110,116],
  [108,101,116],[108,105,115,116],[110,105,108],[111,102],[112,114,105,110,116],[114,101,99],[114,101,116],
  [115,104,97,108,108,111,119],[115,110,100],[116,104,101,110],[116,114,117,101],[117,110,105,116],[119,105,116,104]]
def keyStrs:List ByteArray:=keyBytes.map fun l=>⟨l.toArray⟩
def isKey (s:ByteArray):Bool:=keyBytes.any (fun l=>l==s.toList)
theorem isKey_strs (s:ByteArray):keyStrs.any (fun x=>x.toList==s.toList)=isKey s:=by
 unfold keyStrs isKey;rw[List.any_map];congr 1
 funext l
 simp
theorem any_take_of {α:Type}(p:α->Bool) (ss:List α) (d:α) {k n:Nat}(hk:k<n) (hn:n<=ss.length) (h:p (ss.getD k d)=true):(ss.take n).any p=true:=by
 have e:ss.getD k d=ss[k]'(ya):=by simp[List.getD,Lr (show k<ss.length by omega)]
 rw[List.any_eq_true];refine⟨ss[k]'(ya),?_,e ▸ h⟩;rw[List.mem_take_iff_getElem];exact⟨k,ya,rfl⟩
theorem any_take_none {α:Type}(p:α->Bool) (ss:List α) (d:α) {n:Nat}(hn:n<=ss.length) (h:∀j,j<n->p (ss.getD j d)=false):(ss.take n).any p=false:=by
 rw[List.any_eq_false];intro x hx;rw[List.mem_take_iff_getElem]at hx;obtain⟨j,hj,rfl⟩:=hx;have e:ss.getD j d=ss[j]'(ya):=by simp[List.getD,Lr (show j<ss.length by omega)]
 have:=h j ya;rw[e]at this;simp[this]
theorem in_calls (b off n cap:Nat) (ss:List ByteArray) (s:ByteArray) (w:World) (hn:n<=ss.length) (hn2:n<=1000000)
 (hc:∀j,j<ss.length->w.cell? ⟨b,off+j,none⟩=some (.string (ss.getD j ByteArray.empty))) :
 Calls prog 69 #[.slice (some ⟨b,off,none⟩) n cap,.string s] w fun e w'=> e=.returned (.bool ((ss.take n).any (fun x=>x.toList==s.toList)))/\w'= w:=by
 go_enter func69,ntmps69
 go_wp2
 go_loop [5] (fun i=> ∃k:Nat,k<=n/\i=int i64 k/\ ∀j,j<k->((ss.getD j ByteArray.empty).toList==s.toList)=false) (fun i=>n-(intOf i).toNat)
 case atStart=>exact⟨0,Li _,rfl,fun j hj=>ya⟩
 case round=>
  obtain⟨k,hk,rfl,hno⟩:=hrel;have hcx:k<n->w.cell? ⟨b,off+k,none⟩=some (.string (ss.getD k ByteArray.empty)):=fun _=>hc k ya
  have hno':O (∀j,j<k->((ss.getD j ByteArray.empty).toList==s.toList)=false):=hno;clear hno;go_wp2
  .have hlt:k<n:=by assumption
   have hyes:((ss.getD k ByteArray.empty).toList==s.toList)=true:=zy;go_ret;refine⟨?_,rfl⟩;rw[any_take_of (fun x:ByteArray=>x.toList==s.toList) ss ByteArray.empty hlt hn hyes];rfl
  .rename_i hlt hnot;refine⟨⟨k+1,ya,yq,fun j hj=>?_⟩,zu⟩;by_cases hjk:j<k
   .exact hno'.o j hjk
   .have:j=k:=by omega
    subst this;exact hnot
  .have hkn:k=n:=by omega
   go_ret;refine⟨?_,rfl⟩;rw[any_take_none (fun x:ByteArray=>x.toList==s.toList) ss ByteArray.empty hn (hkn ▸ hno'.o)];rfl
theorem keys_calls (w:World) :
 Calls prog 109 #[] w fun e w'=> e=.returned (.slice (some ⟨w.heap.size,0,none⟩) 26 26)/\w'= w.alloc (.cells (keyStrs.map Value.string).toArray 9):=by
 go_enter func109,ntmps109
 go_wp2
 go_ret;exact⟨rfl,rfl⟩
theorem wpList_insert_own {H:Type}{P:Program}(w:World) {ops:Array Oper}{rest:List Oper}{o:Oper}{a:Act}{Q:Exit->Act->World->Prop}
 (hg:o.guard=none) (m x v:Operand) (t:TypeId) (hop:o.op=Op.insert t m x v)
 (k e:TypeId) (K:Keyed P k) (ht:P.underlying t=some (.map k e)) (R:Value->Option (DataW H×List MemPlace)) (b n:Nat) (D:DataW H)
 (hm:a.eval m=.map (some b)) (hown:w.ownsMap P k R b n D) (hn:n<maxLen) (key val:Value) (kl:Lit) (hx:a.eval x=key) (hv:a.eval v=val) (hkey:keyOf P k key=some kl)
 (d:DataW H) (ps:List MemPlace) (hval:R val=some (d,ps))
 (hK:∀w',w'.ownsMap P k R b (n+1) (D.put kl d)->w.grownBy w' (some b)->wpList P ops Q rest (a.put o.dst undef) w') :
 wpList P ops Q (o::rest) a w:=by
 refine wpList_plain hg fun K' hK'=> ?_
 obtain⟨w',hrun,r1,r2⟩:=hown.update K ht hn hkey hval;unfold Oper.wp;simp[execOp,hop,hm,hx,hv,hrun,Result.andThen];exact hK' _ _ (hK w' r1 r2)
theorem law9:Keyed prog 9:=string_keyed underlying9
theorem zero3 (w:World):(zeroValue 3).run prog w=.ok (int i64 0) w:=ye
theorem atKey_fold {H:Type}(u z:DataW H) (k:Lit):∀(acc:List Lit) (m:DataW H),IsMap m->(∀x∈acc,WideAt.IsKeyLit x)->
 (k∈acc->(acc.foldl (fun m x=>m.put x u) m).atKey k z=u)/\(k∉acc->(acc.foldl (fun m x=>m.put x u) m).atKey k z=m.atKey k z)
 |[],_,_,_=>yq
 | x::r,m,hm,hx=>by
   have ih:=atKey_fold u z k r _ (hm.put x u) (fun y hy=>hx y (by simp[hy]));rw[List.foldl_cons];refine⟨fun h=>?_,fun h=>?_⟩
   .by_cases h1:k∈r
    .exact ih.1 h1
    .have h2:k=x:=by simpa[h1]using h
     subst h2;rw[ih.2 h1,atKey_put_same hm (hx k yq)]
   .have h1:k∉r:=fun y=>h (by simp[y])
    have h2:k≠x:=fun y=>h (by simp[y])
    rw[ih.2 h1,atKey_put_other h2]
theorem key_lookup (s:ByteArray) (c:Int) (hat:(setOf (H:=Unit) (.lit (.int .i64 3)) (keyBytes.map Lit.string)).atKey (.string s.data.toList) (.lit (.int .i64 0))=.lit (.int .i64 c)) :
 (c==3)=isKey s:=by
 unfold setOf at hat;have hf:=atKey_fold (H:=Unit) (.lit (.int .i64 3)) (.lit (.int .i64 0)) (.string s.data.toList) (keyBytes.map Lit.string) _ isMap_empty (by intro x hx;rw[List.mem_map]at hx;obtain⟨l,_,rfl⟩:=hx;trivial);have hm:(Lit.string s.data.toList∈keyBytes.map Lit.string)↔isKey s=true:=by
  unfold isKey;rw[List.any_eq_true,List.mem_map,ByteArray.toList_eq];constructor
  .rintro⟨l,hl,e⟩;exact⟨l,hl,by simp at e;simp[e]⟩
  .rintro⟨l,hl,e⟩;exact⟨l,hl,by simp at e;simp[e]⟩
 by_cases h:isKey s=true
 .rw[hf.1 (hm.2 h)]at hat;simp at hat;rw[h,<-hat];rfl
 .rw[hf.2 (fun x=>h (hm.1 x))]at hat;have e:(DataW.map []:DataW Unit).atKey (.string s.data.toList) (.lit (.int .i64 0))=.lit (.int .i64 0):=rfl;rw[e]at hat;simp at hat;rw[Bool.eq_false_iff.2 h,<-hat];rfl
theorem implKey_calls (s:ByteArray) (hs:s.size<=maxLen) (w:World) :
 Calls prog 91 #[.string s] w fun e w'=> e=.returned (.bool (isKey s))/\Below w.heap.size w w':= by
 have hmm:= @run_makeMap prog;have hown:=World.ownsMap_made w prog 9 (plainElem (H:=Unit) prog 3);have hnx:Below w.heap.size w (w.alloc (.map #[] 0)):=Lb.alloc La _;go_enter func91,ntmps91
 go_wp2_with (first
  | (refine wpList_insert_own _ rfl _ _ _ 217 rfl 9 3 law9 underlying217 _ w.heap.size _ _ rfl hown zz _ _ _ rfl rfl (keyOf_string_mk underlying9 yk) _ [] (plainElem_int underlying3 yk) ?_
     intro w1 hown1 hgrow1;have hnx1:=hnx.grown hgrow1 hnx.size (fun j hj=>by cases hj;exact La);clear hown hnx hgrow1;have hown:=hown1;have hnx:=hnx1;clear hown1 hnx1)
  |(at_lookup;refine wpList_lookup_own_int _ rfl _ _ 217 rfl 9 3 .i64 law9 underlying217 underlying3 (zero3 _) w.heap.size _ _ rfl hown _ _ rfl (keyOf_string_mk underlying9 hs) ?_;intro c hat hwc))
 have hk:=key_lookup s c hat;clear hat;go_ret;exact⟨by rw[<-hk];rfl,hnx⟩
theorem keyCells (w:World) (j:Nat) (hj:j<keyStrs.length):(w.alloc (.cells (keyStrs.map Value.string).toArray 9)).cell? ⟨w.heap.size,0+j,none⟩=some (.string (keyStrs.getD j ByteArray.empty)):=by
 have h1:(w.alloc (.cells (keyStrs.map Value.string).toArray 9)).heap[w.heap.size]?=some (.cells (keyStrs.map Value.string).toArray 9):=(Ld w _).1;have e:keyStrs.getD j ByteArray.empty=keyStrs[j]:=by simp[List.getD,Lr hj]
 rw[e];unfold World.cell?;dsimp only;rw[h1];simp[hj]
theorem specKey_calls (s:ByteArray) (w:World) :
 Calls prog 67 #[.string s] w fun e w'=> e=.returned (.bool (isKey s))/\Below w.heap.size w w':= by
 go_enter func67,ntmps67
 go_wp2_with fail
 refine(keys_calls _).mono ?_;rintro e w1 ⟨rfl,rfl⟩;go_wp2_with fail
 refine(in_calls w.heap.size 0 26 26 keyStrs s _ yk yk (keyCells w)).mono ?_;rintro e w1 ⟨rfl,rfl⟩;go_wp2_with fail
 go_ret;refine⟨?_,Lb.alloc La _⟩;rw[<-isKey_strs s,show keyStrs.take 26=keyStrs from rfl];rfl
end
section
open Go.RowKit
def letterZ (x:Int):Bool:=decide (97<=x) && decide (x<=122)
def digitZ (x:Int):Bool:=decide (48<=x) && decide (x<=57)
theorem letter17 (x:Int) (w:World):Calls prog 66 #[.int .u8 x] w fun e w'=> e=.returned (.bool (letterZ x))/\w=w':= by
 go_enter func66,ntmps66
 go_wp2
 .go_ret;exact⟨by simp[letterZ, *],rfl⟩
 .go_ret
  exact ⟨by have:¬ 97<=x:=by omega
            simp[letterZ,this],rfl⟩
theorem digit18 (x:Int) (w:World):Calls prog 68 #[.int .u8 x] w fun e w'=> e=.returned (.bool (digitZ x))/\w=w':= by
 go_enter func68,ntmps68
 go_wp2
 .go_ret;exact⟨by simp[digitZ, *],rfl⟩
 .go_ret
  exact ⟨by have:¬ 48<=x:=by omega
            simp[digitZ,this],rfl⟩
theorem letter19 (x:Int) (w:World):Calls prog 89 #[.int .i32 x] w fun e w'=> e=.returned (.bool (letterZ x))/\w=w':= by
 go_enter func89,ntmps89
 go_wp2
 .go_ret;exact⟨by simp[letterZ, *],rfl⟩
 .go_ret
  exact ⟨by have:¬ 97<=x:=by omega
            simp[letterZ,this],rfl⟩
theorem digit20 (x:Int) (w:World):Calls prog 90 #[.int .i32 x] w fun e w'=> e=.returned (.bool (digitZ x))/\w=w':= by
 go_enter func90,ntmps90
 go_wp2
 .go_ret;exact⟨by simp[digitZ, *],rfl⟩
 .go_ret
  exact ⟨by have:¬ 48<=x:=by omega
            simp[digitZ,this],rfl⟩
def bz (s:ByteArray) (j:Nat):Int:=if h:j<s.size then ((s[j]'h).toNat:Int) else 0
theorem bz_at (s:ByteArray) {j:Nat}(h:j<s.size):bz s j=((s[j]'h).toNat:Int):=by simp[bz,h]
end
section
open Go.RowKit Go.Maps Go.WideMaps
def nameAt (s:ByteArray) (j:Nat):Bool:=letterZ (bz s j) || (j !=0 && digitZ (bz s j))
def nameOk (s:ByteArray):Bool:=decide (1<=s.size) && decide (s.size<=8) && (List.range s.size).all (nameAt s) && !isKey s
theorem nameOk_size (h:¬ (1<=s.size/\s.size<=8)):nameOk s=false:=by
 by_cases h1:1<=s.size
 .have h8:¬ s.size<=8:=fun x=>h ⟨h1,x⟩
  simp[nameOk,h8]
 .simp[nameOk,h1]
theorem nameOk_part {j:Nat}(hj:j<s.size) (h:nameAt s j=false):nameOk s=false:=by
 have:(List.range s.size).all (nameAt s)=false:=by
  rw[List.all_eq_false];exact⟨j,List.mem_range.2 hj,by simp[h]⟩
 simp[nameOk,this]
theorem nameOk_key (h:isKey s=true):nameOk s=false:=by simp[nameOk,h]
theorem nameOk_all (h1:1<=s.size) (h8:s.size<=8) (h:∀j,j<s.size->nameAt s j=true):nameOk s=!isKey s:=by
 have:(List.range s.size).all (nameAt s)=true:=by
  rw[List.all_eq_true];exact fun j hj=>h j (List.mem_range.1 hj)
 simp[nameOk,this,h1,h8]
theorem specName_calls (s:ByteArray) (w:World) :
 Calls prog 24 #[.string s] w fun e w'=> e=.returned (.bool (nameOk s))/\Below w.heap.size w w':= by
 by_cases h1:(s.size:Int)<1
 .have hno:O (nameOk s=false):=nameOk_size ya;go_enter func24,ntmps24
  go_wp2_with fail
  go_ret;exact⟨ja,Lb⟩
 by_cases h8:(8:Int)<s.size
 .have hno:O (nameOk s=false):=nameOk_size ya;go_enter func24,ntmps24
  go_wp2_with fail
  go_ret;exact⟨ja,Lb⟩
 have hpos:0<s.size:=ya
 cases hL:letterZ ((s[0]'hpos).toNat:Int) with
 | false=>
   have hno:O (nameOk s=false):=nameOk_part hpos (by simp[nameAt,bz_at s hpos,hL]);go_enter func24,ntmps24
   go_wp2_with (first|(go_at_call 66;refine(letter17 _ _).mono ?_;rintro e w1 ⟨rfl,rfl⟩))
   go_ret;exact⟨ja,Lb⟩
 | true=>
   cases hK:isKey s with
   | true=>
     have hno:O (nameOk s=false):=nameOk_key hK;go_enter func24,ntmps24
     go_wp2_with (first|(go_at_call 66;refine(letter17 _ _).mono ?_;rintro e w1 ⟨rfl,rfl⟩)|(go_at_call 67;refine(specKey_calls s _).mono ?_;rintro e w1 ⟨rfl,hb1⟩))
     go_ret;exact⟨ja,hb1⟩
   | false=>
     go_enter func24,ntmps24
     go_wp2_with (first|(go_at_call 66;refine(letter17 _ _).mono ?_;rintro e w1 ⟨rfl,rfl⟩)|(go_at_call 67;refine(specKey_calls s _).mono ?_;rintro e w1 ⟨rfl,hb1⟩))
     go_loop [3] (fun i=> ∃k:Nat,k<=s.size/\i=int i64 k/\ ∀j,j<k->(letterZ (bz s j) || digitZ (bz s j))=true) (fun i=>s.size-(intOf i).toNat)
     case atStart=>exact⟨0,Li _,rfl,fun j hj=>ya⟩
     case round=>
      obtain⟨k,hk,rfl,hno⟩:=hrel;have hno':O (∀j,j<k->(letterZ (bz s j) || digitZ (bz s j))=true):=hno;clear hno;go_wp2_with (first|(go_at_call 66;refine(letter17 _ _).mono ?_;rintro e w2 ⟨rfl,rfl⟩)|(go_at_call 68;refine(digit18 _ _).mono ?_;rintro e w2 ⟨rfl,rfl⟩))
      .have hlt:k<s.size:=by assumption
       have hyes:letterZ ((s[k]'hlt).toNat:Int)=true:=zy;refine⟨⟨k+1,ya,yq,fun j hj=>?_⟩,zu⟩;by_cases hjk:j<k
       .exact hno'.o j hjk
       .have e:j=k:=by omega
        rw[e,bz_at s hlt,hyes];rfl
      .have hlt:k<s.size:=by assumption
       have hnl:¬ letterZ ((s[k]'hlt).toNat:Int)=true:=zy;have hnd:(!digitZ ((s[k]'hlt).toNat:Int))=true:=zy;have hno:nameOk s=false:=nameOk_part hlt (by rw[nameAt,bz_at s hlt];simp at hnl hnd;simp[hnl,hnd]);go_ret;exact⟨by rw[hno];rfl,hb1⟩
      .have hlt:k<s.size:=by assumption
       have hd:(!digitZ ((s[k]'hlt).toNat:Int))=false:=zy;refine⟨⟨k+1,ya,yq,fun j hj=>?_⟩,zu⟩;by_cases hjk:j<k
       .exact hno'.o j hjk
       .have e:j=k:=by omega
        rw[e,bz_at s hlt];simp at hd;simp[hd]
      .have hge:¬ k<s.size:=by assumption
       have hyes:nameOk s=true:=by
        rw[nameOk_all ya ya (fun j hj=>?_),hK]
        .rfl
        .have h:=hno'.o j ya;unfold nameAt;by_cases hj0:j=0
         .subst hj0;rw[bz_at s hpos,hL];rfl
         .simp at h;rcases h with h|h
          .simp[h]
          .simp[h,hj0]
       go_ret;exact⟨by rw[hyes];rfl,hb1⟩
theorem implName_calls (s:ByteArray) (hs:s.size<=maxLen) (w:World) :
 Calls prog 38 #[.string s] w fun e w'=> e=.returned (.bool (nameOk s))/\Below w.heap.size w w':= by
 by_cases h1:(s.size:Int)<1
 .have hno:O (nameOk s=false):=nameOk_size ya;go_enter func38,ntmps38
  go_wp2_with fail
  go_ret;exact⟨ja,Lb⟩
 by_cases h8:(8:Int)<s.size
 .have hno:O (nameOk s=false):=nameOk_size ya;go_enter func38,ntmps38
  go_wp2_with fail
  go_ret;exact⟨ja,Lb⟩
 go_enter func38,ntmps38
 go_wp2_with fail
 go_loopg [] s.size (fun g wx=> ∃pos:Nat,wx.heap[w.heap.size]?=some (.stringIter s pos)/\Below w.heap.size w wx/\(∀j,j<pos->nameAt s j=true)/\s.size<=pos+g)
 case atStart=>exact⟨0,World.iter_heap w s 0,(Below.refl _ w).alloc La _,fun j hj=>ya,ya⟩
 case round=>
  obtain⟨pos,hit,hbw,hall,hfu⟩:=hrel;have hall':O (∀j,j<pos->nameAt s j=true):=hall;clear hall;by_cases hp:pos<s.size
  .obtain⟨g,rfl⟩:∃g,gk=g+1:=⟨gk-1,ya⟩
   by_cases ha:(s[pos]'hp).toNat<128
   .have hnx:∀ty,(Instr.next (.pointer (some ⟨w.heap.size,0,none⟩)) true ty).run prog wr=_:=fun ty=>Lib.run_next_ascii_at wr w.heap.size s pos ty hit hp ha
    have hit2:=Lib.iterAt_heap wr w.heap.size s pos (pos+1) hit;have hbw2:=Lib.below_iterAt hbw (k:=w.heap.size) La s (pos+1);obtain⟨W,hWd⟩:∃W,wr.iterAt w.heap.size s (pos+1)=W:=⟨_,rfl⟩
    rw[hWd]at hnx hit2 hbw2;have hit3:O (W.heap[w.heap.size]?=some (.stringIter s (pos+1))):=hit2;clear hWd hit hbw hit2;have hbz:O (bz s pos=((s[pos]'hp).toNat:Int)):=bz_at s hp;generalize ((s[pos]'hp).toNat:Int)=x at*
    cases hL:letterZ x with
    | true=>
      go_wp2_with (first|(go_at_call 89;refine(letter19 _ _).mono ?_;rintro e w2 ⟨rfl,rfl⟩)|(go_at_call 90;refine(digit20 _ _).mono ?_;rintro e w2 ⟨rfl,rfl⟩))
      go_roundg g
      case measure=>omega
      case rel=>
       refine⟨pos+1,hit3.o,hbw2,fun j hj=>?_,ya⟩;by_cases hjp:j<pos
       .exact hall'.o j hjp
       .have e:j=pos:=by omega
        rw[e,nameAt,hbz.o,hL];rfl
    | false=>
      by_cases h0:pos=0
      .have hno:O (nameOk s=false):=nameOk_part hp (by rw[nameAt,hbz.o,hL,h0];rfl);subst h0;go_wp2_with (first|(go_at_call 89;refine(letter19 _ _).mono ?_;rintro e w2 ⟨rfl,rfl⟩)|(go_at_call 90;refine(digit20 _ _).mono ?_;rintro e w2 ⟨rfl,rfl⟩))
       go_ret;exact⟨ja,hbw2⟩
      .have hz:((pos:Int)==0)=false:=by rw[beq_eq_false_iff_ne];omega
       cases hD:digitZ x with
       | true=>
         go_wp2_with (first|(go_at_call 89;refine(letter19 _ _).mono ?_;rintro e w2 ⟨rfl,rfl⟩)|(go_at_call 90;refine(digit20 _ _).mono ?_;rintro e w2 ⟨rfl,rfl⟩))
         go_roundg g
         case measure=>omega
         case rel=>
          refine⟨pos+1,hit3.o,hbw2,fun j hj=>?_,ya⟩;by_cases hjp:j<pos
          .exact hall'.o j hjp
          .have e:j=pos:=by omega
           rw[e,nameAt,hbz.o,hL,hD];simp[h0]
       | false=>
         have hno:O (nameOk s=false):=nameOk_part hp (by rw[nameAt,hbz.o,hL,hD];simp);go_wp2_with (first|(go_at_call 89;refine(letter19 _ _).mono ?_;rintro e w2 ⟨rfl,rfl⟩)|(go_at_call 90;refine(digit20 _ _).mono ?_;rintro e w2 ⟨rfl,rfl⟩))
         go_ret;exact⟨ja,hbw2⟩
   .have hnx:∀ty,(Instr.next (.pointer (some ⟨w.heap.size,0,none⟩)) true ty).run prog wr=_:=fun ty=>Lib.run_next_any_at wr w.heap.size s pos ty hit hp
    have hhi:=(decode_high s pos hp ya).1;have hbw2:=Lib.below_iterAt hbw (k:=w.heap.size) La s (pos+(Utf8.decode s pos).2);obtain⟨R,hR⟩:∃R,(Utf8.decode s pos).1=R:=⟨_,rfl⟩
    rw[hR]at hnx hhi;obtain⟨W,hWd⟩:∃W,wr.iterAt w.heap.size s (pos+(Utf8.decode s pos).2)=W:=⟨_,rfl⟩
    rw[hWd]at hnx hbw2;clear hWd hit hbw hR;have hL:letterZ (R:Int)=false:=by simp[letterZ];omega
    have hD:digitZ (R:Int)=false:=by simp[digitZ];omega
    have hno:O (nameOk s=false):=by
     have h1:letterZ ((s[pos]'hp).toNat:Int)=false:=by simp[letterZ];omega
     have h2:digitZ ((s[pos]'hp).toNat:Int)=false:=by simp[digitZ];omega
     exact nameOk_part hp (by rw[nameAt,bz_at s hp,h1,h2];simp)
    clear ha hhi;go_wp2_with (first|(go_at_call 89;refine(letter19 _ _).mono ?_;rintro e w2 ⟨rfl,rfl⟩)|(go_at_call 90;refine(digit20 _ _).mono ?_;rintro e w2 ⟨rfl,rfl⟩))
    all_goals go_ret
    all_goals exact⟨ja,hbw2⟩
  .have hnx:∀ty,(Instr.next (.pointer (some ⟨w.heap.size,0,none⟩)) true ty).run prog wr=_:=fun ty=>Lib.run_next_end_at wr w.heap.size s pos ty hit hp
   have hyes:O (nameOk s=!isKey s):=nameOk_all ya ya (fun j hj=>hall'.o j ya);go_wp2_with (first|(go_at_call 91;refine(implKey_calls s hs _).mono ?_;rintro e w2 ⟨rfl,hb2⟩))
   go_ret;exact⟨by rw[hyes.o];rfl,hbw.trans (hb2.mono hbw.size)⟩
end
end Go.Proofs.YtbbffkiobmbkfaaGreatDoor
