import Derived.Test.YtbbffkiobmbkfaaGreatDoorPkV20
open Go.Value Go.IntKind
namespace Go.Proofs.YtbbffkiobmbkfaaGreatDoor
open Go.RowKit Go.Deep
variable {x:ByteArray}{i:In}{N V n n' op p v:Int}{ss:List ByteArray}{D a f m q:Nat}{s:Sq}{t:Tp}
section
open Go.RowKit Go.Deep
structure En where
 i:In
 s:Sq
 o:Option (Nat×Nat)
instance:Inhabited En:=⟨⟨default,default,none⟩⟩
structure Fg where
 c:List En
 l:List Lt
def en (op a n v p:Int):En:=⟨⟨op,a,0,0⟩,⟨n,v,p⟩,none⟩
def Fg.app (g h:Fg):Fg:=⟨g.c++h.c,g.l++h.l⟩
def oneF (e:En):Fg:=⟨[e],[]⟩
def ledF (i:In) (s:Sq) (wh:Nat) (t:Tp) (ss:List ByteArray) (q:Nat):Fg:=⟨[⟨i,s,some (wh,ss.length)⟩],[⟨t,ss,q,wh⟩]⟩
def Cs.more (s:Cs) (g:Fg):Cs:=⟨s.o++g.c.map En.i,s.later++g.l⟩
theorem z63 (s:Cs) (g h:Fg):s.more (g.app h)=(s.more g).more h:=by simp[Cs.more,Fg.app]
theorem more_len (s:Cs) (g:Fg):(s.more g).o.length=s.o.length+g.c.length:=by simp[Cs.more]
theorem z62 (s:Cs) (e:En):s.more (oneF e)=s.put e.i:=by simp[Cs.more,oneF,Cs.put]
theorem more_led (s:Cs) (i:In) (x:Sq) (wh:Nat) (t:Tp) (ss:List ByteArray) (q:Nat):s.more (ledF i x wh t ss q)=(s.put i).wait ⟨t,ss,q,wh⟩:=by simp[Cs.more,ledF,Cs.put,Cs.wait]
theorem app_len (g h:Fg):(g.app h).c.length=g.c.length+h.c.length:=by simp[Fg.app]
theorem one_len (e:En):(oneF e).c.length=1:=rfl
theorem lead_past (s:Cs) (i:In) (g:Fg) (wh:Nat):((s.put i).more g).lead s.o.length wh=(s.put (i.lead wh ((s.o.length+1+g.c.length:Nat):Int))).more g:=by
 have h1:(s.o++ [i]++g.c.map En.i).getD s.o.length default=i:=by simp[List.getD]
 have h2:(s.o++ [i]++g.c.map En.i).length=s.o.length+1+g.c.length:=jd;unfold Cs.lead Cs.more Cs.put;simp only[h1,h2];congr 1
 simp
def boundF (go:Tp->List ByteArray->Nat->Int->Int->Fg) (t:Tp) (x:ByteArray) (ss:List ByteArray) (q:Nat) (v p:Int):Fg:=
 (oneF (en 12 0 ss.length (v+1) p)).app ((go t (ss++ [x]) (q+1) v p).app (oneF (en 13 0 (ss.length+1) (v+1) p)))
def ifF (go:Tp->List ByteArray->Nat->Int->Int->Fg) (t:Tp) (ss:List ByteArray) (q:Nat) (v p:Int):Fg:=
 let g0:=go (t.kid 0) ss q v p
 let g1:=go (t.kid 1) ss (q+g0.c.length+1) v p
 let g2:=go (t.kid 2) ss (q+g0.c.length+1+g1.c.length+1) v p
 g0.app ((oneF (en 10 ((q+g0.c.length+1+g1.c.length+1:Nat):Int) ss.length (v+1) p)).app (g1.app ((oneF (en 11 ((q+g0.c.length+1+g1.c.length+1+g2.c.length:Nat):Int) ss.length (v+1) p)).app g2)))
def caseF (go:Tp->List ByteArray->Nat->Int->Int->Fg) (t:Tp) (ss:List ByteArray) (q:Nat) (v p:Int):Fg:=
 let g0:=go (t.kid 0) ss q v p
 let g1:=go (t.kid 2) (ss++ [t.n.a,t.n.b]) (q+g0.c.length+1) v p
 let g2:=go (t.kid 1) ss (q+g0.c.length+1+g1.c.length+3) v p
 g0.app ((oneF (en 19 ((q+g0.c.length+1+g1.c.length+3:Nat):Int) ss.length (v+1) p)).app (g1.app ((oneF (en 13 0 (ss.length+2) (v+1) p)).app ((oneF (en 13 0 (ss.length+1) (v+1) p)).app ((oneF (en 11 ((q+g0.c.length+1+g1.c.length+3+g2.c.length:Nat):Int) ss.length (v+1) p)).app g2)))))
def opsF (es:List Ef) (ss:List ByteArray):Nat->List Tp->Fg
 |_,[]=>⟨[],[]⟩
 |q,c::r=>(ledF ⟨25,effPlace es c.n.a 0,0,0⟩ ⟨0,0,0⟩ 1 (c.kid 0) (ss++ [c.n.b,c.n.c]) q).app (opsF es ss (q+1) r)
def handF (es:List Ef) (go:Tp->List ByteArray->Nat->Int->Int->Fg) (t:Tp) (ss:List ByteArray) (q:Nat) (v p:Int):Fg:=
 let g0:=go (t.kid 0) ss (q+1) 0 3
 let qt:=q+1+g0.c.length+1
 let g1:=opsF es ss (qt+1) (t.kids.drop 2)
 (oneF ⟨⟨21,(qt:Int),if t.n.kind=23 then 1 else 0,((qt+1+g1.c.length:Nat):Int)⟩,⟨ss.length,v,p⟩,none⟩).app (g0.app ((oneF (en 23 0 ss.length 1 3)).app ((ledF ⟨24,0,t.n.kids-2,0⟩ ⟨0,0,0⟩ 0 ((t.kid 1).kid 0) (ss++ [(t.kid 1).n.a]) qt).app g1)))
def kidsF (go:Tp->List ByteArray->Nat->Int->Int->Fg) (ss:List ByteArray) (p:Int):List Tp->Nat->Int->Fg
 |[],_,_=>⟨[],[]⟩
 |c::r,q,v=>(go c ss q v p).app (kidsF go ss p r (q+(go c ss q v p).c.length) (v+1))
def fgZ (es:List Ef):Nat->Tp->List ByteArray->Nat->Int->Int->Fg
 |0,_,_,_,_,_=>⟨[],[]⟩
 | f+1,t,ss,q,v,p=>
   if t.n.kind=1 then oneF (en 1 t.n.num ss.length v p) else
   if t.n.kind=2 then oneF (en 2 t.n.num ss.length v p) else
   if t.n.kind=3 then oneF (en 3 0 ss.length v p) else
   if t.n.kind=4 then oneF (en 4 0 ss.length v p) else
   if t.n.kind=5 then oneF (en 5 (idxZ ss t.n.a) ss.length v p) else
   if t.n.kind=6 then ledF ⟨6,0,0,0⟩ ⟨ss.length,v,p⟩ 0 (t.kid 0) (ss++ [t.n.a]) q else
   if t.n.kind=8 then (fgZ es f (t.kid 0) ss q v p).app (boundF (fgZ es f) (t.kid 1) t.n.a ss (q+(fgZ es f (t.kid 0) ss q v p).c.length) v p) else
   if t.n.kind=9 then (ledF ⟨7,0,0,0⟩ ⟨ss.length,v,p⟩ 0 (t.kid 0) (ss++ [t.n.a,t.n.b]) q).app (boundF (fgZ es f) (t.kid 1) t.n.a ss (q+1) v p) else
   if t.n.kind=10 then ifF (fgZ es f) t ss q v p else
   if t.n.kind=20 then caseF (fgZ es f) t ss q v p else
   if t.n.kind=23\/t.n.kind=24 then handF es (fgZ es f) t ss q v p else
   (kidsF (fgZ es f) ss p t.kids q v).app (oneF ⟨lastZ es t.n,⟨ss.length,v+t.kids.length,p⟩,none⟩)
inductive KdF (t:Tp):Prop
 |leaf (h:t.n.kind=1\/t.n.kind=2\/t.n.kind=3\/t.n.kind=4)
 |var (h:t.n.kind=5)
 |fn (h:t.n.kind=6)
 |let_ (h:t.n.kind=8)
 |rec_ (h:t.n.kind=9)
 |if_ (h:t.n.kind=10)
 |case_ (h:t.n.kind=20)
 |hand (h:t.n.kind=23\/t.n.kind=24)
 |two (h:t.n.kind=7\/t.n.kind=16\/t.n.kind=19\/(11<=t.n.kind/\t.n.kind<=15))
 |one (h:t.n.kind=17\/t.n.kind=18\/t.n.kind=21\/t.n.kind=22)
theorem kd_of (hg:Good t) (h25:t.n.kind≠25) (h26:t.n.kind≠26):KdF t:=by
 have har:=(z69 hg).1;have hr:1<=t.n.kind/\t.n.kind<=26:=by
  rcases Int.lt_or_le t.n.kind 1 with hc|hc
  .exact absurd (tab_other (Or.inl hc)) har
  rcases Int.lt_or_le 26 t.n.kind with hd|hd
  .exact absurd (tab_other (Or.inr hd)) har
  exact⟨hc,hd⟩
 by_cases h1:t.n.kind<=4
 .exact .leaf ya
 by_cases h5:t.n.kind=5
 .exact .var h5
 by_cases h6:t.n.kind=6
 .exact .fn h6
 by_cases h8:t.n.kind=8
 .exact .let_ h8
 by_cases h9:t.n.kind=9
 .exact .rec_ h9
 by_cases h10:t.n.kind=10
 .exact .if_ h10
 by_cases h20:t.n.kind=20
 .exact .case_ h20
 by_cases h23:t.n.kind=23\/t.n.kind=24
 .exact .hand h23
 by_cases h17:t.n.kind=17\/t.n.kind=18\/t.n.kind=21\/t.n.kind=22
 .exact .one h17
 .exact .two ya
section
variable {es:List Ef}
theorem fg5 (h:t.n.kind=5):fgZ es (f+1) t ss q v p=oneF (en 5 (idxZ ss t.n.a) ss.length v p):=mg
theorem fg6 (h:t.n.kind=6):fgZ es (f+1) t ss q v p=ledF ⟨6,0,0,0⟩ ⟨ss.length,v,p⟩ 0 (t.kid 0) (ss++ [t.n.a]) q:=mg
theorem fg8 (h:t.n.kind=8):fgZ es (f+1) t ss q v p=(fgZ es f (t.kid 0) ss q v p).app (boundF (fgZ es f) (t.kid 1) t.n.a ss (q+(fgZ es f (t.kid 0) ss q v p).c.length) v p):=mg
theorem fg9 (h:t.n.kind=9):fgZ es (f+1) t ss q v p=(ledF ⟨7,0,0,0⟩ ⟨ss.length,v,p⟩ 0 (t.kid 0) (ss++ [t.n.a,t.n.b]) q).app (boundF (fgZ es f) (t.kid 1) t.n.a ss (q+1) v p):=mg
theorem fg10 (h:t.n.kind=10):fgZ es (f+1) t ss q v p=ifF (fgZ es f) t ss q v p:=mg
theorem fg20 (h:t.n.kind=20):fgZ es (f+1) t ss q v p=caseF (fgZ es f) t ss q v p:=mg
theorem fgH (h:t.n.kind=23\/t.n.kind=24):fgZ es (f+1) t ss q v p=handF es (fgZ es f) t ss q v p:=by
 rcases h with h|h<;>simp[fgZ,h]
theorem fgK (h:(t.n.kind=7\/t.n.kind=16\/t.n.kind=19\/(11<=t.n.kind/\t.n.kind<=15))\/(t.n.kind=17\/t.n.kind=18\/t.n.kind=21\/t.n.kind=22)):fgZ es (f+1) t ss q v p=(kidsF (fgZ es f) ss p t.kids q v).app (oneF ⟨lastZ es t.n,⟨ss.length,v+t.kids.length,p⟩,none⟩):=by
 rw[fgZ];(iterate 11 rw[if_neg ya])
structure KidsH (t:Tp):Prop where
 two:2<=t.k.count
 six:t.k.count<=6
 sum:(t.kid 0).size+(t.kid 1).size+((t.kids.drop 2).map Tp.size).sum+1=t.size
 eq:t.kids=t.kid 0::t.kid 1::t.kids.drop 2
 one1:(t.kid 1).k.count=1
 ones:∀c∈t.kids.drop 2,c.k.count=1
theorem kidsH_of {ns:List Nd}(hs:Stands ns t) (e:t.n.kind=23\/t.n.kind=24):KidsH t:=by
 have hc:=(z69 hs.toGood).2.1 jy;obtain⟨e0,e1⟩:=kidsM hc.1;have hh:=hs.head e;refine⟨hc.1,hc.2,e1,e0,(hh (t.kid 1) (by rw[e0];simp)).2,fun c hc=>(hh c ?_).2⟩;rw[show(2:Nat)=1+1 from rfl,<-List.drop_drop]at hc;exact List.mem_of_mem_drop hc
def PartF (ns:List Nd) (es:List Ef) (F:Nat):Prop:= ∀t ss s v p q,t.size<=F->Stands ns t->q=s.o.length->partZ es F t ss s=s.more (fgZ es F t ss q v p)
theorem bound_fg {ns:List Nd}{F:Nat}(ih:PartF ns es F) (s:Cs) (v p:Int) (q:Nat) (h1:t.size<=F) (h2:Stands ns t) (hq:q=s.o.length):boundZ (partZ es F) t (ss++ [x]) s=s.more (boundF (fgZ es F) t x ss q v p):=by
 unfold boundZ boundF;rw[z63,z63,z62,z62,ih t _ _ v p (q+1) h1 h2 (by rw[z36];omega)];rfl
theorem kids_fg {ns:List Nd}{F:Nat}(ih:PartF ns es F) {ss:List ByteArray}(p:Int):∀(l:List Tp) (s:Cs) (v:Int) (q:Nat),(∀c∈l,c.size<=F/\Stands ns c)->q=s.o.length->l.foldl (fun s c=>partZ es F c ss s) s=s.more (kidsF (fgZ es F) ss p l q v)
 |[],s,v,q,_,_=>by simp[kidsF,Cs.more]
 | c::l,s,v,q,h,hq=>by
   have hc:=h c List.mem_cons_self;rw[List.foldl_cons,kidsF,z63,<-ih c ss s v p q hc.1 hc.2 hq];exact kids_fg ih p l _ _ _ (fun x hx=>h x (List.mem_cons_of_mem _ hx)) (by rw[ih c ss s v p q hc.1 hc.2 hq,more_len,hq])
theorem ops_fg {ss:List ByteArray}:∀(l:List Tp) (s:Cs) (q:Nat),q=s.o.length->l.foldl (opZ es ss) s=s.more (opsF es ss q l)
 |[],s,q,_=>by simp[opsF,Cs.more]
 | c::l,s,q,hq=>by
   rw[List.foldl_cons,opsF,z63,more_led];have e:opZ es ss s c=(s.put ⟨25,effPlace es c.n.a 0,0,0⟩).wait ⟨c.kid 0,ss++ [c.n.b,c.n.c],q,1⟩:=by rw[hq];rfl
   rw[<-e];exact ops_fg l _ _ (by rw[e];show q+1=(s.put _).o.length;rw[z36];omega)
theorem ops_len {ss:List ByteArray}:∀(l:List Tp) (q:Nat),(opsF es ss q l).c.length=l.length
 |[],_=>rfl
 |c::l,q=>by rw[opsF,app_len,ops_len l];show 1+l.length=l.length+1;omega
theorem part_fg {ns:List Nd}:∀F,PartF ns es F:=by
 intro F;induction F with
 |zero=>intro t ss s v p q h;have:=t.size_pos;omega
 | succ F ih=>
   intro t ss s v p q hF hs hq;have hg:=hs.toGood;subst hq;have hnum:=(z69 hg).1;by_cases e:t.n.kind=1
   .rw[part1 e,fgZ,if_pos e,z62];rfl
   have n1:=e;by_cases e:t.n.kind=2
   .rw[part2 e,fgZ,if_neg n1,if_pos e,z62];rfl
   have n2:=e;by_cases e:t.n.kind=3
   .rw[part3 e,fgZ,if_neg n1,if_neg n2,if_pos e,z62];rfl
   have n3:=e;by_cases e:t.n.kind=4
   .rw[part4 e,fgZ,if_neg n1,if_neg n2,if_neg n3,if_pos e,z62];rfl
   have n4:=e;by_cases e:t.n.kind=5
   .rw[part5 e,fg5 e,z62];rfl
   have n5:=e;by_cases e:t.n.kind=6
   .rw[part6 e,fg6 e,more_led]
   have n6:=e;by_cases e:t.n.kind=8
   .have hc:=z43 hg e (c:=2) rfl;obtain⟨-,e1⟩:=kids2 hc;rw[part8 e,fg8 e,z63,<-ih (t.kid 0) ss s v p s.o.length ya (hs.kid ya) rfl];exact bound_fg ih _ v p _ ya (hs.kid ya) (by rw[ih (t.kid 0) ss s v p s.o.length ya (hs.kid ya) rfl,more_len])
   have n8:=e;by_cases e:t.n.kind=9
   .have hc:=z43 hg e (c:=2) rfl;obtain⟨-,e1⟩:=kids2 hc;rw[part9 e,fg9 e,z63,more_led];exact bound_fg ih _ v p _ ya (hs.kid ya) (by show _=(s.put _).o.length;rw[z36])
   have n9:=e;by_cases e:t.n.kind=10
   .have hc:=z43 hg e (c:=3) rfl;obtain⟨-,e1⟩:=kids3 hc;rw[part10 e,fg10 e];unfold ifZ ifF;refine zb68 ?_;intro g0 hg0 l0;rw[ih (t.kid 1) ss ((s.more g0).put ⟨10,0,0,0⟩) v p (s.o.length+g0.c.length+1) ya (hs.kid ya) (by rw[z36,l0])];obtain⟨g1,hg1⟩:∃g,fgZ es F (t.kid 1) ss (s.o.length+g0.c.length+1) v p=g:=⟨_,rfl⟩
    rw[hg1];have e2:((((s.more g0).put ⟨10,0,0,0⟩).more g1).put ⟨11,0,0,0⟩).lead (s.more g0).o.length 0=(((s.more g0).put ⟨10,((s.o.length+g0.c.length+1+g1.c.length+1:Nat):Int),0,0⟩).more g1).put ⟨11,0,0,0⟩:=by
     have h:=lead_past (s.more g0) ⟨10,0,0,0⟩ (g1.app (oneF (en 11 0 0 0 0))) 0;rw[z63,z62,z63,z62,app_len,one_len,l0]at h;rw[l0];exact h
    rw[e2];obtain⟨A,hA⟩:∃A,((s.more g0).put ⟨10,((s.o.length+g0.c.length+1+g1.c.length+1:Nat):Int),0,0⟩).more g1=A:=⟨_,rfl⟩
    have lA:A.o.length=s.o.length+g0.c.length+1+g1.c.length:=by rw[<-hA,more_len,z36,l0]
    have lB:(((s.more g0).put ⟨10,0,0,0⟩).more g1).o.length=A.o.length:=by rw[lA,more_len,z36,l0]
    rw[hA,ih (t.kid 2) ss (A.put ⟨11,0,0,0⟩) v p (s.o.length+g0.c.length+1+g1.c.length+1) ya (hs.kid ya) (by rw[z36,lA]),lB,lead_past,lA,<-hA];simp only[z63,z62];rfl
   have n10:=e;by_cases e:t.n.kind=20
   .have hc:=z43 hg e (c:=3) rfl;obtain⟨-,e1⟩:=kids3 hc;rw[part20 e,fg20 e];unfold caseZ caseF;refine zb68 ?_;intro g0 hg0 l0;rw[ih (t.kid 2) (ss++ [t.n.a,t.n.b]) ((s.more g0).put ⟨19,0,0,0⟩) v p (s.o.length+g0.c.length+1) ya (hs.kid ya) (by rw[z36,l0])];obtain⟨g1,hg1⟩:∃g,fgZ es F (t.kid 2) (ss++ [t.n.a,t.n.b]) (s.o.length+g0.c.length+1) v p=g:=⟨_,rfl⟩
    rw[hg1];have e2:((((((s.more g0).put ⟨19,0,0,0⟩).more g1).put ⟨13,0,0,0⟩).put ⟨13,0,0,0⟩).put ⟨11,0,0,0⟩).lead (s.more g0).o.length 0=(((((s.more g0).put ⟨19,((s.o.length+g0.c.length+1+g1.c.length+3:Nat):Int),0,0⟩).more g1).put ⟨13,0,0,0⟩).put ⟨13,0,0,0⟩).put ⟨11,0,0,0⟩:=by
     have h:=lead_past (s.more g0) ⟨19,0,0,0⟩ (g1.app ((oneF (en 13 0 0 0 0)).app ((oneF (en 13 0 0 0 0)).app (oneF (en 11 0 0 0 0))))) 0;simp only[z63,z62,app_len,one_len,l0]at h;rw[l0];rw[show s.o.length+g0.c.length+1+(g1.c.length+(1+(1+1)))=s.o.length+g0.c.length+1+g1.c.length+3 by omega]at h;exact h
    rw[e2];obtain⟨A,hA⟩:∃A,((((s.more g0).put ⟨19,((s.o.length+g0.c.length+1+g1.c.length+3:Nat):Int),0,0⟩).more g1).put ⟨13,0,0,0⟩).put ⟨13,0,0,0⟩=A:=⟨_,rfl⟩
    have lA:A.o.length=s.o.length+g0.c.length+1+g1.c.length+2:=by rw[<-hA,z36,z36,more_len,z36,l0]
    have lB:(((((s.more g0).put ⟨19,0,0,0⟩).more g1).put ⟨13,0,0,0⟩).put ⟨13,0,0,0⟩).o.length=A.o.length:=by rw[lA,z36,z36,more_len,z36,l0]
    rw[hA,ih (t.kid 1) ss (A.put ⟨11,0,0,0⟩) v p (s.o.length+g0.c.length+1+g1.c.length+3) ya (hs.kid ya) (by rw[z36,lA]),lB,lead_past,lA,<-hA];simp only[z63,z62];rfl
   have n20:=e;by_cases e:t.n.kind=23\/t.n.kind=24
   .have hk:=kidsH_of hs e;have h2:=hk.two;have hsz:=hk.sum;rw[partH e,fgH e];unfold handZ handB handA handF;dsimp only;obtain⟨b,hb⟩:∃b:Int,(if t.n.kind=23 then 1 else 0)=b:=⟨_,rfl⟩
    rw[hb,ih (t.kid 0) ss (s.put ⟨21,0,b,0⟩) 0 3 (s.o.length+1) ya (hs.kid ya) (by rw[z36])];obtain⟨g0,hg0⟩:∃g,fgZ es F (t.kid 0) ss (s.o.length+1) 0 3=g:=⟨_,rfl⟩
    rw[hg0];have e2:(((s.put ⟨21,0,b,0⟩).more g0).put ⟨23,0,0,0⟩).lead s.o.length 0=((s.put ⟨21,((s.o.length+1+g0.c.length+1:Nat):Int),b,0⟩).more g0).put ⟨23,0,0,0⟩:=by
     have h:=lead_past s ⟨21,0,b,0⟩ (g0.app (oneF (en 23 0 0 0 0))) 0;rw[z63,z62,z63,z62,app_len,one_len]at h;exact h
    rw[e2];have lA:(((s.put ⟨21,((s.o.length+1+g0.c.length+1:Nat):Int),b,0⟩).more g0).put ⟨23,0,0,0⟩).o.length=s.o.length+1+g0.c.length+1:=by rw[z36,more_len,z36]
    rw[lA,ops_fg _ _ (s.o.length+1+g0.c.length+1+1) (by show _=(Cs.put _ _).o.length;rw[z36,lA])];obtain⟨g1,hg1⟩:∃g,opsF es ss (s.o.length+1+g0.c.length+1+1) (t.kids.drop 2)=g:=⟨_,rfl⟩
    rw[hg1];obtain⟨T,hT⟩:∃T,ledF ⟨24,0,t.n.kids-2,0⟩ ⟨0,0,0⟩ 0 ((t.kid 1).kid 0) (ss++ [(t.kid 1).n.a]) (s.o.length+1+g0.c.length+1)=T:=⟨_,rfl⟩
    have lT:T.c.length=1:=by rw[<-hT];rfl
    rw[<-more_led _ _ ⟨0,0,0⟩,hT];have h:=lead_past s ⟨21,((s.o.length+1+g0.c.length+1:Nat):Int),b,0⟩ (g0.app ((oneF (en 23 0 ss.length 1 3)).app (T.app g1))) 2;simp only[z63,z62,app_len,one_len,lT]at h |-;rw[show s.o.length+1+(g0.c.length+(1+(1+g1.c.length)))=s.o.length+1+g0.c.length+1+1+g1.c.length by omega]at h;exact h
   ·have hlt:¬ (t.n.kind=25\/t.n.kind=26)\/(t.n.kind=25\/t.n.kind=26):=(Classical.em _).symm;have e1:=t.kids_sum;rw[partK n1 n2 n3 n4 n5 n6 n8 n9 n10 n20 (fun h=>e (Or.inl h)) (fun h=>e (Or.inr h)),fgZ,if_neg n1,if_neg n2,if_neg n3,if_neg n4,if_neg n5,if_neg n6,if_neg n8,if_neg n9,if_neg n10,if_neg n20,if_neg e,z63,z62,kids_fg ih p t.kids s v s.o.length (fun c hc=>by
     have h4:=sum_mem _ c hc;exact⟨ya,hs.kids_mem c hc⟩) rfl]
end
def Tp.dp (t:Tp):Nat:=t.k.deep+1
theorem kidsAt_deep:∀(f:Fo) (q:Nat),∀c∈kidsAt f q,c.dp<=f.deep
 |.none,_,c,h=>ju
 | .tree n k r,q,c,h=>by
   rw[kidsAt,List.mem_cons]at h;simp only[Fo.deep];rcases h with rfl|h
   .exact Nat.le_max_left _ _
   .exact Lf (kidsAt_deep r _ c h) (Nat.le_max_right _ _)
theorem Tp.kids_dp {c:Tp}(h:c∈t.kids):c.dp+1<=t.dp:=Nat.succ_le_succ (kidsAt_deep _ _ c h)
theorem Tp.kid_dp {i:Nat}(h:i<t.k.count):(t.kid i).dp+1<=t.dp:=Tp.kids_dp (Tp.kid_mem h)
structure Wf (ns:List Nd) (N V:Int) (D:Nat) (q:Nat) (g:Fg):Prop where
 pend:∀j e wh m,g.c[j]?=some e->e.o=some (wh,m)-> ∃x∈g.l,x.fr=q+j/\x.wh=wh/\x.names.length=m
 later:∀x∈g.l,(∃j e,g.c[j]?=some e/\x.fr=q+j/\e.o=some (x.wh,x.names.length))/\Stands ns x.t/\BdT x.t x.names/\(x.names.length:Int)+2*(x.t.dp:Int)<=N/\x.t.dp<=D
 sane:∀e∈g.c,(e.s.p=0/\e.s.n=0/\e.s.v=0)\/(1<=e.s.p/\e.s.p<=3/\0<=e.s.n/\e.s.n<=N/\0<=e.s.v/\e.s.v<=V)
variable {ns:List Nd}
theorem Wf.nil (N V:Int) (D q:Nat):Wf ns N V D q ⟨[],[]⟩:=⟨fun j e wh m h=>vy,fun x h=>vy,fun e h=>vy⟩
theorem Wf.mono {N' V':Int}{D':Nat}{g:Fg}(h:Wf ns N V D q g) (hN:N<=N') (hV:V<=V') (hD:D<=D'):Wf ns N' V' D' q g:=
 ⟨h.pend,fun x hx=>by obtain⟨h1,h2,h3,h4,h5⟩:=h.later x hx;exact⟨h1,h2,h3,ya,ya⟩,fun e he=>(h.sane e he).imp id (fun h=>ya)⟩
theorem Wf.app {g g':Fg}(h:Wf ns N V D q g) (h':Wf ns N V D (q+g.c.length) g'):Wf ns N V D q (g.app g'):=by
 refine⟨fun j e wh m hj ho=>?_,fun x hx=>?_,fun e he=>?_⟩
 .simp only[Fg.app,List.getElem?_append]at hj;split at hj
  .obtain⟨x,h1,h2,h3,h4⟩:=h.pend j e wh m hj ho;exact⟨x,List.mem_append_left _ h1,h2,h3,h4⟩
  .obtain⟨x,h1,h2,h3,h4⟩:=h'.pend _ e wh m hj ho;exact⟨x,List.mem_append_right _ h1,ya,h3,h4⟩
 .rcases List.mem_append.1 hx with hx|hx
  ·obtain⟨⟨j,e,h1,h2,h3⟩,h4⟩:=h.later x hx;refine⟨⟨j,e,?_,h2,h3⟩,h4⟩;have hj:j<g.c.length:=by
    rcases Nat.lt_or_ge j g.c.length with hc|hc
    .exact hc
    .rw[List.getElem?_eq_none hc]at h1;cases h1
   simp only[Fg.app];rw[List.getElem?_append_left hj];exact h1
  .obtain⟨⟨j,e,h1,h2,h3⟩,h4⟩:=h'.later x hx;refine⟨⟨g.c.length+j,e,?_,ya,h3⟩,h4⟩;simp only[Fg.app];rw[List.getElem?_append_right ya,show g.c.length+j-g.c.length=j by omega];exact h1
 .rcases List.mem_append.1 he with he|he
  .exact h.sane e he
  .exact h'.sane e he
theorem Wf.one (hp:1<=p/\p<=3) (hn:0<=n/\n<=N) (hv:0<=v/\v<=V):Wf ns N V D q (oneF ⟨i,⟨n,v,p⟩,none⟩):=by
 refine⟨fun j e wh m hj ho=>?_,fun x hx=>by simp[oneF]at hx,fun e he=>?_⟩
 .have:e=⟨i,⟨n,v,p⟩,none⟩:=List.mem_singleton.1 (Lh hj);subst this
  cases ho
 .rw[List.mem_singleton.1 he];exact Or.inr ⟨hp.1,hp.2,hn.1,hn.2,hv.1,hv.2⟩
theorem Wf.led {wh:Nat}(hs:(s.p=0/\s.n=0/\s.v=0)\/(1<=s.p/\s.p<=3/\0<=s.n/\s.n<=N/\0<=s.v/\s.v<=V)) (h1:Stands ns t) (h2:BdT t ss) (h3:(ss.length:Int)+2*(t.dp:Int)<=N) (h4:t.dp<=D):Wf ns N V D q (ledF i s wh t ss q):=by
 refine⟨fun j e w m hj ho=>?_,fun x hx=>?_,fun e he=>?_⟩
 ·have hj0:j=0:=by
   rcases j with _|j
   .rfl
   .simp[ledF]at hj
  subst hj0;have:e=⟨i,s,some (wh,ss.length)⟩:=List.mem_singleton.1 (Lh hj);subst this
  cases ho;exact⟨_,List.mem_singleton.2 rfl,rfl,rfl,rfl⟩
 .rw[List.mem_singleton.1 hx];exact⟨⟨0,_,rfl,rfl,rfl⟩,h1,h2,h3,h4⟩
 .rw[List.mem_singleton.1 he];exact hs
def Fg.cost (g:Fg):Nat:=g.c.length+(g.l.map (fun l=>4*l.t.size+1)).sum
theorem cost_app (g h:Fg):(g.app h).cost=g.cost+h.cost:=by
 simp only[Fg.cost,Fg.app,Lk,List.map_append,List.sum_append];omega
theorem cost_one (e:En):(oneF e).cost=1:=rfl
theorem cost_led (i:In) (s:Sq) (wh:Nat) (t:Tp) (ss:List ByteArray) (q:Nat):(ledF i s wh t ss q).cost=4*t.size+2:=by
 simp[Fg.cost,ledF];omega
structure Part (ns:List Nd) (ss:List ByteArray) (t:Tp) (q:Nat) (v p:Int) (g:Fg):Prop where
 wf:Wf ns ((ss.length:Int)+2*(t.dp:Int)) (v+(t.dp:Int)) t.dp q g
 cost:g.cost<=4*t.size
 head:∃e r,g.c=e::r/\e.s=⟨ss.length,v,p⟩
variable {es:List Ef}
def PartW (ns:List Nd) (es:List Ef) (F:Nat):Prop:= ∀t ss q v p,t.size<=F->Stands ns t->BdT t ss->0<=v->1<=p->p<=3->Part ns ss t q v p (fgZ es F t ss q v p)
theorem cons_app {g h:Fg}(hg:∃e r,g.c=e::r/\e.s=s):∃e r,(g.app h).c=e::r/\e.s=s:=by
 obtain⟨e,r,h1,h2⟩:=hg;exact⟨e,r++h.c,by simp[Fg.app,h1],h2⟩
theorem bound_w {F:Nat}(ih:PartW ns es F) (hF:t.size<=F) (hs:Stands ns t) (hb:BdT t (ss++ [x])) (hv:0<=v) (hp:1<=p) (hp3:p<=3):Wf ns ((ss.length:Int)+2*(t.dp:Int)+1) (v+(t.dp:Int)) t.dp q (boundF (fgZ es F) t x ss q v p)/\(boundF (fgZ es F) t x ss q v p).cost<=4*t.size+2:=by
 have h:=ih t (ss++ [x]) (q+1) v p hF hs hb hv hp hp3;have hd:1<=t.dp:=mh;have hl:((ss++ [x]).length:Int)=ss.length+1:=yq;have hw:=h.wf;rw[hl]at hw;unfold boundF;refine⟨(Wf.one ⟨hp,hp3⟩ ⟨ya,ya⟩ ⟨ya,ya⟩).app (Wf.app ?_ (Wf.one ⟨hp,hp3⟩ ⟨ya,ya⟩ ⟨ya,ya⟩)),?_⟩
 .exact hw.mono ya ya ya
 .have:=h.cost;rw[cost_app,cost_app,cost_one,cost_one];omega
theorem kids_w {F:Nat}(ih:PartW ns es F) {ss:List ByteArray}{N V:Int}{D:Nat}{p:Int}(hp:1<=p) (hp3:p<=3):∀(l:List Tp) (q:Nat) (v:Int),(∀c∈l,c.size<=F/\Stands ns c/\BdT c ss/\(ss.length:Int)+2*(c.dp:Int)<=N/\v+l.length+c.dp<=V+1/\c.dp<=D)->0<=v->Wf ns N V D q (kidsF (fgZ es F) ss p l q v)/\(kidsF (fgZ es F) ss p l q v).cost<=4*(l.map Tp.size).sum
 |[],q,v,_,_=>⟨Wf.nil _ _ _ _,La⟩
 | c::l,q,v,h,hv=>by
   obtain⟨c1,c2,c3,c4,c5,c6⟩:=h c List.mem_cons_self;rw[Ll]at c5;have hc:=ih c ss q v p c1 c2 c3 hv hp hp3;have hr:=kids_w (N:=N) (V:=V) (D:=D) ih hp hp3 l (q+(fgZ es F c ss q v p).c.length) (v+1) (fun x hx=>by
    obtain⟨d1,d2,d3,d4,d5,d6⟩:=h x (List.mem_cons_of_mem _ hx);rw[Ll]at d5;exact⟨d1,d2,d3,d4,ya,d6⟩) ya
   rw[kidsF];refine⟨(hc.wf.mono c4 ya c6).app hr.1,?_⟩;have:=hc.cost;have:=hr.2;rw[cost_app,List.map_cons,List.sum_cons];omega
theorem ops_w {ss:List ByteArray}{N V:Int}{D:Nat}:∀(l:List Tp) (q:Nat),(∀c∈l,c.k.count=1/\Stands ns c/\BdT (c.kid 0) (ss++ [c.n.b,c.n.c])/\(ss.length:Int)+2+2*((c.kid 0).dp:Int)<=N/\(c.kid 0).dp<=D)->Wf ns N V D q (opsF es ss q l)/\(opsF es ss q l).cost<=4*(l.map Tp.size).sum
 |[],q,_=>⟨Wf.nil _ _ _ _,La⟩
 | c::l,q,h=>by
   obtain⟨c1,c2,c3,c4,c5⟩:=h c List.mem_cons_self;have hr:=ops_w (N:=N) (V:=V) (D:=D) l (q+1) (fun x hx=>h x (List.mem_cons_of_mem _ hx));obtain⟨-,e1⟩:=kids1 c1;rw[opsF];refine⟨(Wf.led (Or.inl ⟨rfl,rfl,rfl⟩) (c2.kid ya) c3 jx c5).app hr.1,?_⟩;have:=hr.2;rw[cost_app,cost_led,List.map_cons,List.sum_cons];omega
theorem part_w:∀F,PartW ns es F:=by
 intro F;induction F with
 |zero=>intro t ss q v p h;have:=t.size_pos;omega
 | succ F ih=>
   intro t ss q v p hF hs hb hv hp hp3;have hg:=hs.toGood;have hsp:=t.size_pos;have hd:1<=t.dp:=mh;have one:∀i:In,Part ns ss t q v p (oneF ⟨i,⟨ss.length,v,p⟩,none⟩):=fun i=>⟨Wf.one ⟨hp,hp3⟩ ⟨ya,ya⟩ ⟨hv,ya⟩,by rw[cost_one];omega,⟨_,_,rfl,rfl⟩⟩
   rcases kd_of hg hb.1.2.1 hb.1.2.2 with e|e|e|e|e|e|e|e|e|e
   .rcases e with e|e|e|e
    .rw[show fgZ es (F+1) t ss q v p=oneF (en 1 t.n.num ss.length v p) by simp[fgZ,e]];exact one _
    .rw[show fgZ es (F+1) t ss q v p=oneF (en 2 t.n.num ss.length v p) by simp[fgZ,e]];exact one _
    .rw[show fgZ es (F+1) t ss q v p=oneF (en 3 0 ss.length v p) by simp[fgZ,e]];exact one _
    .rw[show fgZ es (F+1) t ss q v p=oneF (en 4 0 ss.length v p) by simp[fgZ,e]];exact one _
   .rw[fg5 e];exact one _
   .rw[fg6 e];have hc:=z43 hg e (c:=1) rfl;obtain⟨-,e1⟩:=kids1 hc;have hd0:=Tp.kid_dp (t:=t) (i:=0) ya;refine⟨Wf.led (Or.inr ⟨hp,hp3,qw,qw,hv,qw⟩) (hs.kid ya) (hb.kidN ya yt) jx ya,by rw[cost_led];omega,⟨_,_,rfl,rfl⟩⟩
   .rw[fg8 e];refine zb78 ?_;intro hc e1 hd0 hd1;have p1:=ih (t.kid 0) ss q v p ya (hs.kid ya) (hb.kid0 ya yt) hv hp hp3;have p2:=bound_w ih (t:=t.kid 1) (x:=t.n.a) (q:=q+(fgZ es F (t.kid 0) ss q v p).c.length) ya (hs.kid ya) (hb.kidN ya yt) hv hp hp3;refine⟨(p1.wf.mono ya ya ya).app (p2.1.mono ya ya ya),?_,cons_app p1.head⟩;have:=p1.cost;have:=p2.2;rw[cost_app];omega
   .rw[fg9 e];refine zb78 ?_;intro hc e1 hd0 hd1;have p2:=bound_w ih (t:=t.kid 1) (x:=t.n.a) (q:=q+1) ya (hs.kid ya) (hb.kidN ya yt) hv hp hp3;refine⟨Wf.app (Wf.led (Or.inr ⟨hp,hp3,qw,qw,hv,qw⟩) (hs.kid ya) (hb.kidN ya yt) jx ya) (p2.1.mono ya ya ya),?_,⟨_,_,rfl,rfl⟩⟩;have:=p2.2;rw[cost_app,cost_led];omega
   .rw[fg10 e];have hc:=z43 hg e (c:=3) rfl;obtain⟨-,e1⟩:=kids3 hc;have hd0:=Tp.kid_dp (t:=t) (i:=0) ya;have hd1:=Tp.kid_dp (t:=t) (i:=1) ya;have hd2:=Tp.kid_dp (t:=t) (i:=2) ya;unfold ifF;dsimp only;have p0:=ih (t.kid 0) ss q v p ya (hs.kid ya) (hb.kid0 ya yt) hv hp hp3;generalize fgZ es F (t.kid 0) ss q v p=g0 at p0 |-;have p1:=ih (t.kid 1) ss (q+g0.c.length+1) v p ya (hs.kid ya) (hb.kid0 ya yt) hv hp hp3;generalize fgZ es F (t.kid 1) ss (q+g0.c.length+1) v p=g1 at p1 |-;have p2:=ih (t.kid 2) ss (q+g0.c.length+1+g1.c.length+1) v p ya (hs.kid ya) (hb.kid0 ya yt) hv hp hp3
    generalize fgZ es F (t.kid 2) ss (q+g0.c.length+1+g1.c.length+1) v p=g2 at p2 |-;refine⟨(p0.wf.mono ya ya ya).app (Wf.app (Wf.one ⟨hp,hp3⟩ ⟨ya,ya⟩ ⟨ya,ya⟩) (Wf.app (p1.wf.mono ya ya ya) (Wf.app (Wf.one ⟨hp,hp3⟩ ⟨ya,ya⟩ ⟨ya,ya⟩) (p2.wf.mono ya ya ya)))),?_,cons_app p0.head⟩;have:=p0.cost;have:=p1.cost;have:=p2.cost;simp only[cost_app,cost_one];omega
   .rw[fg20 e];have hc:=z43 hg e (c:=3) rfl;obtain⟨-,e1⟩:=kids3 hc;have hd0:=Tp.kid_dp (t:=t) (i:=0) ya;have hd1:=Tp.kid_dp (t:=t) (i:=1) ya;have hd2:=Tp.kid_dp (t:=t) (i:=2) ya;have hl:((ss++ [t.n.a,t.n.b]).length:Int)=ss.length+2:=yq;unfold caseF;dsimp only;have p0:=ih (t.kid 0) ss q v p ya (hs.kid ya) (hb.kid0 ya yt) hv hp hp3;generalize fgZ es F (t.kid 0) ss q v p=g0 at p0 |-;have p1:=ih (t.kid 2) (ss++ [t.n.a,t.n.b]) (q+g0.c.length+1) v p ya (hs.kid ya) (hb.kidN ya yt) hv hp hp3;generalize fgZ es F (t.kid 2) (ss++ [t.n.a,t.n.b]) (q+g0.c.length+1) v p=g1 at p1 |-
    have p2:=ih (t.kid 1) ss (q+g0.c.length+1+g1.c.length+3) v p ya (hs.kid ya) (hb.kid0 ya yt) hv hp hp3;generalize fgZ es F (t.kid 1) ss (q+g0.c.length+1+g1.c.length+3) v p=g2 at p2 |-;have w1:=p1.wf;rw[hl]at w1;refine⟨(p0.wf.mono ya ya ya).app (Wf.app (Wf.one ⟨hp,hp3⟩ ⟨ya,ya⟩ ⟨ya,ya⟩) (Wf.app (w1.mono ya ya ya) (Wf.app (Wf.one ⟨hp,hp3⟩ ⟨ya,ya⟩ ⟨ya,ya⟩) (Wf.app (Wf.one ⟨hp,hp3⟩ ⟨ya,ya⟩ ⟨ya,ya⟩) (Wf.app (Wf.one ⟨hp,hp3⟩ ⟨ya,ya⟩ ⟨ya,ya⟩) (p2.wf.mono ya ya ya)))))),?_,cons_app p0.head⟩;have:=p0.cost;have:=p1.cost;have:=p2.cost;simp only[cost_app,cost_one];omega
   ·rw [fgH e];have hk:=kidsH_of hs e;have h2:=hk.two;have hsz:=hk.sum;have hd0:=Tp.kid_dp (t:=t) (i:=0) ya;have hd1:=Tp.kid_dp (t:=t) (i:=1) ya;have hd10:=Tp.kid_dp (t:=t.kid 1) (i:=0) (by have:=hk.one1;omega);obtain⟨-,e1⟩:=kids1 hk.one1;unfold handF;dsimp only;have p0:=ih (t.kid 0) ss (q+1) 0 3 ya (hs.kid ya) (hb.kid0 ya mj) ya ya ya;generalize fgZ es F (t.kid 0) ss (q+1) 0 3=g0 at p0 |-;have hc1:=(hb.clause (i:=1) ya).1 ya ya;rw[if_pos rfl]at hc1;have hb1:BdT ((t.kid 1).kid 0) (ss++ [(t.kid 1).n.a]):=by
     have h:=hb.inner (i:=1) ya hk.one1;rwa[show knownZ t.n 1= [] by rcases e with e|e<;>simp[knownZ,e],show knownZ (t.kid 1).n 0= [(t.kid 1).n.a] by simp[knownZ,hc1],List.append_nil]at h
    have p2:=ops_w (es:=es) (ss:=ss) (N:=(ss.length:Int)+2*(t.dp:Int)) (V:=v+(t.dp:Int)) (D:=t.dp) (t.kids.drop 2) (q+1+g0.c.length+1+1) (fun c hc=>by
     have hcm:=List.mem_of_mem_drop hc;have hcd:=Tp.kids_dp hcm;have hone:=hk.ones c hc;have hcd0:=Tp.kid_dp (t:=c) (i:=0) ya;obtain⟨i,hi2,hic,rfl⟩:∃i,2<=i/\i<t.k.count/\t.kid i=c:=by
      obtain⟨j,hj,e⟩:=List.getElem_of_mem hc;rw[List.length_drop,t.kids_len]at hj;rw[List.getElem_drop]at e;refine⟨2+j,ya,ya,?_⟩;unfold Tp.kid;rw[<-e];simp[List.getD,show 2+j<t.kids.length by rw[t.kids_len];omega]
     have hcl:=(hb.clause hic).1 ya ya;rw[if_neg ya]at hcl;refine⟨hone,hs.kids_mem _ hcm,?_,ya,ya⟩;have h:=hb.inner hic hone;rwa[show knownZ t.n i= [] by rcases e with e|e<;>simp[knownZ,e],show knownZ (t.kid i).n 0= [(t.kid i).n.b,(t.kid i).n.c] by simp[knownZ,hcl],List.append_nil]at h)
    generalize opsF es ss (q+1+g0.c.length+1+1) (t.kids.drop 2)=g1 at p2 |-;refine⟨Wf.app (Wf.one ⟨hp,hp3⟩ ⟨ya,ya⟩ ⟨hv,ya⟩) (Wf.app (p0.wf.mono ya ya ya) (Wf.app (Wf.one ⟨ya,ya⟩ ⟨ya,ya⟩ ⟨ya,ya⟩) (Wf.app ?_ ?_))),?_,⟨_,_,rfl,rfl⟩⟩
    .have hq:q+(oneF ⟨⟨21,((q+1+g0.c.length+1:Nat):Int),if t.n.kind=23 then 1 else 0,((q+1+g0.c.length+1+1+g1.c.length:Nat):Int)⟩,⟨ss.length,v,p⟩,none⟩).c.length+g0.c.length+(oneF (en 23 0 ss.length 1 3)).c.length=q+1+g0.c.length+1:=rfl;rw[hq];exact Wf.led (Or.inl ⟨rfl,rfl,rfl⟩) ((hs.kid ya).kid (by have:=hk.one1;omega)) hb1 jx ya
    .exact p2.1
    .have:=p0.cost;have:=p2.2;simp only[cost_app,cost_one,cost_led];omega
   ·rw [fgK (Or.inl e)];have hc:t.k.count=2:=by
     have h3:=(z69 hg).2.2;have h4:arityZ t.n.kind=2:=by
      rcases e with e|e|e|⟨e1,e2⟩
      .rw[e];rfl
      .rw[e];rfl
      .rw[e];rfl
      .have:t.n.kind=11\/t.n.kind=12\/t.n.kind=13\/t.n.kind=14\/t.n.kind=15:=by omega
       rcases this with e|e|e|e|e<;>rw[e]<;>rfl
     rw[h4]at h3;have:=h3 ya;omega
    have hkl:=t.kids_len;have hsum:=t.kids_sum;have hd1:1<=(t.kid 0).dp:=mh;have hd2:2<=t.dp:=ml;have hkn:∀i,knownZ t.n i= []:=fun i=>ku
    have pk:=kids_w ih (ss:=ss) (N:=(ss.length:Int)+2*(t.dp:Int)) (V:=v+(t.dp:Int)) (D:=t.dp) hp hp3 t.kids q v (fun c hcm=>by
     have h4:=sum_mem _ c hcm;have h5:=Tp.kids_dp hcm;obtain⟨i,hi,rfl⟩:∃i,i<t.k.count/\t.kid i=c:=by
      obtain⟨j,hj,e⟩:=List.getElem_of_mem hcm;exact⟨j,mq,mr⟩
     exact⟨ya,hs.kids_mem _ hcm,hb.kid0 hi (hkn i),ya,ya,ya⟩) hv
    refine⟨pk.1.app (Wf.one ⟨hp,hp3⟩ ⟨ya,ya⟩ ⟨ya,ya⟩),?_,?_⟩
    .have:=pk.2;rw[cost_app,cost_one];omega
    .obtain⟨e0,-⟩:=kids2 hc;rw[e0,kidsF];exact cons_app (cons_app (ih (t.kid 0) ss q v p mt (hs.kid ya) (hb.kid0 ya (hkn 0)) hv hp hp3).head)
   ·rw [fgK (Or.inr e)];have hc:t.k.count=1:=by
     have h3:=(z69 hg).2.2;have h4:arityZ t.n.kind=1:=by
      rcases e with e|e|e|e<;>rw[e]<;>rfl
     rw[h4]at h3;have:=h3 ya;omega
    have hkl:=t.kids_len;have hsum:=t.kids_sum;have hd1:1<=(t.kid 0).dp:=mh;have hd2:2<=t.dp:=ml;have hkn:∀i,knownZ t.n i= []:=fun i=>ku
    have pk:=kids_w ih (ss:=ss) (N:=(ss.length:Int)+2*(t.dp:Int)) (V:=v+(t.dp:Int)) (D:=t.dp) hp hp3 t.kids q v (fun c hcm=>by
     have h4:=sum_mem _ c hcm;have h5:=Tp.kids_dp hcm;obtain⟨i,hi,rfl⟩:∃i,i<t.k.count/\t.kid i=c:=by
      obtain⟨j,hj,e⟩:=List.getElem_of_mem hcm;exact⟨j,mq,mr⟩
     exact⟨ya,hs.kids_mem _ hcm,hb.kid0 hi (hkn i),ya,ya,ya⟩) hv
    refine⟨pk.1.app (Wf.one ⟨hp,hp3⟩ ⟨ya,ya⟩ ⟨ya,ya⟩),?_,?_⟩
    .have:=pk.2;rw[cost_app,cost_one];omega
    .obtain⟨e0,-⟩:=kids1 hc;rw[e0,kidsF];exact cons_app (cons_app (ih (t.kid 0) ss q v p mt (hs.kid ya) (hb.kid0 ya (hkn 0)) hv hp hp3).head)
end
section
open Go.RowKit Go.Deep
def FitsE (F:List In) (T:List Sq) (q:Nat) (e:En):Prop:=
 q<F.length/\tg T q=e.s/\match e.o with
 |none=>F.getD q default=e.i
 |some (wh,m)=> ∃a:Nat,a<F.length/\F.getD q default=e.i.lead wh (a:Int)/\tg T a=⟨(m:Int),0,2⟩
def AtE (F:List In) (T:List Sq):Nat->List En->Prop
 |_,[]=>True
 |q,e::r=>FitsE F T q e/\AtE F T (q+1) r
theorem atE_app {F:List In}{T:List Sq}:∀(c d:List En) (q:Nat),AtE F T q (c++d)↔AtE F T q c/\AtE F T (q+c.length) d
 |[],d,q=>by simp[AtE]
 | e::c,d,q=>by
   simp only[Ln,AtE,Ll];rw[atE_app c d (q+1),show q+1+c.length=q+(c.length+1) by omega];exact⟨fun h=>⟨⟨h.1,h.2.1⟩,h.2.2⟩,fun h=>⟨h.1.1,h.1.2,h.2⟩⟩
theorem atE_fg {F:List In}{T:List Sq}{g h:Fg}:AtE F T q (g.app h).c↔AtE F T q g.c/\AtE F T (q+g.c.length) h.c:=atE_app _ _ _
def OkP (F:List In) (T:List Sq) (k:Nat):Prop:=(F.getD k default).ok=true/\((tg T k).p≠0->Done F T k)
def AllE (F:List In) (T:List Sq) (q n:Nat):Prop:= ∀k,q<=k->k<q+n->OkP F T k
theorem z44 {F:List In}{T:List Sq}{n:Nat}(h:AllE F T q n) (h':AllE F T (q+n) m):AllE F T q (n+m):=fun k h1 h2=>by
 by_cases hk:k<q+n
 .exact h k h1 hk
 .exact h' k ya ya
theorem z47 {F:List In}{T:List Sq}(h:OkP F T q):AllE F T q 1:=fun k h1 h2=>by
 have:k=q:=ya;subst this;exact h
theorem allE_zero {F:List In}{T:List Sq}:AllE F T q 0:=fun k h1 h2=>ya
def Nx (F:List In) (T:List Sq) (q:Nat) (n v p:Int):Prop:=tg T q=⟨n,v,p⟩/\q<F.length
theorem z66 {F:List In}{T:List Sq}{c:List En}(h:AtE F T q c) (hd:∃e r,c=e::r/\e.s=⟨n,v,p⟩):Nx F T q n v p:=by
 obtain⟨e,r,rfl,he⟩:=hd;exact⟨h.1.2.1.trans he,h.1.1⟩
theorem okp_of {F:List In}{T:List Sq}(h:FitsE F T q ⟨i,s,none⟩) (hok:i.ok=true) (hd:s.p≠0->needsZ F i s=true/\ ∀e∈exitsZ F q i s,tg T e.1.toNat=e.2/\e.1.toNat<F.length):OkP F T q:=by
 have h1:F.getD q default=i:=h.2.2;have h2:tg T q=s:=h.2.1;refine⟨by rw[h1];exact hok,fun hp=>?_⟩;unfold Done;rw[h1,h2];rw[h2]at hp;exact hd hp
theorem ex_one {F:List In}{T:List Sq}(h:tg T (q+1)=s/\q+1<F.length):∀e∈ [(((q:Int)+1,s):Int×Sq)],tg T e.1.toNat=e.2/\e.1.toNat<F.length:=fun e he=>by
 rw[List.mem_singleton.1 he];dsimp only;rw[show((q:Int)+1).toNat=q+1 by omega];exact h
theorem ex_at {F:List In}{T:List Sq}(h:tg T a=s/\a<F.length):∀e∈ [(((a:Nat):Int),s)],tg T e.1.toNat=e.2/\e.1.toNat<F.length:=fun e he=>by
 rw[List.mem_singleton.1 he];dsimp only;rw[Lp];exact h
theorem ex_two {F:List In}{T:List Sq}{s':Sq}(h:tg T a=s/\a<F.length) (h':tg T (q+1)=s'/\q+1<F.length):∀e∈ [(((a:Nat):Int),s),((q:Int)+1,s')],tg T e.1.toNat=e.2/\e.1.toNat<F.length:=fun e he=>by
 rcases List.mem_cons.1 he with rfl|he
 .dsimp only;rw[Lp];exact h
 .exact ex_one h' e he
theorem ok_place (hop:op=5\/op=6\/op=7\/op=10\/op=11\/op=19\/op=22) (ha:a<=65535):In.ok ⟨op,(a:Int),0,0⟩=true:=by
 unfold In.ok insOkZ;rcases hop with rfl|rfl|rfl|rfl|rfl|rfl|rfl
 all_goals
  simp[manyZ];omega
theorem idxGo_lt (ss:List ByteArray) (x:ByteArray):∀i,i<=ss.length->idxGo ss x i<ss.length/\(-1<=idxGo ss x i)/\((∃j,j<i/\ss.getD j ⟨#[]⟩=x)->0<=idxGo ss x i)
 |0,_=>⟨by unfold idxGo;omega,by unfold idxGo;omega,fun⟨j,h,_⟩=>ya⟩
 | i+1,hi=>by
   unfold idxGo;by_cases h:((ss.getD i ⟨#[]⟩).toList==x.toList)=true
   .rw[if_pos h];exact⟨ya,ya,fun _=>ya⟩
   .rw[if_neg h];obtain⟨h1,h2,h3⟩:=idxGo_lt ss x i ya;refine⟨h1,h2,fun⟨j,hj,he⟩=>?_⟩;by_cases hji:j=i
    .subst hji;rw[he]at h;simp at h
    .exact h3 ⟨j,ya,he⟩
theorem idx_ok (h:x∈ss):0<=idxZ ss x/\idxZ ss x<ss.length:=by
 obtain⟨h1,-,h3⟩:=idxGo_lt ss x ss.length La;obtain⟨j,hj,e⟩:=List.getElem_of_mem h;exact⟨h3 ⟨j,hj,by simp[List.getD,hj,e]⟩,h1⟩
theorem effPlace_ok:∀(es:List Ef) (s:ByteArray) (i:Nat),effPlace es s i<(i:Int)+es.length
 |[],s,i=>by unfold effPlace;simp;omega
 | e::r,s,i=>by
   have:=effPlace_ok r s (i+1);unfold effPlace;split
   .simp;omega
   .simp at this |-;omega
theorem eff_has {es:List Ef}{m:Nd}(h:nodeHas es m=true) (hk:m.kind=22\/m.kind=26):0<=effPlace es m.a 0/\effPlace es m.a 0<es.length:=by
 refine⟨?_,by have:=effPlace_ok es m.a 0;simpa using this⟩;rcases Int.lt_or_le (effPlace es m.a 0) 0 with hc|hc
 .rw[effPlace_lt]at hc;rcases hk with hk|hk<;>simp[nodeHas,hk,hc]at h
 .exact hc
section
variable {ns:List Nd}{es:List Ef}{F:List In}{T:List Sq}
theorem okp_next {a v':Int}(h:FitsE F T q (en op a n v p)) (hok:In.ok ⟨op,a,0,0⟩=true) (hneed:needsZ F ⟨op,a,0,0⟩ ⟨n,v,p⟩=true) (hex:exitsZ F q ⟨op,a,0,0⟩ ⟨n,v,p⟩= [((q:Int)+1,⟨n',v',p⟩)]) (hn:Nx F T (q+1) n' v' p):OkP F T q:=
 okp_of h hok (fun _=>⟨hneed,by rw[hex];exact ex_one hn⟩)
def PartO (ns:List Nd) (es:List Ef) (F:List In) (T:List Sq) (M:Nat):Prop:= ∀t ss q v p,t.size<=M->Stands ns t->BdT t ss->(ss.length:Int)+2*(t.dp:Int)<=80->0<=v->1<=p->p<=3->AtE F T q (fgZ es M t ss q v p).c->Nx F T (q+(fgZ es M t ss q v p).c.length) ss.length (v+1) p->AllE F T q (fgZ es M t ss q v p).c.length
theorem bound_o {M:Nat}(ih:PartO ns es F T M) (h1:t.size<=M) (hs:Stands ns t) (hb:BdT t (ss++ [x])) (hN:(ss.length:Int)+1+2*(t.dp:Int)<=80) (hv:0<=v) (hp:1<=p) (hp3:p<=3) (hat:AtE F T q (boundF (fgZ es M) t x ss q v p).c) (hn:Nx F T (q+(boundF (fgZ es M) t x ss q v p).c.length) ss.length (v+1) p):AllE F T q (boundF (fgZ es M) t x ss q v p).c.length:=by
 have hd:=(part_w (es:=es) M t (ss++ [x]) (q+1) v p h1 hs hb hv hp hp3).head;have hi:=ih t (ss++ [x]) (q+1) v p h1 hs hb jx hv hp hp3;unfold boundF at hat hn |-;generalize fgZ es M t (ss++ [x]) (q+1) v p=g at hd hi hat hn |-;rw[show((ss++ [x]).length:Int)=ss.length+1 by simp]at hd hi;simp only[atE_fg,app_len,one_len]at hat hn |-;obtain⟨a1,a2,a3⟩:=hat;refine z44 (z47 (okp_next a1.1 yk mu (n':= (ss.length:Int)+1) (v':= v) mw (z66 a2 hd))) (z44 (hi a2 ⟨a3.1.2.1,a3.1.1⟩) (z47 (okp_next a3.1 yk mu (n':= (ss.length:Int)) (v':= v+1) mw ?_)))
 rw[show q+1+g.c.length+1=q+(1+(g.c.length+1)) by omega];exact hn
theorem kids_o {M:Nat}(ih:PartO ns es F T M) {ss:List ByteArray}{p:Int}(hp:1<=p) (hp3:p<=3):∀(l:List Tp) (q:Nat) (v:Int),(∀c∈l,c.size<=M/\Stands ns c/\BdT c ss/\(ss.length:Int)+2*(c.dp:Int)<=80)->0<=v->AtE F T q (kidsF (fgZ es M) ss p l q v).c->Nx F T (q+(kidsF (fgZ es M) ss p l q v).c.length) ss.length (v+l.length) p->AllE F T q (kidsF (fgZ es M) ss p l q v).c.length
 |[],q,v,_,_,_,_=>allE_zero
 | c::l,q,v,h,hv,hat,hn=>by
   obtain⟨c1,c2,c3,c4⟩:=h c List.mem_cons_self;have hi:=ih c ss q v p c1 c2 c3 c4 hv hp hp3;rw[kidsF]at hat hn |-;generalize fgZ es M c ss q v p=g at hi hat hn |-;simp only[atE_fg,app_len]at hat hn |-;have hn':Nx F T (q+g.c.length+(kidsF (fgZ es M) ss p l (q+g.c.length) (v+1)).c.length) ss.length (v+1+l.length) p:=by
    rw[Ll]at hn;rw[show v+1+(l.length:Int)=v+((l.length+1:Nat):Int) by omega,Nat.add_assoc];exact hn
   refine z44 (hi hat.1 ?_) (kids_o ih hp hp3 l _ _ (fun x hx=>h x (List.mem_cons_of_mem _ hx)) ya hat.2 hn')
   cases l with
   | nil=>
     have h2:=hn';simp only[kidsF,Lm]at h2;have e:v+1+((0:Nat):Int)=v+1:=ya;rw[e]at h2;exact h2
   | cons c' l=>
     obtain⟨d1,d2,d3,-⟩:=h c' (List.mem_cons_of_mem _ List.mem_cons_self);have a2:=hat.2;rw[kidsF]at a2;exact z66 a2 (cons_app (part_w (es:=es) M c' ss _ (v+1) p d1 d2 d3 ya hp hp3).head)
theorem led_ok {F:List In}{T:List Sq}{wh:Nat}(h:FitsE F T q ⟨i,s,some (wh,m)⟩):∃a:Nat,a<F.length/\F.getD q default=i.lead wh (a:Int)/\tg T a=⟨(m:Int),0,2⟩/\tg T q=s:=by
 obtain⟨-,h2,a,h3,h4,h5⟩:=h;exact⟨a,h3,h4,h5,h2⟩
theorem ops_o {ss:List ByteArray}(hF:F.length<=1500) (hes:es.length<=8):∀(l:List Tp) (q:Nat),(∀c∈l,nodeHas es c.n=true/\c.n.kind=26)->AtE F T q (opsF es ss q l).c->AllE F T q l.length/\ ∀j,j<l.length->q+j<F.length/\(F.getD (q+j) default).op=25/\tg T (F.getD (q+j) default).b.toNat=⟨(ss.length:Int)+2,0,2⟩/\(F.getD (q+j) default).b.toNat<F.length
 |[],q,_,_=>⟨allE_zero,fun j hj=>by simp at hj⟩
 | c::l,q,h,hat=>by
   have hc:=h c List.mem_cons_self;have he:=eff_has hc.1 (Or.inr hc.2);rw[opsF,atE_fg]at hat;obtain⟨a,b1,b2,b3,b4⟩:=led_ok hat.1.1;have ihl:=ops_o hF hes l (q+1) (fun x hx=>h x (List.mem_cons_of_mem _ hx)) hat.2;have e2:In.lead ⟨25,effPlace es c.n.a 0,0,0⟩ 1 (a:Int)=⟨25,effPlace es c.n.a 0,(a:Int),0⟩:=rfl;rw[e2]at b2;refine⟨?_,fun j hj=>?_⟩
   .rw[Ll,Nat.add_comm l.length 1];refine z44 (z47 ⟨?_,fun hp=>by rw[b4]at hp;exact absurd rfl hp⟩) ihl.1;rw[b2];unfold In.ok insOkZ;simp[manyZ];omega
   .rcases j with _|j
    .rw[Nat.add_zero,b2];refine⟨hat.1.1.1,rfl,?_,?_⟩
     .dsimp only;rw[Lp,b3];simp
     .dsimp only;rw[Lp];exact b1
    .have:=ihl.2 j (by simpa using hj);rwa[show q+1+j=q+(j+1) by omega]at this
theorem okp_raw (h1:F.getD q default=i) (h2:tg T q=s) (hok:i.ok=true) (hd:s.p≠0->needsZ F i s=true/\ ∀e∈exitsZ F q i s,tg T e.1.toNat=e.2/\e.1.toNat<F.length):OkP F T q:=by
 refine⟨by rw[h1];exact hok,fun hp=>?_⟩;unfold Done;rw[h1,h2];rw[h2]at hp;exact hd hp
theorem led_len (i:In) (s:Sq) (wh:Nat) (t:Tp) (ss:List ByteArray) (q:Nat):(ledF i s wh t ss q).c.length=1:=rfl
theorem clos_o (hF:F.length<=1500) (hop:op=6/\(m:Int)=n+1\/op=7/\(m:Int)=n+2) (h:FitsE F T q ⟨⟨op,0,0,0⟩,⟨n,v,p⟩,some (0,m)⟩) (hn:Nx F T (q+1) n (v+1) p):OkP F T q:=by
 obtain⟨a,b1,b2,b3,b4⟩:=led_ok h;have e2:In.lead ⟨op,0,0,0⟩ 0 (a:Int)=⟨op,(a:Int),0,0⟩:=rfl;rw[e2]at b2;refine okp_raw b2 b4 (ok_place ya ya) (fun _=>⟨by rcases hop with ⟨rfl,-⟩|⟨rfl,-⟩<;>simp[needsZ],?_⟩)
 have hx:exitsZ F q ⟨op,(a:Int),0,0⟩ ⟨n,v,p⟩= [(((a:Nat):Int),⟨(m:Int),0,2⟩),((q:Int)+1,⟨n,v+1,p⟩)]:=by
  rcases hop with ⟨rfl,hm⟩|⟨rfl,hm⟩<;>simp[exitsZ,Sq.more,hm]
 rw[hx];exact ex_two ⟨b3,b1⟩ hn
theorem last_two {n:Nd}{k:Int}(e:n.kind=7\/n.kind=16\/n.kind=19\/(11<=n.kind/\n.kind<=15)) (hv:0<=v):(lastZ es n).ok=true/\needsZ F (lastZ es n) ⟨k,v+2,p⟩=true/\exitsZ F q (lastZ es n) ⟨k,v+2,p⟩= [((q:Int)+1,⟨k,v+1,p⟩)]:=by
 have hx:v+2+ -1=v+1:=ya;rcases e with e|e|e|⟨e1,e2⟩
 .rw[show lastZ es n=⟨8,0,0,0⟩ by simp[lastZ,e]];exact⟨yk,mu,mx⟩
 .rw[show lastZ es n=⟨15,0,0,0⟩ by simp[lastZ,e]];exact⟨yk,mu,mx⟩
 .rw[show lastZ es n=⟨18,0,0,0⟩ by simp[lastZ,e]];exact⟨yk,mu,mx⟩
 .rw[show lastZ es n=⟨14,n.kind,0,0⟩ by unfold lastZ;rw[if_neg ya,if_neg ya,if_neg ya,if_neg ya,if_neg ya,if_neg ya,if_neg ya]];exact⟨my,mu,mx⟩
theorem last_one {n:Nd}{k:Int}(hes:es.length<=8) (e:n.kind=17\/n.kind=18\/n.kind=21\/n.kind=22) (hh:nodeHas es n=true) (hv:0<=v):(lastZ es n).ok=true/\needsZ F (lastZ es n) ⟨k,v+1,p⟩=true/\exitsZ F q (lastZ es n) ⟨k,v+1,p⟩= [((q:Int)+1,⟨k,v+1,p⟩)]:=by
 rcases e with e|e|e|e
 .rw[show lastZ es n=⟨16,0,0,0⟩ by simp[lastZ,e]];exact⟨yk,mu,mz⟩
 .rw[show lastZ es n=⟨17,0,0,0⟩ by simp[lastZ,e]];exact⟨yk,mu,mz⟩
 .rw[show lastZ es n=⟨20,0,0,0⟩ by simp[lastZ,e]];exact⟨yk,mu,mz⟩
 .rw[show lastZ es n=⟨22,effPlace es n.a 0,0,0⟩ by simp[lastZ,e]];have he:=eff_has hh (Or.inl e);exact⟨my,mu,mz⟩
theorem hand_o {b:Int}{l:List Tp}{L:Nat}(hF:F.length<=1500) (hl:l.length<=4) (hqt:q+1+L+1<F.length) (hb:b=0\/b=1) (hf:FitsE F T q ⟨⟨21,((q+1+L+1:Nat):Int),b,((q+1+L+1+1+l.length:Nat):Int)⟩,⟨ss.length,v,p⟩,none⟩) (h0:Nx F T (q+1) ss.length 0 3) (ha:a<F.length) (htab:F.getD (q+1+L+1) default=⟨24,(a:Int),(l.length:Int),0⟩) (hta:tg T a=⟨(ss.length:Int)+1,0,2⟩) (hops:∀j,j<l.length->q+1+L+1+1+j<F.length/\(F.getD (q+1+L+1+1+j) default).op=25/\tg T (F.getD (q+1+L+1+1+j) default).b.toNat=⟨(ss.length:Int)+2,0,2⟩/\(F.getD (q+1+L+1+1+j) default).b.toNat<F.length) (hn:Nx F T (q+1+L+1+1+l.length) ss.length (v+1) p):OkP F T q:=by
 have hcl:∀i∈clausesZ F ((q+1+L+1:Nat):Int),i.op=25/\tg T i.b.toNat=⟨(ss.length:Int)+2,0,2⟩/\i.b.toNat<F.length:=fun i hi=>by
  unfold clausesZ at hi;rw[Lp,htab]at hi;dsimp only at hi;rw[Lp]at hi;obtain⟨j,hj,e⟩:=List.getElem_of_mem hi;have hj':j<l.length:=by rw[List.length_take]at hj;omega
  obtain⟨g1,g2,g3,g4⟩:=hops j hj';have ei:F.getD (q+1+L+1+1+j) default=i:=by
   rw[<-e,List.getElem_take,List.getElem_drop];simp only[List.getD_eq_getElem?_getD];rw[Lr g1];rfl
  rw[ei]at g2 g3 g4;exact⟨g2,g3,g4⟩
 have hn2:=hn.2;refine okp_of hf ?_ (fun _=>⟨?_,?_⟩)
 .unfold In.ok insOkZ;rcases hb with rfl|rfl<;>(simp[manyZ];omega)
 .rw[show needsZ F ⟨21,((q+1+L+1:Nat):Int),b,((q+1+L+1+1+l.length:Nat):Int)⟩ ⟨ss.length,v,p⟩=tableZ F ((q+1+L+1:Nat):Int) by simp[needsZ]];unfold tableZ;rw[Lp,htab];simp only[Lq,decide_eq_true_eq,List.all_eq_true];exact⟨ya,trivial,ya,ya,fun i hi=>(hcl i hi).1⟩
 .rw[show exitsZ F q ⟨21,((q+1+L+1:Nat):Int),b,((q+1+L+1+1+l.length:Nat):Int)⟩ ⟨ss.length,v,p⟩=handleZ F q ⟨21,((q+1+L+1:Nat):Int),b,((q+1+L+1+1+l.length:Nat):Int)⟩ ⟨ss.length,v,p⟩ by simp[exitsZ]];unfold handleZ;intro e he;rw[List.mem_append,List.mem_cons,List.mem_map]at he;rcases he with (rfl|⟨c,hc,rfl⟩)|he
  .dsimp only;rw[Lp,htab];dsimp only;rw[Lp];exact⟨hta,ha⟩
  .exact(hcl c hc).2
  .rcases List.mem_cons.1 he with rfl|he
   .dsimp only;rw[show((q:Int)+1).toNat=q+1 by omega];exact h0
   .rw[List.mem_singleton.1 he];simp only[Sq.more,Lp];rw[show(ss.length:Int)+0=ss.length by omega];exact hn
theorem jump_o (hF:F.length<=1500) (hop:op=11) (h:FitsE F T q (en op ((a:Nat):Int) n v p)) (hn:Nx F T a n v p):OkP F T q:=by
 subst hop;have:=hn.2;refine okp_of h (ok_place yq ya) (fun _=>⟨gd,?_⟩);rw[show exitsZ F q ⟨11,((a:Nat):Int),0,0⟩ ⟨n,v,p⟩= [(((a:Nat):Int),⟨n,v,p⟩)] by simp[exitsZ]];exact ex_at hn
theorem test_o (hF:F.length<=1500) (hv:0<=v) (hop:op=10/\n'= n\/op=19/\n'= n+2) (h:FitsE F T q (en op ((a:Nat):Int) n (v+1) p)) (hn:Nx F T a n v p) (hn':Nx F T (q+1) n' v p):OkP F T q:=by
 have:=hn.2;refine okp_of h (ok_place ya ya) (fun _=>⟨by rcases hop with ⟨rfl,-⟩|⟨rfl,-⟩<;>(simp[needsZ];omega),?_⟩)
 have hx:v+1+ -1=v:=ya;rw[show exitsZ F q ⟨op,((a:Nat):Int),0,0⟩ ⟨n,v+1,p⟩= [(((a:Nat):Int),⟨n,v,p⟩),((q:Int)+1,⟨n',v,p⟩)] by
  rcases hop with ⟨rfl,rfl⟩|⟨rfl,rfl⟩<;>simp[exitsZ,Sq.more,hx]]
 exact ex_two hn hn'
theorem drop_o (hv:0<=n') (he:n=n'+ 1) (h:FitsE F T q (en 13 0 n v p)) (hn:Nx F T (q+1) n' v p):OkP F T q:=by
 subst he;exact okp_next h yk mu mw hn
theorem part_o (hF:F.length<=1500) (hes:es.length<=8) (hns:∀m∈ns,ownOk m=true/\nodeHas es m=true):∀M,PartO ns es F T M:=by
 intro M;induction M with
 |zero=>intro t ss q v p h;have:=t.size_pos;omega
 | succ M ih=>
   intro t ss q v p hM hs hb hN hv hp hp3 hat hn;have hg:=hs.toGood;have hsp:=t.size_pos;have hmemS:∀ {c:Tp},Stands ns c->c.n∈ns:=fun {c} hc=>by
    have h:=hc.lt;rw[<-h.2.1];simp only[List.getD_eq_getElem?_getD];rw[Lr h.1];exact List.getElem_mem _
   have hmem:t.n∈ns:=hmemS hs;have hnum:numOk t.n.kind t.n.num=true:=by
    have:=(hns _ hmem).1;unfold ownOk at this;simp only[Lq]at this;exact this.2.2.2
   unfold numOk at hnum;have hnum':= of_decide_eq_true hnum;rcases kd_of hg hb.1.2.1 hb.1.2.2 with e|e|e|e|e|e|e|e|e|e
   .rcases e with e|e|e|e
    .rw[show fgZ es (M+1) t ss q v p=oneF (en 1 t.n.num ss.length v p) by simp[fgZ,e]]at hat hn |-;rw[e,show mostZ 1=999999999 from rfl]at hnum';refine z47 (okp_next hat.1 ?_ gd (n':= (ss.length:Int)) (v':= v+1) gf hn);unfold In.ok insOkZ;simp[manyZ];omega
    .rw[show fgZ es (M+1) t ss q v p=oneF (en 2 t.n.num ss.length v p) by simp[fgZ,e]]at hat hn |-;rw[e,show mostZ 2=1 from rfl]at hnum';refine z47 (okp_next hat.1 ?_ gd (n':= (ss.length:Int)) (v':= v+1) gf hn);unfold In.ok insOkZ;simp[manyZ];omega
    .rw[show fgZ es (M+1) t ss q v p=oneF (en 3 0 ss.length v p) by simp[fgZ,e]]at hat hn |-;exact z47 (okp_next hat.1 yk gd (n':= (ss.length:Int)) (v':= v+1) gf hn)
    .rw[show fgZ es (M+1) t ss q v p=oneF (en 4 0 ss.length v p) by simp[fgZ,e]]at hat hn |-;exact z47 (okp_next hat.1 yk gd (n':= (ss.length:Int)) (v':= v+1) gf hn)
   .rw[fg5 e]at hat hn |-;have hi:=idx_ok (hb.1.1 e);obtain⟨a,ha⟩:∃a:Nat,idxZ ss t.n.a=(a:Int):=⟨(idxZ ss t.n.a).toNat,ya⟩
    exact z47 (okp_next hat.1 (by rw[ha];exact ok_place yq ya) mu (n':= (ss.length:Int)) (v':= v+1) gf hn)
   .rw[fg6 e]at hat hn |-;exact z47 (clos_o hF (Or.inl ⟨rfl,yq⟩) hat.1 hn)
   .rw[fg8 e]at hat hn |-;refine zb78 ?_;intro hc e1 hd0 hd1;have i0:=ih (t.kid 0) ss q v p ya (hs.kid ya) (hb.kid0 ya yt) ya hv hp hp3;generalize fgZ es M (t.kid 0) ss q v p=g0 at i0 hat hn |-;rw[atE_fg]at hat;rw[app_len]at hn |-;rw[<-Nat.add_assoc]at hn;exact z44 (i0 hat.1 (z66 hat.2 ⟨_,_,rfl,rfl⟩)) (bound_o ih ya (hs.kid ya) (hb.kidN ya yt) ya hv hp hp3 hat.2 hn)
   .rw[fg9 e]at hat hn |-;have hc:=z43 hg e (c:=2) rfl;obtain⟨-,e1⟩:=kids2 hc;have hd1:=Tp.kid_dp (t:=t) (i:=1) ya;rw[atE_fg]at hat;rw[app_len,led_len]at hn |-;rw[<-Nat.add_assoc]at hn;exact z44 (z47 (clos_o hF (Or.inr ⟨rfl,yq⟩) hat.1.1 (z66 hat.2 ⟨_,_,rfl,rfl⟩))) (bound_o ih ya (hs.kid ya) (hb.kidN ya yt) ya hv hp hp3 hat.2 hn)
   .rw[fg10 e]at hat hn |-;refine zb43 ?_;intro hc e1 hd0 hd1 hd2 b0 b1;have b2:=hb.kid0 (i:=2) ya yt;unfold ifF at hat hn |-;dsimp only at hat hn |-;have i0:=ih (t.kid 0) ss q v p ya (hs.kid ya) b0 ya hv hp hp3;generalize fgZ es M (t.kid 0) ss q v p=g0 at i0 hat hn |-;have i1:=ih (t.kid 1) ss (q+g0.c.length+1) v p ya (hs.kid ya) b1 ya hv hp hp3;have d1:=(part_w (es:=es) M (t.kid 1) ss (q+g0.c.length+1) v p ya (hs.kid ya) b1 hv hp hp3).head;generalize fgZ es M (t.kid 1) ss (q+g0.c.length+1) v p=g1 at i1 d1 hat hn |-
    have i2:=ih (t.kid 2) ss (q+g0.c.length+1+g1.c.length+1) v p ya (hs.kid ya) b2 ya hv hp hp3;have d2:=(part_w (es:=es) M (t.kid 2) ss (q+g0.c.length+1+g1.c.length+1) v p ya (hs.kid ya) b2 hv hp hp3).head;generalize fgZ es M (t.kid 2) ss (q+g0.c.length+1+g1.c.length+1) v p=g2 at i2 d2 hat hn |-;simp only[atE_fg,app_len,one_len]at hat hn |-;obtain⟨a0,a1,a2,a3,a4⟩:=hat;rw[show q+(g0.c.length+(1+(g1.c.length+(1+g2.c.length))))=q+g0.c.length+1+g1.c.length+1+g2.c.length by omega]at hn
    exact z44 (i0 a0 (z66 a1 ⟨_,_,rfl,rfl⟩)) (z44 (z47 (test_o hF hv (Or.inl ⟨rfl,rfl⟩) a1.1 (z66 a4 d2) (z66 a2 d1))) (z44 (i1 a2 (z66 a3 ⟨_,_,rfl,rfl⟩)) (z44 (z47 (jump_o hF rfl a3.1 hn)) (i2 a4 hn))))
   .rw[fg20 e]at hat hn |-;refine zb43 ?_;intro hc e1 hd0 hd1 hd2 b0 b1;have b2:=hb.kidN (i:=2) (ms:= [t.n.a,t.n.b]) ya yt;have hl:((ss++ [t.n.a,t.n.b]).length:Int)=ss.length+2:=yq;unfold caseF at hat hn |-;dsimp only at hat hn |-;have i0:=ih (t.kid 0) ss q v p ya (hs.kid ya) b0 ya hv hp hp3;generalize fgZ es M (t.kid 0) ss q v p=g0 at i0 hat hn |-;have i1:=ih (t.kid 2) (ss++ [t.n.a,t.n.b]) (q+g0.c.length+1) v p ya (hs.kid ya) b2 (by rw[hl];omega) hv hp hp3;have d1:=(part_w (es:=es) M (t.kid 2) (ss++ [t.n.a,t.n.b]) (q+g0.c.length+1) v p ya (hs.kid ya) b2 hv hp hp3).head
    generalize fgZ es M (t.kid 2) (ss++ [t.n.a,t.n.b]) (q+g0.c.length+1) v p=g1 at i1 d1 hat hn |-;have i2:=ih (t.kid 1) ss (q+g0.c.length+1+g1.c.length+3) v p ya (hs.kid ya) b1 ya hv hp hp3;have d2:=(part_w (es:=es) M (t.kid 1) ss (q+g0.c.length+1+g1.c.length+3) v p ya (hs.kid ya) b1 hv hp hp3).head;generalize fgZ es M (t.kid 1) ss (q+g0.c.length+1+g1.c.length+3) v p=g2 at i2 d2 hat hn |-;rw[hl]at d1 i1;simp only[atE_fg,app_len,one_len]at hat hn |-;obtain⟨a0,a1,a2,a3,a4,a5,a6⟩:=hat
    rw[show q+(g0.c.length+(1+(g1.c.length+(1+(1+(1+g2.c.length))))))=q+g0.c.length+1+g1.c.length+3+g2.c.length by omega]at hn;have a6':AtE F T (q+g0.c.length+1+g1.c.length+3) g2.c:=a6;exact z44 (i0 a0 (z66 a1 ⟨_,_,rfl,rfl⟩)) (z44 (z47 (test_o hF hv (Or.inr ⟨rfl,rfl⟩) a1.1 (z66 a6' d2) (z66 a2 d1))) (z44 (i1 a2 (z66 a3 ⟨_,_,rfl,rfl⟩)) (z44 (z47 (drop_o (n':= (ss.length:Int)+1) ya ya a3.1 (z66 a4 ⟨_,_,rfl,rfl⟩))) (z44 (z47 (drop_o (n':= (ss.length:Int)) ya rfl a4.1 (z66 a5 ⟨_,_,rfl,rfl⟩))) (z44 (z47 (jump_o hF rfl a5.1 hn)) (i2 a6' hn))))))
   .rw[fgH e]at hat hn |-;have hk:=kidsH_of hs e;have h2:=hk.two;have h6:=hk.six;have hsz:=hk.sum;have hd0:=Tp.kid_dp (t:=t) (i:=0) ya;have b0:=hb.kid0 (i:=0) ya mj;unfold handF at hat hn |-;dsimp only at hat hn |-;have i0:=ih (t.kid 0) ss (q+1) 0 3 ya (hs.kid ya) b0 ya ya ya ya;have d0:=(part_w (es:=es) M (t.kid 0) ss (q+1) 0 3 ya (hs.kid ya) b0 ya ya ya).head;generalize fgZ es M (t.kid 0) ss (q+1) 0 3=g0 at i0 d0 hat hn |-;have hol:(opsF es ss (q+1+g0.c.length+1+1) (t.kids.drop 2)).c.length=(t.kids.drop 2).length:=ops_len _ _;have hll:(t.kids.drop 2).length+2=t.k.count:=wm
    have hkk:t.n.kids-2=((t.kids.drop 2).length:Int):=by have:=hg.kids;omega
    rw[hkk]at hat hn |-;have hcl:∀c∈t.kids.drop 2,nodeHas es c.n=true/\c.n.kind=26:=fun c hc=>by
     have hcm:=List.mem_of_mem_drop hc;refine⟨(hns _ (hmemS (hs.kids_mem _ hcm))).2,?_⟩;obtain⟨i,hi2,hic,rfl⟩:∃i,2<=i/\i<t.k.count/\t.kid i=c:=by
      obtain⟨j,hj,e⟩:=List.getElem_of_mem hc;rw[List.length_drop,t.kids_len]at hj;rw[List.getElem_drop]at e;refine⟨2+j,ya,ya,?_⟩;unfold Tp.kid;rw[<-e];simp[List.getD,show 2+j<t.kids.length by rw[t.kids_len];omega]
     have h:=(hb.clause hic).1 ya ya;rwa[if_neg ya]at h
    simp only[atE_fg,app_len,one_len,led_len,hol]at hat hn |-;obtain⟨a0,a1,a2,a3,a4⟩:=hat;have ho:=ops_o hF hes (t.kids.drop 2) _ hcl a4;obtain⟨a,c1,c2,c3,c4⟩:=led_ok a3.1;have e2:In.lead ⟨24,0,((t.kids.drop 2).length:Int),0⟩ 0 (a:Int)=⟨24,(a:Int),((t.kids.drop 2).length:Int),0⟩:=rfl;rw[e2]at c2;rw[show((ss++ [(t.kid 1).n.a]).length:Int)=ss.length+1 by simp]at c3;rw[show q+(1+(g0.c.length+(1+(1+(t.kids.drop 2).length))))=q+1+g0.c.length+1+1+(t.kids.drop 2).length by omega]at hn
    refine z44 (z47 (hand_o (l:=t.kids.drop 2) hF ya a3.1.1 (by split<;>simp) a0.1 (z66 a1 d0) c1 c2 c3 ho.2 hn)) (z44 (i0 a1 (z66 a2 ⟨_,_,rfl,rfl⟩)) (z44 (z47 (okp_of a2.1 yk (fun _=>⟨gd,mz⟩))) (z44 (z47 ⟨?_,fun hp=>by rw[c4]at hp;exact absurd rfl hp⟩) ho.1)))
    rw[c2];have hkl:=t.kids_len;unfold In.ok insOkZ;simp[manyZ];omega
   ·rw [fgK (Or.inl e)]at hat hn |-;have hc:t.k.count=2:=by
     have h3:=(z69 hg).2.2;have h4:arityZ t.n.kind=2:=by
      rcases e with e|e|e|⟨e1,e2⟩
      .rw[e];rfl
      .rw[e];rfl
      .rw[e];rfl
      .have:t.n.kind=11\/t.n.kind=12\/t.n.kind=13\/t.n.kind=14\/t.n.kind=15:=by omega
       rcases this with e|e|e|e|e<;>rw[e]<;>rfl
     rw[h4]at h3;have:=h3 ya;omega
    have hkl:=t.kids_len;have hsum:=t.kids_sum;have hkn:∀i,knownZ t.n i= []:=fun i=>ku
    rw[atE_fg]at hat;rw[app_len,one_len]at hn |-;rw[<-Nat.add_assoc]at hn;have e2:v+(t.kids.length:Int)=v+2:=ya;have hko:=kids_o ih hp hp3 t.kids q v (fun c hcm=>by
     have h4:=sum_mem _ c hcm;have h5:=Tp.kids_dp hcm;obtain⟨i,hi,rfl⟩:∃i,i<t.k.count/\t.kid i=c:=by
      obtain⟨j,hj,e⟩:=List.getElem_of_mem hcm;exact⟨j,mq,mr⟩
     exact⟨ya,hs.kids_mem _ hcm,hb.kid0 hi (hkn i),ya⟩) hv hat.1 (z66 hat.2 ⟨_,_,rfl,rfl⟩)
    have ha2:=hat.2.1;rw[e2]at ha2;obtain⟨l1,l2,l3⟩:=last_two (es:=es) (F:=F) (n:=t.n) (q:=q+(kidsF (fgZ es M) ss p t.kids q v).c.length) (k:=(ss.length:Int)) (p:=p) e hv;exact z44 hko (z47 (okp_of ha2 l1 (fun _=>⟨l2,by rw[l3];exact ex_one hn⟩)))
   ·rw [fgK (Or.inr e)]at hat hn |-;have hc:t.k.count=1:=by
     have h3:=(z69 hg).2.2;have h4:arityZ t.n.kind=1:=by
      rcases e with e|e|e|e<;>rw[e]<;>rfl
     rw[h4]at h3;have:=h3 ya;omega
    have hkl:=t.kids_len;have hsum:=t.kids_sum;have hkn:∀i,knownZ t.n i= []:=fun i=>ku
    rw[atE_fg]at hat;rw[app_len,one_len]at hn |-;rw[<-Nat.add_assoc]at hn;have e2:v+(t.kids.length:Int)=v+1:=ya;have hko:=kids_o ih hp hp3 t.kids q v (fun c hcm=>by
     have h4:=sum_mem _ c hcm;have h5:=Tp.kids_dp hcm;obtain⟨i,hi,rfl⟩:∃i,i<t.k.count/\t.kid i=c:=by
      obtain⟨j,hj,e⟩:=List.getElem_of_mem hcm;exact⟨j,mq,mr⟩
     exact⟨ya,hs.kids_mem _ hcm,hb.kid0 hi (hkn i),ya⟩) hv hat.1 (z66 hat.2 ⟨_,_,rfl,rfl⟩)
    have ha2:=hat.2.1;rw[e2]at ha2;obtain⟨l1,l2,l3⟩:=last_one (F:=F) (n:=t.n) (q:=q+(kidsF (fgZ es M) ss p t.kids q v).c.length) (k:=(ss.length:Int)) (p:=p) hes e (hns _ hmem).2 hv;exact z44 hko (z47 (okp_of ha2 l1 (fun _=>⟨l2,by rw[l3];exact ex_one hn⟩)))
end
end
end Go.Proofs.YtbbffkiobmbkfaaGreatDoor
