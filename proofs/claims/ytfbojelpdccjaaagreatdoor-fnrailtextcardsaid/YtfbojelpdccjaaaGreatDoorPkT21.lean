import Derived.Test.YtfbojelpdccjaaaGreatDoorPkT13
open Go.Proofs.Tryz
set_option maxHeartbeats 4000000
set_option maxRecDepth 100000
namespace Go.Proofs.YtfbojelpdccjaaaGreatDoor
open Go.RowKit
variable {a b:List Nd}{l:List UInt8}{c i k:Nat}{n:Nd}{s:Ps}{W:World}
section
open Go.RowKit
def BytesAt (w:World) (a0:Option Addr) (len:Nat):Prop:=
 0<len-> ∃b off,a0=some ⟨b,off,none⟩/\b<w.heap.size/\ ∀i,i<len-> ∃z,w.cell? ⟨b,off+i,none⟩=some (.int .u8 z)/\0<=z/\z<=255
theorem ropen_calls (a0:Option Addr) (len cap:Nat) (w:World) (hlen:len<=1000000000) (hb:len<=cap) :
 Calls prog 14 #[.slice a0 len cap] w fun e w'=> e=.returned (.pointer (some ⟨w.heap.size,0,none⟩))/\
  ∃n:Nat,n<=len/\w'= w.alloc (.cells #[.slice a0 n cap,.int .i64 0] 79):=by
 by_cases h:(2000:Int)<(len:Int)
 .go_enter func14,ntmps14
  go_wp2
  go_ret;exact⟨rfl,2000,yf,rfl⟩
 .go_enter func14,ntmps14
  go_wp2
  go_ret;exact⟨rfl,len,La,rfl⟩
theorem BytesAt.below {w w':World}{a0:Option Addr}{len:Nat}(h:BytesAt w a0 len) (hb:Below w.heap.size w w'):BytesAt w' a0 len:=by
 intro h0;obtain⟨b,off,ea,hlt,hz⟩:=h h0;refine⟨b,off,ea,Le hlt hb.size,fun i hi=>?_⟩;obtain⟨z,hz,h0,h1⟩:=hz i hi;exact⟨z,by rw[<-hz];exact hb.cell (p:=⟨b,off+i,none⟩) hlt,h0,h1⟩
def BriefN (l:List Nd):Prop:= ∀n∈l,Brief n.a/\Brief n.b/\Brief n.c
def BriefW (ws:List Wd):Prop:= ∀w∈ws,Brief w.text
def Mv {α:Type}(N:Nat) (p:PS α) (Q:Nat->α->Prop):Prop:= ∀s:Ps,s.at_<=N-> ∃c,(p s).2.at_=s.at_+c/\s.at_+c<=N/\Q c (p s).1
section
variable {N:Nat}{α β:Type}
theorem Mv.bind {p:PS α}{k:α->PS β}{Q:Nat->α->Prop}{R:Nat->β->Prop}(h:Mv N p Q) (hk:∀c a,Q c a->Mv N (k a) (fun e b=>R (c+e) b)):Mv N (bindS p k) R:=fun s hs=>by
 obtain⟨c,h1,h2,h3⟩:=h s hs;obtain⟨e,h4,h5,h6⟩:=hk c _ h3 (p s).2 yf;exact⟨c+e,by unfold bindS;omega,yf,h6⟩
theorem Mv.pure {R:Nat->α->Prop}{a:α}(h:R 0 a):Mv N (pureS a) R:=fun s hs=>⟨0,rfl,yf,h⟩
theorem Mv.mono {p:PS α}{Q R:Nat->α->Prop}(h:Mv N p Q) (hq:∀c a,Q c a->R c a):Mv N p R:=fun s hs=>by
 obtain⟨c,h1,h2,h3⟩:=h s hs;exact⟨c,h1,h2,hq _ _ h3⟩
end
section
variable {ws:List Wd}
theorem cur_mem (h:i<ws.length):curW ws i∈ws:=by
 unfold curW;simp only[List.getD_eq_getElem?_getD];rw[List.getElem?_eq_getElem h];exact List.getElem_mem _
theorem sees_lt (hl:l≠ []) (h:seesS ws s l=true):s.at_<ws.length:=by
 unfold seesS txt at h;by_cases hc:s.bad=true\/ws.length<=s.at_\/(curW ws s.at_).kind<3
 .rw[if_pos hc,no_bytes]at h
  cases l with
  |nil=>exact absurd rfl hl
  |cons a l=>cases h
 .exact Nat.lt_of_not_le (fun e=>hc (Or.inr (Or.inl e)))
theorem Mv.or {α:Type}(hl:l≠ []) {p q:PS α}{R:Nat->α->Prop}(h:Mv ws.length p (fun c a=>R (c+1) a)) (h':Mv ws.length q R):Mv ws.length (orS ws l p q) R:=fun s hs=>by
 unfold orS
 cases hc:seesS ws s l with
 | true=>
   have:=sees_lt hl hc;obtain⟨c,h1,h2,h3⟩:=h s.next (by show s.at_+1<=_;omega);have e:s.next.at_=s.at_+1:=rfl;exact⟨c+1,by rw[if_pos rfl];omega,yf,by rw[if_pos rfl];exact h3⟩
 | false=>
   rw[if_neg yn];exact h' s hs
theorem Mv.take (hl:l≠ []):Mv ws.length (takeS ws l) (fun _ _=>True):=fun s hs=>by
 unfold takeS
 cases hc:seesS ws s l with
 | true=>
   have:=sees_lt hl hc;exact⟨1,rfl,yf,trivial⟩
 |false=>exact⟨0,rfl,yf,trivial⟩
theorem Mv.name (hb:BriefW ws):Mv ws.length (nameS ws) (fun _ x=>Brief x):=fun s hs=>by
 unfold nameS
 cases hc:isNm ws s with
 | true=>
   have h2:s.at_<ws.length:=by
    unfold isNm at hc;simp only[Bool.and_eq_true,decide_eq_true_eq]at hc;exact hc.2.1
   exact⟨1,rfl,yf,hb _ (cur_mem h2)⟩
 |false=>exact⟨0,rfl,yf,brief_nil⟩
where brief_nil:Brief ⟨#[]⟩:=vf
def Len (k:Nat) (c:Nat) (l:List Nd):Prop:=l.length<=3*c+k/\BriefN l
def accN:Nt (List Nd)->Nat
 |.sumL a=>a.length
 |.prodL a=>a.length
 |.callL a=>a.length
 |.hand _=>2
 |.opsL _ ks=>1+ks.flatten.length
 |_=>0
def NtB:Nt (List Nd)->Prop
 |.sumL a=>BriefN a
 |.prodL a=>BriefN a
 |.callL a=>BriefN a
 |.opsL _ ks=>BriefN ks.flatten
 |_=>True
def LenA (c:Nat) (l:List Nd):Prop:=l.length<=3*c-1/\BriefN l
theorem z62 (n:Nd) (ks:List (List Nd)):(putN n ks).length=1+ks.flatten.length:=by unfold putN;simp;omega
theorem z65 {ks:List (List Nd)}(hn:Brief n.a/\Brief n.b/\Brief n.c) (hk:BriefN ks.flatten):BriefN (putN n ks):=fun m hm=>by
 unfold putN at hm;rcases List.mem_cons.1 hm with rfl|hm
 .exact hn
 .exact hk m hm
theorem brief_two (h:BriefN a) (h':BriefN b):BriefN (a++b):=fun m hm=>by
 rcases List.mem_append.1 hm with hm|hm
 .exact h m hm
 .exact h' m hm
theorem brief_no:BriefN []:=fun m hm=>by cases hm
theorem z17:Brief ⟨#[]⟩:=vf
theorem len0' (hn:Brief n.a/\Brief n.b/\Brief n.c) (h:1<=3*c+k):Len k c (putN n []):=⟨by rw[z62];simpa using h,z65 hn brief_no⟩
theorem len1' (hn:Brief n.a/\Brief n.b/\Brief n.c) (ha:BriefN a) (h:1+a.length<=3*c+k):Len k c (putN n [a]):=⟨by rw[z62];simpa using h,z65 hn (by simpa using ha)⟩
theorem len2' (hn:Brief n.a/\Brief n.b/\Brief n.c) (ha:BriefN a) (hb:BriefN b) (h:1+a.length+b.length<=3*c+k):Len k c (putN n [a,b]):=⟨by rw[z62];simp;omega,z65 hn (by simpa using brief_two ha hb)⟩
theorem len3' {d:List Nd}(hn:Brief n.a/\Brief n.b/\Brief n.c) (ha:BriefN a) (hb:BriefN b) (hd:BriefN d) (h:1+a.length+b.length+d.length<=3*c+k):Len k c (putN n [a,b,d]):=⟨by rw[z62];simp;omega,z65 hn (by simpa using brief_two ha (brief_two hb hd))⟩
structure PartM (ws:List Wd) (go:Nt (List Nd)->PS (List Nd)):Prop where
 at_:∀nt,NtB nt->nt≠ .atom->Mv ws.length (go nt) (Len (accN nt))
 atom:Mv ws.length (go .atom) LenA
 live:(∀s,startsS ws s=true->s.at_+1<=(go .atom s).2.at_)\/ ∀nt s,(go nt s).1= []
variable {go:Nt (List Nd)->PS (List Nd)}
theorem PartM.at (h:PartM ws go) (nt:Nt (List Nd)) (hb:NtB nt) (ha:nt≠ .atom):Mv ws.length (go nt) (Len (accN nt)):=h.at_ nt hb ha
theorem brack_m (hg:PartM ws go):Mv ws.length (brackS ws go) (Len 1):=by
 have ex:=hg.at .expr trivial yn;refine Mv.or yh (Mv.pure (len0' ⟨z17,z17,z17⟩ yf)) (ex.bind fun c1 a ha=>Mv.or yh (ex.bind fun c2 b hb=>(Mv.take yh).bind fun c3 _ _=>Mv.pure (len2' ⟨z17,z17,z17⟩ ha.2 hb.2 ?_)) ((Mv.take yh).bind fun c2 _ _=>Mv.pure ⟨?_,ha.2⟩))
 .have h1:=ha.1;have h2:=hb.1;simp only[accN]at h1 h2;omega
 .have h1:=ha.1;simp only[accN]at h1;omega
theorem atom_m (hw:BriefW ws) (hg:PartM ws go) (s:Ps) (hs:s.at_<=ws.length):∃c,(atomS ws go s).2.at_=s.at_+c/\s.at_+c<=ws.length/\LenA c (atomS ws go s).1/\(startsS ws s=true->1<=c):=by
 unfold atomS
 cases hc:startsS ws s with
 |false=>exact⟨0,rfl,yf,⟨Li _,brief_no⟩,fun h=>qk⟩
 | true=>
   rw[if_pos rfl];have hlt:s.at_<ws.length:=by
    unfold startsS at hc;simp only[Bool.and_eq_true,decide_eq_true_eq]at hc;exact hc.2.1
   have hbw:=hw _ (cur_mem hlt);obtain⟨w,hw'⟩:∃w,curW ws s.at_=w:=⟨_,rfl⟩
   rw[hw']at hbw |-;have key:Mv ws.length (wordS ws go w) (fun c l=>l.length<=3*c+2/\BriefN l):=by
    have leaf:∀n:Nd,Brief n.a/\Brief n.b/\Brief n.c->Mv ws.length (pureS (putN n [])) (fun c l=>l.length<=3*c+2/\BriefN l):=fun n hn=>Mv.pure ⟨by rw[z62];simp,z65 hn brief_no⟩
    unfold wordS;split
    .exact leaf _ ⟨z17,z17,z17⟩
    split
    .exact leaf _ ⟨hbw,z17,z17⟩
    split
    .exact leaf _ ⟨z17,z17,z17⟩
    split
    .exact leaf _ ⟨z17,z17,z17⟩
    split
    .exact leaf _ ⟨z17,z17,z17⟩
    split
    .exact hg.at (.hand 23) trivial yn
    split
    .exact hg.at (.hand 24) trivial yn
    .exact(brack_m hg).mono fun c l hl=>⟨by have:=hl.1;omega,hl.2⟩
   obtain⟨c,h1,h2,h3,h4⟩:=key s.next (by show s.at_+1<=_;omega);have e:s.next.at_=s.at_+1:=rfl;exact⟨c+1,yf,yf,⟨yf,h4⟩,fun _=>yf⟩
theorem step_m (hw:BriefW ws) (hg:PartM ws go):∀nt,NtB nt->nt≠ .atom->Mv ws.length (stepS ws go nt) (Len (accN nt)):=by
 have ex:=hg.at .expr trivial yn;have at':= hg.atom;have e3:Brief (nd0 0).a/\Brief (nd0 0).b/\Brief (nd0 0).c:=⟨z17,z17,z17⟩
 intro nt hb hna
 cases nt with
 | expr=>
   show Mv ws.length (exprS ws go) (Len 0);refine Mv.or yh (Mv.or yh ?_ ?_) (Mv.or yh ?_ (Mv.or yh ?_ (Mv.or yh ?_ (hg.at .cons trivial yn))))
   .refine(Mv.name hw).bind fun c1 f hf=>(Mv.name hw).bind fun c2 x hx=>(Mv.take yh).bind fun c3 _ _=>ex.bind fun c4 a ha=>(Mv.take yh).bind fun c5 _ _=>ex.bind fun c6 b hb=>Mv.pure (len2' ⟨hf,hx,z17⟩ ha.2 hb.2 ?_)
    have h1:=ha.1;have h2:=hb.1;simp only[accN]at h1 h2;omega
   .refine(Mv.name hw).bind fun c2 x hx=>(Mv.take yh).bind fun c3 _ _=>ex.bind fun c4 a ha=>(Mv.take yh).bind fun c5 _ _=>ex.bind fun c6 b hb=>Mv.pure (len2' ⟨hx,z17,z17⟩ ha.2 hb.2 ?_)
    have h1:=ha.1;have h2:=hb.1;simp only[accN]at h1 h2;omega
   .refine ex.bind fun c1 a ha=>(Mv.take yh).bind fun c2 _ _=>ex.bind fun c3 b hb=>(Mv.take yh).bind fun c4 _ _=>ex.bind fun c5 d hd=>Mv.pure (len3' e3 ha.2 hb.2 hd.2 ?_)
    have h1:=ha.1;have h2:=hb.1;have h3:=hd.1;simp only[accN]at h1 h2 h3;omega
   .refine(Mv.name hw).bind fun c2 x hx=>(Mv.take yh).bind fun c3 _ _=>ex.bind fun c4 a ha=>Mv.pure (len1' ⟨hx,z17,z17⟩ ha.2 ?_)
    have h1:=ha.1;simp only[accN]at h1;omega
   .refine ex.bind fun c1 a ha=>(Mv.take yh).bind fun c2 _ _=>(Mv.take yh).bind fun c3 _ _=>(Mv.take yh).bind fun c4 _ _=>ex.bind fun c5 b hb=>(Mv.take yh).bind fun c6 _ _=>(Mv.name hw).bind fun c7 x hx=>(Mv.take yh).bind fun c8 _ _=>(Mv.name hw).bind fun c9 y hy=>(Mv.take yh).bind fun c10 _ _=>ex.bind fun c11 d hd=>Mv.pure (len3' ⟨hx,hy,z17⟩ ha.2 hb.2 hd.2 ?_)
    have h1:=ha.1;have h2:=hb.1;have h3:=hd.1;simp only[accN]at h1 h2 h3;omega
 | cons=>
   show Mv ws.length (consS ws go) (Len 0);unfold consS;refine(hg.at .comp trivial yn).bind fun c1 a ha=>Mv.or yh ((hg.at .cons trivial yn).bind fun c2 b hb=>Mv.pure (len2' e3 ha.2 hb.2 ?_)) (Mv.pure ha)
   have h1:=ha.1;have h2:=hb.1;simp only[accN]at h1 h2;omega
 | comp=>
   have sm:=hg.at .sum trivial yn;show Mv ws.length (compS ws go) (Len 0);unfold compS;refine sm.bind fun c1 a ha=>Mv.or yh (sm.bind fun c2 b hb=>Mv.pure (len2' e3 ha.2 hb.2 ?_)) (Mv.or yh (sm.bind fun c2 b hb=>Mv.pure (len2' e3 ha.2 hb.2 ?_)) (Mv.pure ha))
   all_goals
    have h1:=ha.1;have h2:=hb.1;simp only[accN]at h1 h2;omega
 | sum=>
   refine(hg.at .prod trivial yn).bind fun c1 a ha=>(hg.at (.sumL a) ha.2 yn).mono fun c2 l hl=>⟨?_,hl.2⟩
   have h1:=ha.1;have h2:=hl.1;simp only[accN]at h1 h2;omega
 | prod=>
   refine(hg.at .call trivial yn).bind fun c1 a ha=>(hg.at (.prodL a) ha.2 yn).mono fun c2 l hl=>⟨?_,hl.2⟩
   have h1:=ha.1;have h2:=hl.1;simp only[accN]at h1 h2;omega
 | call=>
   refine(?_:Mv ws.length (headS ws go) (Len 0)).bind fun c1 a ha=>(hg.at (.callL a) ha.2 yn).mono fun c2 l hl=>⟨?_,hl.2⟩
   ·refine Mv.or yh (at'.bind fun c1 a ha=>Mv.pure (len1' e3 ha.2 ?_)) (Mv.or yh (at'.bind fun c1 a ha=>Mv.pure (len1' e3 ha.2 ?_)) (Mv.or yh (at'.bind fun c1 a ha=>Mv.pure (len1' e3 ha.2 ?_)) (Mv.or yh ((Mv.name hw).bind fun c0 x hx=>at'.bind fun c1 a ha=>Mv.pure (len1' ⟨hx,z17,z17⟩ ha.2 ?_)) (at'.mono fun c l hl=>⟨by have:=hl.1;omega,hl.2⟩))));all_goals
     have h1:=ha.1;omega
   .have h1:=ha.1;have h2:=hl.1;simp only[accN]at h1 h2;omega
 |atom=>exact absurd rfl hna
 | sumL a0=>
   have pr:=hg.at .prod trivial yn;show Mv ws.length (sumLS ws go a0) (Len a0.length);refine Mv.or yh (pr.bind fun c1 b hb'=> (hg.at (.sumL (putN (nd0 11) [a0,b])) ?_ yn).mono fun c2 l hl=>⟨?_,hl.2⟩) (Mv.or yh (pr.bind fun c1 b hb'=> (hg.at (.sumL (putN (nd0 12) [a0,b])) ?_ yn).mono fun c2 l hl=>⟨?_,hl.2⟩) (Mv.pure ⟨yf,hb⟩))
   .exact z65 e3 ml
   .have h1:=hb'.1;have h2:=hl.1;simp only[accN,z62]at h1 h2;simp at h2;omega
   .exact z65 e3 ml
   .have h1:=hb'.1;have h2:=hl.1;simp only[accN,z62]at h1 h2;simp at h2;omega
 | prodL a0=>
   have pr:=hg.at .call trivial yn;show Mv ws.length (prodLS ws go a0) (Len a0.length);refine Mv.or yh (pr.bind fun c1 b hb'=> (hg.at (.prodL (putN (nd0 13) [a0,b])) ?_ yn).mono fun c2 l hl=>⟨?_,hl.2⟩) (Mv.pure ⟨yf,hb⟩)
   .exact z65 e3 ml
   .have h1:=hb'.1;have h2:=hl.1;simp only[accN,z62]at h1 h2;simp at h2;omega
 | callL a0=>
   show Mv ws.length (callLS ws go a0) (Len a0.length);intro s hs;unfold callLS
   cases hc:startsS ws s with
   |false=>exact⟨0,rfl,yf,by show a0.length<=_;omega,hb⟩
   | true=>
     rw[if_pos rfl];obtain⟨c1,h1,h2,h3,h3b⟩:=at' s hs;obtain⟨c2,h4,h5,h6,h7⟩:=hg.at (.callL (putN (nd0 7) [a0,(go .atom s).1])) (z65 e3 (by simpa using brief_two hb h3b)) yn (go .atom s).2 yf;have e:bindS (go .atom) (fun b=>go (.callL (putN (nd0 7) [a0,b]))) s=go (.callL (putN (nd0 7) [a0,(go .atom s).1])) (go .atom s).2:=rfl;rw[e];refine⟨c1+c2,yf,yf,?_,h7⟩;rcases hg.live with hl|hd
     .have:=hl s hc;simp only[accN,z62]at h6;simp at h6;omega
     .rw[hd];exact Li _
 | hand k=>
   show Mv ws.length (handS ws go k) (Len 2);refine ex.bind fun c1 a ha=>(Mv.take yh).bind fun c2 _ _=>(Mv.take yh).bind fun c3 _ _=>(Mv.name hw).bind fun c4 x hx=>(Mv.take yh).bind fun c5 _ _=>ex.bind fun c6 b hb'=> (hg.at (.opsL k [a,putN (nd1 25 x) [b]]) ?_ yn).mono fun c7 l hl=>⟨?_,hl.2⟩
   .show BriefN [a,putN (nd1 25 x) [b]].flatten;simpa using brief_two ha.2 (z65 (n:=nd1 25 x) ⟨hx,z17,z17⟩ (ks:= [b]) (by simpa using hb'.2))
   .have h1:=ha.1;have h2:=hb'.1;have h3:=hl.1;simp only[accN,List.flatten_cons,List.flatten_nil,List.length_append,z62,List.length_nil]at h1 h2 h3;omega
 | opsL k ks=>
   show Mv ws.length (opsLS ws go k ks) (Len (1+ks.flatten.length));have hks:BriefN ks.flatten:=hb;refine Mv.or yh ((Mv.name hw).bind fun c1 a ha=>(Mv.name hw).bind fun c2 b hb'=> (Mv.name hw).bind fun c3 c hc=>(Mv.take yh).bind fun c4 _ _=>ex.bind fun c5 e he=>(hg.at (.opsL k (ks++ [putN (nd3 26 a b c) [e]])) ?_ yn).mono fun c7 l hl=>⟨?_,hl.2⟩) ((Mv.take yh).bind fun c1 _ _=>Mv.pure ⟨by rw[z62];omega,z65 e3 hks⟩)
   .show BriefN (ks++ [putN (nd3 26 a b c) [e]]).flatten;simpa using brief_two hks (z65 (n:=nd3 26 a b c) ⟨ha,hb',hc⟩ (ks:= [e]) (by simpa using he.2))
   .have h1:=he.1;have h3:=hl.1;simp only[accN,List.flatten_append,List.flatten_cons,List.flatten_nil,List.length_append,z62,List.length_nil]at h1 h3;omega
theorem part_m (hw:BriefW ws):∀f,PartM ws (spz ws f)
 |0=>⟨fun nt _ _ s hs=>⟨0,rfl,yf,Li _,brief_no⟩,fun s hs=>⟨0,rfl,yf,Li _,brief_no⟩,Or.inr fun _ _=>rfl⟩
 | f+1=>by
   have hg:=part_m hw f;refine⟨step_m hw hg,fun s hs=>?_,Or.inl fun s hc=>?_⟩
   .obtain⟨c,h1,h2,h3,-⟩:=atom_m hw hg s hs;exact⟨c,h1,h2,h3⟩
   ·have hlt:s.at_<ws.length:=by
     unfold startsS at hc;simp only[Bool.and_eq_true,decide_eq_true_eq]at hc;exact hc.2.1
    obtain⟨c,h1,h2,h3,h4⟩:=atom_m hw hg s yf;have:=h4 hc;show s.at_+1<=(atomS ws (spz ws f) s).2.at_;omega
end
end
section
open Go.RowKit Go.Deep
def wdC (w:Wd):Nat->Value
 |0=> .int .i64 w.kind
 |1=> .string w.text
 |_=> .int .i64 w.at_
structure PsAt (d:Dr) (ws:List Wd) (ad:Option Addr) (cp:Nat) (s:Ps) (W:World):Prop where
 blk:W.heap[d.B]?=some (.cells #[.slice ad ws.length cp,.int .i64 (s.at_:Int),.bool s.bad] 72)
 eq:d.G=d.B
 lt:s.at_<=ws.length
 few:ws.length<=1500
 words:Lies d W (.slice ad ws.length cp) ws.length 3 (fun i=>wdC (ws.getD (i/3) default) (i % 3))
theorem z46 (B:Nat) (w:World) (n:Nat):Below B w (w.drewN n):=⟨rfl,rfl,rfl,La,fun _ _=>rfl⟩
section
variable {d:Dr}{ws:List Wd}{ad:Option Addr}{cp:Nat}
theorem PsAt.below {W':World}(h:PsAt d ws ad cp s W) (hb:Below W.heap.size W W'):PsAt d ws ad cp s W':=
 ⟨(hb.block _ (z12 h.blk)).trans h.blk,h.eq,h.lt,h.few,h.words.grew (Grew.of_below hb)⟩
theorem PsAt.lies (h:PsAt d ws ad cp s W) (hi:0<ws.length):∃b,ad=some ⟨b,0,none⟩/\ ∀i,i<ws.length->W.cell? ⟨b,i*3,none⟩=some (.int .i64 (curW ws i).kind)/\W.cell? ⟨b,i*3+1,none⟩=some (.string (curW ws i).text)/\W.cell? ⟨b,i*3+2,none⟩=some (.int .i64 (curW ws i).at_):=by
 rcases h.words with ⟨-,h0⟩|⟨b,off,cap,e,-,rfl,-,hc⟩
 .omega
 cases e;refine⟨b,rfl,fun i hi=>?_⟩;have e:∀c,c<3->W.cell? ⟨b,i*3+c,none⟩=some (wdC (ws.getD i default) c):=fun c hc'=> by
  have:=hc (i*3+c) yf;rw[Nat.zero_add]at this;rw[this];exact congrArg some (cell_div ws wdC 3 i c hc')
 exact⟨e 0 yf,e 1 yf,e 2 yf⟩
theorem text_calls (s:Ps) (W:World) (h:PsAt d ws ad cp s W) :
 Calls prog 62 #[.pointer (some ⟨d.B,0,none⟩)] W fun e W'=> e=.returned (.string (txt ws s))/\Below W.heap.size W W':= by
 obtain⟨p0,p1,p2⟩:=fcl3 h.blk;obtain⟨L,hL⟩:∃L,ws.length=L:=⟨_,rfl⟩
 have hle:s.at_<=L:=mm;have H:=J h;have HL:=J hL;rw[hL]at p0;clear h hL;obtain⟨i,bad⟩:=s;dsimp only at p1 p2 hle;go_enter func62,ntmps62
 cases bad with
 | true=>
   have ht:txt ws ⟨i,true⟩=⟨#[]⟩:=by unfold txt;rw[if_pos (Or.inl rfl)]
   go_wp2_with fail
   go_quiet (fail)
   go_wp2_with fail
   go_ret;rw[ht];exact⟨rfl,z46 _ _ _⟩
 | false=>
   by_cases hi:L<=i
   .have ht:txt ws ⟨i,false⟩=⟨#[]⟩:=by unfold txt;rw[if_pos (Or.inr (Or.inl (by have:=HL.o;dsimp only;omega)))]
    go_wp2_with fail
    go_quiet (fail)
    go_wp2_with fail
    go_ret;rw[ht];exact⟨rfl,z46 _ _ _⟩
   .have hlt:i<ws.length:=by have:=HL.o;omega
    obtain⟨b,rfl,hw⟩:=H.o.lies yf;obtain⟨w0,w1,-⟩:=hw i hlt;by_cases hk:(curW ws i).kind<3
    .have ht:txt ws ⟨i,false⟩=⟨#[]⟩:=by unfold txt;rw[if_pos (Or.inr (Or.inr hk))]
     have hi0:(0:Int)<=(i:Int):=yf;have hd:decide (L<=i)=false:=decide_eq_false hi;have hd2:decide ((curW ws i).kind<3)=true:=decide_eq_true hk;have hi1:i<L:=yf;clear hw;go_wp2_with fail
     go_quiet (fail)
     go_wp2_with fail
     go_ret;rw[ht];exact⟨rfl,z46 _ _ _⟩
    .have ht:txt ws ⟨i,false⟩=(curW ws i).text:=by unfold txt;rw[if_neg yk]
     have hi0:(0:Int)<=(i:Int):=yf;have hd:decide (L<=i)=false:=decide_eq_false hi;have hd2:decide ((curW ws i).kind<3)=false:=decide_eq_false hk;have hi1:i<L:=yf;clear hw;go_wp2_with fail
     go_quiet (fail)
     go_wp2_with fail
     go_quiet (fail)
     go_wp2_with fail
     go_ret;rw[ht];exact⟨rfl,rfl,rfl,rfl,La,fun _ _=>rfl⟩
theorem z28 {B:Nat}{c:Array Value}{t:TypeId}(v:Value) (h:W.heap[B]?=some (.cells c t)):(W.setCell ⟨B,i,none⟩ v).heap[B]?=some (.cells (c.setIfInBounds i v) t):=by
 rw[setCell_eq_setRow W B i c t (0,0) v h];exact setRow_heap W B _ _ t _ h
theorem z42 {d:Dr}(W:World) (i:Nat) (v:Value):Grew d W (W.setCell ⟨d.B,i,none⟩ v):=
 ⟨rfl,rfl,rfl,vh,fun q hq=>Lg W ⟨d.B,i,none⟩ v q (fun e=>hq.2.1 e)⟩
theorem PsAt.move (h:PsAt d ws ad cp s W) (hi:i<=ws.length):PsAt d ws ad cp ⟨i,s.bad⟩ (W.setCell ⟨d.B,1,none⟩ (.int .i64 (i:Int))):=
 ⟨z28 _ h.blk,h.eq,hi,h.few,h.words.grew (z42 W 1 _)⟩
theorem PsAt.fails (h:PsAt d ws ad cp s W):PsAt d ws ad cp s.fail (W.setCell ⟨d.B,2,none⟩ (.bool true)):=
 ⟨z28 _ h.blk,h.eq,h.lt,h.few,h.words.grew (z42 W 2 _)⟩
def StepP (d:Dr) (ws:List Wd) (ad:Option Addr) (cp:Nat) (s:Ps) (W W':World):Prop:=PsAt d ws ad cp s W'/\Grew d W W'
theorem sees_not (h:¬ seesS ws s l=true):seesS ws s l=false:=by
 cases hc:seesS ws s l with
 |true=>exact absurd hc h
 |false=>rfl
theorem take_calls (s:Ps) (t:ByteArray) (ht:t.toList≠ []) (W:World) (h:PsAt d ws ad cp s W) :
 Calls prog 64 #[.pointer (some ⟨d.B,0,none⟩),.string t] W fun e W'=> (∃x,e=.returned x)/\StepP d ws ad cp (takeS ws t.toList s).2 W W':= by
 have HT:=J (text_calls s W h);have H:=J h;have HN:=J ht;obtain⟨u,hu⟩:∃u,txt ws s=u:=⟨_,rfl⟩
 rw[hu]at HT;have HU:=J hu;clear h hu ht;go_enter func64,ntmps64
 go_wp2_with fail
 refine HT.o.mono ?_;rintro e W1 ⟨rfl,hb⟩;have H1:=J (H.o.below hb);have G1:=J (Grew.of_below (d:=d) hb);clear hb;have q1:=z8 H1.o.blk 1;have q2:=z8 H1.o.blk 2;have z1:=z11 H1.o.blk 1;have z2:=z11 H1.o.blk 2;simp at q1 q2;have HZ:=J (H1.o.few);by_cases hs:(u.toList==t.toList)=true
 .have hsee:seesS ws s t.toList=true:=by unfold seesS;rw[HU.o];exact hs
  have hlt:=sees_lt HN.o hsee;have HM:=J (H1.o.move (i:=s.at_+1) yf);have hw:wrap64 ((s.at_:Int)+1)=((s.at_+1:Nat):Int):=z18 jq;have e2:(takeS ws t.toList s).2=⟨s.at_+1,s.bad⟩:=by unfold takeS;rw[hsee];rfl
  have HWr:=J (Lc hw e2);clear hw e2 hsee hlt;go_wp2_with fail
  go_end0
  rw[HWr.o.1,HWr.o.2];exact⟨⟨_,rfl⟩,HM.o,G1.o.trans (z42 W1 1 _)⟩
 .have hsee:seesS ws s t.toList=false:=sees_not (by unfold seesS;rw[HU.o];exact hs);have e2:(takeS ws t.toList s).2=s.fail:=by unfold takeS;rw[hsee];rfl
  have hs2:(u.toList==t.toList)=false:=by simpa using hs
  have HWr:=J e2;clear hsee e2 hs;go_wp2_with fail
  first|go_end0|refine bodyPost_ret (results_none rfl _ _ _) rfl ?_
  rw[HWr.o];exact⟨⟨_,rfl⟩,H1.o.fails,G1.o.trans (z42 W1 2 _)⟩
end
section
variable {d:Dr}{ws:List Wd}{ad:Option Addr}{cp:Nat}
theorem pname_calls (s:Ps) (W:World) (h:PsAt d ws ad cp s W) :
 Calls prog 63 #[.pointer (some ⟨d.B,0,none⟩)] W fun e W'=> e=.returned (.string (nameS ws s).1)/\StepP d ws ad cp (nameS ws s).2 W W':= by
 have p0:=z8 h.blk 0;have p1:=z8 h.blk 1;have p2:=z8 h.blk 2;have z1:=z11 h.blk 1;have z2:=z11 h.blk 2;simp at p0 p1 p2;obtain⟨L,hL⟩:∃L,ws.length=L:=⟨_,rfl⟩
 have hle:s.at_<=L:=mm;have hfew:L<=1500:=by rw[<-hL];exact h.few
 have HF:=J hfew;have H:=J h;have HL:=J hL;rw[hL]at p0;clear h hL hfew;obtain⟨i,bad⟩:=s;dsimp only at p1 p2 hle;have bad1:∀(nq:Nat),StepP d ws ad cp ⟨i,true⟩ W ((W.drewN nq).setCell ⟨d.B,2,none⟩ (.bool true)):=fun nq=>by
  have h1:=H.o.below (z46 W.heap.size W nq);exact⟨h1.fails,(Grew.of_below (z46 _ _ _)).trans (z42 _ 2 _)⟩
 have HBad:=J bad1;clear bad1;go_enter func63,ntmps63
 cases bad with
 | true=>
   have ht:nameS ws ⟨i,true⟩=(⟨#[]⟩,⟨i,true⟩):=by unfold nameS isNm;simp[Ps.fail]
   have HN:=J ht;clear ht;go_wp2_with fail
   go_quiet (fail)
   go_wp2_with fail
   go_ret;rw[HN.o];exact⟨rfl,HBad.o _⟩
 | false=>
   by_cases hi:L<=i
   .have ht:nameS ws ⟨i,false⟩=(⟨#[]⟩,⟨i,true⟩):=by unfold nameS isNm;rw[if_neg xo];rfl
    have HN:=J ht;clear ht;go_wp2_with fail
    go_quiet (fail)
    go_wp2_with fail
    go_ret;rw[HN.o];exact⟨rfl,HBad.o _⟩
   .have hlt:i<ws.length:=by have:=HL.o;omega
    obtain⟨b,rfl,hw⟩:=H.o.lies yf;obtain⟨w0,w1,-⟩:=hw i hlt;have hi0:(0:Int)<=(i:Int):=yf;have hd:decide (L<=i)=false:=decide_eq_false hi;have hi1:i<L:=yf;by_cases hk:(curW ws i).kind=2
    .have ht:nameS ws ⟨i,false⟩=((curW ws i).text,⟨i+1,false⟩):=by unfold nameS isNm;rw[if_pos (by simp[hlt,hk])];rfl
     have HN:=J ht;have hd2:((curW ws i).kind !=2)=false:=by simp[hk]
     have hw1:wrap64 ((i:Int)+1)=((i+1:Nat):Int):=z18 (by have:=HF.o;omega);have HW1:=J hw1;have hmv:∀nq:Nat,StepP d ws (some ⟨b,0,none⟩) cp ⟨i+1,false⟩ W ((W.drewN nq).setCell ⟨d.B,1,none⟩ (.int .i64 ((i+1:Nat):Int))):=fun nq=>by
      have h1:=H.o.below (z46 W.heap.size W nq);exact⟨h1.move (i:=i+1) yf,(Grew.of_below (z46 _ _ _)).trans (z42 _ 1 _)⟩
     have HMv:=J hmv;clear hw ht hmv hw1 hlt;go_wp2_with fail
     go_quiet (fail)
     go_wp2_with fail
     rw[HW1.o];have HS:=J (HMv.o nq);obtain⟨X,hX⟩:∃X,(W.drewN nq).setCell ⟨d.B,1,none⟩ (.int .i64 ((i+1:Nat):Int))=X:=⟨_,rfl⟩
     rw[hX]at HS |-;obtain⟨b2,e2,hw2⟩:=HS.o.1.lies zy
     cases e2;obtain⟨-,x1,-⟩:=hw2 i zy;have y0:=z8 HS.o.1.blk 0;have y1:=z8 HS.o.1.blk 1;simp only[HL.o]at y0;simp at y0 y1;obtain⟨m,hm⟩:∃m:Int,(i:Int)+1=m:=⟨_,rfl⟩
     rw[hm]at y1;have hsb:wrap64 (m-1)=(i:Int):=by unfold wrap64;have:=HF.o;omega
     clear hm;clear hw2 hX p0 p1 p2 z1 z2 w0 w1;go_wp2_with fail
     go_quiet (fail)
     go_wp2_with fail
     go_ret;rw[HN.o];exact⟨rfl,HS.o.1.below (z46 _ _ _),HS.o.2.trans (Grew.of_below (z46 _ _ _))⟩
    .have ht:nameS ws ⟨i,false⟩=(⟨#[]⟩,⟨i,true⟩):=by unfold nameS isNm;rw[if_neg (by simp[hk])];rfl
     have HN:=J ht;have hd2:((curW ws i).kind !=2)=true:=by simp[hk]
     clear hw ht hlt;go_wp2_with fail
     go_quiet (fail)
     go_wp2_with fail
     go_ret;rw[HN.o];exact⟨rfl,HBad.o _⟩
end
def lay3 (W:World) (g:Nat) (a b c:Value):World:=((W.setCell ⟨g,0,none⟩ a).setCell ⟨g,1,none⟩ b).setCell ⟨g,2,none⟩ c
theorem lay3_is {g:Nat}{t:TypeId}{x y z:Value}(a b c:Value) (h:W.heap[g]?=some (.cells #[x,y,z] t)):(lay3 W g a b c).heap[g]?=some (.cells #[a,b,c] t)/\ ∀n,n<=g->Below n W (lay3 W g a b c):=by
 refine⟨z28 c (z28 b (z28 a h)),fun n hn=>?_⟩;exact(((Below.refl n W).setCell (p:=⟨g,0,none⟩) hn a).setCell (p:=⟨g,1,none⟩) hn b).setCell (p:=⟨g,2,none⟩) hn c
section
variable {d:Dr}{ws:List Wd}{ad:Option Addr}{cp:Nat}
theorem starts_calls (s:Ps) (W:World) (h:PsAt d ws ad cp s W) :
 Calls prog 147 #[.pointer (some ⟨d.B,0,none⟩)] W fun e W'=> e=.returned (.bool (startsS ws s))/\Below W.heap.size W W':= by
 obtain⟨p0,p1,p2⟩:=fcl3 h.blk;obtain⟨L,hL⟩:∃L,ws.length=L:=⟨_,rfl⟩
 have hle:s.at_<=L:=mm;have H:=J h;have HL:=J hL;rw[hL]at p0;clear h hL;obtain⟨i,bad⟩:=s;dsimp only at p1 p2 hle;go_enter func147,ntmps147
 cases bad with
 | true=>
   have HN:=J (show startsS ws ⟨i,true⟩=false from rfl);go_wp2_with fail
   go_quiet (fail)
   go_wp2_with fail
   go_ret;rw[HN.o];exact⟨rfl,z46 _ _ _⟩
 | false=>
   by_cases hi:L<=i
   .have HN:=J (show startsS ws ⟨i,false⟩=false by unfold startsS;rw[decide_eq_false (by have:=HL.o;dsimp only;omega)];rfl);go_wp2_with fail
    go_quiet (fail)
    go_wp2_with fail
    go_ret;rw[HN.o];exact⟨rfl,z46 _ _ _⟩
   .have hlt:i<ws.length:=by have:=HL.o;omega
    obtain⟨b,rfl,hw⟩:=H.o.lies yf;obtain⟨w0,w1,w2⟩:=hw i hlt;have hi0:(0:Int)<=(i:Int):=yf;have hd:decide (L<=i)=false:=decide_eq_false hi;have hi1:i<L:=yf;have HN:=J (show startsS ws ⟨i,false⟩=begins (curW ws i) by unfold startsS;rw[decide_eq_true (show i<ws.length from hlt)];rfl);generalize curW ws i=c at w0 w1 w2 HN;obtain⟨kd,tx,wa⟩:=c;dsimp only at w0 w1 w2;clear hw hlt;go_wp2_with fail
    go_quiet (fail)
    go_upto_region 3 with fail
    generalize hY:W.drewN nq=Y;have hB:Below W.heap.size W Y:=by rw[<-hY];exact z46 _ _ _
    have HB:=J hB;have hS:(fun w':World=>w'.cell? ⟨d.B,0,none⟩=some (.slice (some ⟨b,0,none⟩) L cp)/\w'.cell? ⟨d.B,1,none⟩=some (.int .i64 (i:Int))/\w'.cell? ⟨b,i*3,none⟩=some (.int .i64 kd)/\w'.cell? ⟨b,i*3+1,none⟩=some (.string tx)/\w'.cell? ⟨b,i*3+2,none⟩=some (.int .i64 wa)) Y.drew:=by
     rw[<-hY];exact⟨p0,p1,w0,w1,w2⟩
    refine z30 (S:=fun w':World=>w'.cell? ⟨d.B,0,none⟩=some (.slice (some ⟨b,0,none⟩) L cp)/\w'.cell? ⟨d.B,1,none⟩=some (.int .i64 (i:Int))/\w'.cell? ⟨b,i*3,none⟩=some (.int .i64 kd)/\w'.cell? ⟨b,i*3+1,none⟩=some (.string tx)/\w'.cell? ⟨b,i*3+2,none⟩=some (.int .i64 wa)) yb rfl rfl ?_;generalize hZ:Y.drew=Z at hS |-;have HZ:=J (show Below W.heap.size W Z by rw[<-hZ];exact HB.o.drew);have hsz:d.B<Z.heap.size/\b<Z.heap.size:=⟨block_lt_of_cell hS.1,block_lt_of_cell hS.2.2.1⟩
    clear hB hY hZ p0 p1 p2 w0 w1 w2;refine pick_o 0 (.pointer (some ⟨d.B,0,none⟩)) hS ?_;refine pick_o 1 (.pointer (some ⟨d.B,0,none⟩)) hS ?_;refine pick_o 2 (.pointer (some ⟨d.B,0,none⟩)) hS ?_;refine pick_o (hy:=fun w' h=>jw) 3 (.slice (some ⟨b,0,none⟩) L cp) hS ?_;refine pick_o 4 (.pointer (some ⟨d.B,0,none⟩)) hS ?_;refine pick_o 5 (.pointer (some ⟨d.B,0,none⟩)) hS ?_;refine pick_o 6 (.pointer (some ⟨d.B,1,none⟩)) hS ?_;refine pick_o (hy:=fun w' h=>qy) 7 (.int .i64 (i:Int)) hS ?_;refine pick_o (hy:=fun w' _=>by simp[go_sem,hi1]) 8 (.pointer (some ⟨b,i*3,none⟩)) hS ?_;refine zb91 ?_
    intro hbA;have hSA:(fun w':World=>w'.cell? ⟨d.B,0,none⟩=some (.slice (some ⟨b,0,none⟩) L cp)/\w'.cell? ⟨d.B,1,none⟩=some (.int .i64 (i:Int))/\w'.cell? ⟨b,i*3,none⟩=some (.int .i64 kd)/\w'.cell? ⟨b,i*3+1,none⟩=some (.string tx)/\w'.cell? ⟨b,i*3+2,none⟩=some (.int .i64 wa)) (Z.alloc (.cells #[.int .i64 0,.string ⟨#[]⟩,.int .i64 0] 76)):=
     ⟨(hbA.cell hsz.1).trans hS.1,(hbA.cell hsz.1).trans hS.2.1,(hbA.cell hsz.2).trans hS.2.2.1,(hbA.cell hsz.2).trans hS.2.2.2.1,(hbA.cell hsz.2).trans hS.2.2.2.2⟩
    refine zb79 ?_;intro hkA hl1 hl2;have hb3:Below W.heap.size W (lay3 (Z.alloc (.cells #[.int .i64 0,.string ⟨#[]⟩,.int .i64 0] 76)) Z.heap.size (.int .i64 kd) (.string tx) (.int .i64 wa)):=HZ.o.trans ((hbA.trans (hl2 Z.heap.size La)).mono HZ.o.size)
    have hS3:(fun w':World=>w'.cell? ⟨d.B,0,none⟩=some (.slice (some ⟨b,0,none⟩) L cp)/\w'.cell? ⟨d.B,1,none⟩=some (.int .i64 (i:Int))/\w'.cell? ⟨b,i*3,none⟩=some (.int .i64 kd)/\w'.cell? ⟨b,i*3+1,none⟩=some (.string tx)/\w'.cell? ⟨b,i*3+2,none⟩=some (.int .i64 wa)) (lay3 (Z.alloc (.cells #[.int .i64 0,.string ⟨#[]⟩,.int .i64 0] 76)) Z.heap.size (.int .i64 kd) (.string tx) (.int .i64 wa)):=by
     have hb:=hbA.trans (hl2 Z.heap.size La);exact⟨(hb.cell hsz.1).trans hS.1,(hb.cell hsz.1).trans hS.2.1,(hb.cell hsz.2).trans hS.2.2.1,(hb.cell hsz.2).trans hS.2.2.2.1,(hb.cell hsz.2).trans hS.2.2.2.2⟩
    refine pick_skip (i:=11) rfl (w1:=lay3 (Z.alloc (.cells #[.int .i64 0,.string ⟨#[]⟩,.int .i64 0] 76)) Z.heap.size (.int .i64 kd) (.string tx) (.int .i64 wa)) rfl yb rfl rfl (by simp[go_sem,lay3]) hS3 ?_;refine z34 yb ?_;generalize lay3 (Z.alloc (.cells #[.int .i64 0,.string ⟨#[]⟩,.int .i64 0] 76)) Z.heap.size (.int .i64 kd) (.string tx) (.int .i64 wa)=X at hl1 hb3 |-;generalize Z.heap.size=g at hl1 |-;have HB3:=J hb3;have c0:=z8 hl1 0;have c1:=z8 hl1 1;simp at c0 c1;clear hl1 hl2 hb3 hS3 hSA hS hsz hbA hkA;by_cases k1:kd=1
    .have HT:=J (show begins ⟨kd,tx,wa⟩=true by simp[begins,k1]);subst k1;go_wp2_with fail
     go_ret;rw[HN.o,HT.o];exact⟨rfl,HB3.o⟩
    by_cases k2:kd=2
    .have HT:=J (show begins ⟨kd,tx,wa⟩=true by simp[begins,k2]);subst k2;go_wp2_with fail
     go_ret;rw[HN.o,HT.o];exact⟨rfl,HB3.o⟩
    have K1:=J k1;have K2:=J k2;have hd1:(kd==1)=false:=mq;have hd2:(kd==2)=false:=mr;by_cases g0:(tx.toList==([40]:List UInt8))=true
    ·have HT:=J (show begins ⟨kd,tx,wa⟩=true by
      have:(tx.toList==gOpen)=true:=g0;simp[begins,this])
     clear k1 k2;go_wp2_with fail
     go_ret;rw[HN.o,HT.o];exact⟨rfl,HB3.o⟩
    have e0:(tx.toList==([40]:List UInt8))=false:=by
     cases hx:(tx.toList==([40]:List UInt8)) with
     |true=>exact absurd hx g0
     |false=>rfl
    clear g0;by_cases g1:(tx.toList==([116,114,117,101]:List UInt8))=true
    ·have HT:=J (show begins ⟨kd,tx,wa⟩=true by
      have:(tx.toList==kTrue)=true:=g1;simp[begins,this])
     clear k1 k2;go_wp2_with fail
     go_ret;rw[HN.o,HT.o];exact⟨rfl,HB3.o⟩
    have e1:(tx.toList==([116,114,117,101]:List UInt8))=false:=by
     cases hx:(tx.toList==([116,114,117,101]:List UInt8)) with
     |true=>exact absurd hx g1
     |false=>rfl
    clear g1;by_cases g2:(tx.toList==([102,97,108,115,101]:List UInt8))=true
    ·have HT:=J (show begins ⟨kd,tx,wa⟩=true by
      have:(tx.toList==kFalse)=true:=g2;simp[begins,this])
     clear k1 k2;go_wp2_with fail
     go_ret;rw[HN.o,HT.o];exact⟨rfl,HB3.o⟩
    have e2:(tx.toList==([102,97,108,115,101]:List UInt8))=false:=by
     cases hx:(tx.toList==([102,97,108,115,101]:List UInt8)) with
     |true=>exact absurd hx g2
     |false=>rfl
    clear g2;by_cases g3:(tx.toList==([110,105,108]:List UInt8))=true
    ·have HT:=J (show begins ⟨kd,tx,wa⟩=true by
      have:(tx.toList==kNil)=true:=g3;simp[begins,this])
     clear k1 k2;go_wp2_with fail
     go_ret;rw[HN.o,HT.o];exact⟨rfl,HB3.o⟩
    have e3:(tx.toList==([110,105,108]:List UInt8))=false:=by
     cases hx:(tx.toList==([110,105,108]:List UInt8)) with
     |true=>exact absurd hx g3
     |false=>rfl
    clear g3;by_cases g4:(tx.toList==([104,97,110,100,108,101]:List UInt8))=true
    ·have HT:=J (show begins ⟨kd,tx,wa⟩=true by
      have:(tx.toList==kHandle)=true:=g4;simp[begins,this])
     clear k1 k2;go_wp2_with fail
     go_ret;rw[HN.o,HT.o];exact⟨rfl,HB3.o⟩
    have e4:(tx.toList==([104,97,110,100,108,101]:List UInt8))=false:=by
     cases hx:(tx.toList==([104,97,110,100,108,101]:List UInt8)) with
     |true=>exact absurd hx g4
     |false=>rfl
    clear g4;by_cases g5:(tx.toList==([115,104,97,108,108,111,119]:List UInt8))=true
    ·have HT:=J (show begins ⟨kd,tx,wa⟩=true by
      have:(tx.toList==kShallow)=true:=g5;simp[begins,this])
     clear k1 k2;go_wp2_with fail
     go_ret;rw[HN.o,HT.o];exact⟨rfl,HB3.o⟩
    have e5:(tx.toList==([115,104,97,108,108,111,119]:List UInt8))=false:=by
     cases hx:(tx.toList==([115,104,97,108,108,111,119]:List UInt8)) with
     |true=>exact absurd hx g5
     |false=>rfl
    clear g5;have HT:=J (show begins ⟨kd,tx,wa⟩=false by
     have x0:(tx.toList==gOpen)=false:=e0;have x1:(tx.toList==kTrue)=false:=e1;have x2:(tx.toList==kFalse)=false:=e2;have x3:(tx.toList==kNil)=false:=e3;have x4:(tx.toList==kHandle)=false:=e4;have x5:(tx.toList==kShallow)=false:=e5;unfold begins;rw[decide_eq_false K1.o,decide_eq_false K2.o,x0,x1,x2,x3,x4,x5];rfl)
    clear k1 k2;go_wp2_with fail
    go_ret;rw[HN.o,HT.o];exact⟨rfl,HB3.o⟩
end
end
end Go.Proofs.YtfbojelpdccjaaaGreatDoor
