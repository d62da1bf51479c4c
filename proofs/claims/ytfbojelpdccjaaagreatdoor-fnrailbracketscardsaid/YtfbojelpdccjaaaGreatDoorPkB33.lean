import Derived.Test.YtfbojelpdccjaaaGreatDoorRows
import Derived.WalkKit
import Derived.ProofKit
import Derived.OwnWalk
import Derived.Deep.RegionHeld
import Derived.Test.YtfbojelpdccjaaaGreatDoorPkB20
import Derived.Test.YtfbojelpdccjaaaGreatDoorPkB13
import Derived.BigQuiet
import Derived.Test.YtfbojelpdccjaaaGreatDoorPkB21
import Derived.Deep.CutRange
import Derived.Deep.CutBlock
import Derived.Test.YtfbojelpdccjaaaGreatDoorPkB8
import Derived.Test.YtfbojelpdccjaaaGreatDoorPkB5
import Derived.LoopTactic
import Derived.Deep.QuietTactic
import Derived.BigRegion
import Derived.Test.YtfbojelpdccjaaaGreatDoorPkB1
import Derived.Test.YtfbojelpdccjaaaGreatDoorPkB12
import Derived.Test.YtfbojelpdccjaaaGreatDoorPkB15
import Derived.Test.YtfbojelpdccjaaaGreatDoorPkB17
set_option maxRecDepth 100000
namespace Go.Proofs.YtfbojelpdccjaaaGreatDoor
open Go.RowKit
variable {s : ByteArray} {a b : List Nd} {l : List UInt8} {xs : List Value} {B c e i k p sz : Nat} {n : Nd} {v x y : Value} {W : World}
section
open Go.RowKit
def BytesAt (w : World) (a0 : Option Addr) (len : Nat) : Prop:=
 0 < len→ ∃ b off,a0=some ⟨b,off,none⟩∧b < w.heap.size∧ ∀ i,i < len→ ∃ z,w.cell? ⟨b,off+i,none⟩=some (.int .u8 z)∧0≤z∧z≤255
theorem ropen_calls (a0 : Option Addr) (len cap : Nat) (w : World) (hlen : len≤1000000000) (hb : len≤cap) :
 Calls Tryz.prog 14 #[.slice a0 len cap] w fun e w'=> e= .returned (.pointer (some ⟨w.heap.size,0,none⟩))∧
  ∃ n : Nat,n≤len∧w'= w.alloc (.cells #[.slice a0 n cap,.int .i64 0] 79):=by
 by_cases h : (2000 : Int) < (len : Int)
 ·go_enter Tryz.func14,Tryz.ntmps14
  go_wp2
  go_ret;exact⟨rfl,2000,by omega,rfl⟩
 ·go_enter Tryz.func14,Tryz.ntmps14
  go_wp2
  go_ret;exact⟨rfl,len,Nat.le_refl _,rfl⟩
def BriefN (l : List Nd) : Prop:= ∀ n∈l,Brief n.a∧Brief n.b∧Brief n.c
def BriefW (ws : List Wd) : Prop:= ∀ w∈ws,Brief w.text
def Mv {α : Type} (N : Nat) (p : PS α) (Q : Nat→α→Prop) : Prop:= ∀ s : Ps,s.at_≤N→ ∃ c,(p s).2.at_=s.at_+c∧s.at_+c≤N∧Q c (p s).1
section
variable {N : Nat} {α β : Type}
theorem Mv.bind {p : PS α} {k : α→PS β} {Q : Nat→α→Prop} {R : Nat→β→Prop} (h : Mv N p Q) (hk : ∀ c a,Q c a→Mv N (k a) (fun e b=>R (c+e) b)) : Mv N (bindS p k) R:=fun s hs=>by
 obtain⟨c,h1,h2,h3⟩:=h s hs;obtain⟨e,h4,h5,h6⟩:=hk c _ h3 (p s).2 (by omega);exact⟨c+e,by unfold bindS; omega,by omega,h6⟩
theorem Mv.pure {R : Nat→α→Prop} {a : α} (h : R 0 a) : Mv N (pureS a) R:=fun s hs=>⟨0,rfl,by omega,h⟩
theorem Mv.mono {p : PS α} {Q R : Nat→α→Prop} (h : Mv N p Q) (hq : ∀ c a,Q c a→R c a) : Mv N p R:=fun s hs=>by
 obtain⟨c,h1,h2,h3⟩:=h s hs;exact⟨c,h1,h2,hq _ _ h3⟩
end
section
variable {ws : List Wd}
theorem cur_mem (h : i < ws.length) : curW ws i∈ws:=by
 unfold curW;simp only [List.getD_eq_getElem?_getD];rw [List.getElem?_eq_getElem h];exact List.getElem_mem _
theorem sees_lt {s : Ps} (hl : l≠ []) (h : seesS ws s l=true) : s.at_ < ws.length:=by
 unfold seesS txt at h;by_cases hc : s.bad=true∨ws.length≤s.at_∨(curW ws s.at_).kind < 3
 ·rw [if_pos hc,no_bytes] at h
  cases l with
  | nil=>exact absurd rfl hl
  | cons a l=>cases h
 ·exact Nat.lt_of_not_le (fun e=>hc (Or.inr (Or.inl e)))
theorem Mv.or {α : Type} (hl : l≠ []) {p q : PS α} {R : Nat→α→Prop} (h : Mv ws.length p (fun c a=>R (c+1) a)) (h' : Mv ws.length q R) : Mv ws.length (orS ws l p q) R:=fun s hs=>by
 unfold orS
 cases hc : seesS ws s l with
 | true=>
   have:=sees_lt hl hc;obtain⟨c,h1,h2,h3⟩:=h s.next (by show s.at_+1≤_; omega);have e : s.next.at_=s.at_+1:=rfl;exact⟨c+1,by rw [if_pos rfl]; omega,by omega,by rw [if_pos rfl]; exact h3⟩
 | false=>
   rw [if_neg (by simp)];exact h' s hs
theorem Mv.take (hl : l≠ []) : Mv ws.length (takeS ws l) (fun _ _=>True):=fun s hs=>by
 unfold takeS
 cases hc : seesS ws s l with
 | true=>
   have:=sees_lt hl hc;exact⟨1,rfl,by omega,trivial⟩
 | false=>exact⟨0,rfl,by omega,trivial⟩
theorem Mv.name (hb : BriefW ws) : Mv ws.length (nameS ws) (fun _ x=>Brief x):=fun s hs=>by
 unfold nameS
 cases hc : isNm ws s with
 | true=>
   have h2 : s.at_ < ws.length:=by
    unfold isNm at hc;simp only [Bool.and_eq_true,decide_eq_true_eq] at hc;exact hc.2.1
   exact⟨1,rfl,by omega,hb _ (cur_mem h2)⟩
 | false=>exact⟨0,rfl,by omega,brief_nil⟩
where brief_nil : Brief ⟨#[]⟩:=by unfold Brief; decide
def Len (k : Nat) (c : Nat) (l : List Nd) : Prop:=l.length≤3*c+k∧BriefN l
def accN : Nt (List Nd)→Nat
 | .sumL a=>a.length
 | .prodL a=>a.length
 | .callL a=>a.length
 | .hand _=>2
 | .opsL _ ks=>1+ks.flatten.length
 | _=>0
def NtB : Nt (List Nd)→Prop
 | .sumL a=>BriefN a
 | .prodL a=>BriefN a
 | .callL a=>BriefN a
 | .opsL _ ks=>BriefN ks.flatten
 | _=>True
def LenA (c : Nat) (l : List Nd) : Prop:=l.length≤3*c - 1∧BriefN l
theorem put_len' (n : Nd) (ks : List (List Nd)) : (putN n ks).length=1+ks.flatten.length:=by unfold putN; simp; omega
theorem z61 {ks : List (List Nd)} (hn : Brief n.a∧Brief n.b∧Brief n.c) (hk : BriefN ks.flatten) : BriefN (putN n ks):=fun m hm=>by
 unfold putN at hm;rcases List.mem_cons.1 hm with rfl | hm
 ·exact hn
 ·exact hk m hm
theorem brief_two (h : BriefN a) (h' : BriefN b) : BriefN (a++b):=fun m hm=>by
 rcases List.mem_append.1 hm with hm | hm
 ·exact h m hm
 ·exact h' m hm
theorem brief_no : BriefN []:=fun m hm=>by cases hm
theorem z32 : Brief ⟨#[]⟩:=by unfold Brief; decide
theorem len0' (hn : Brief n.a∧Brief n.b∧Brief n.c) (h : 1≤3*c+k) : Len k c (putN n []):=⟨by rw [put_len']; simpa using h,z61 hn brief_no⟩
theorem len1' (hn : Brief n.a∧Brief n.b∧Brief n.c) (ha : BriefN a) (h : 1+a.length≤3*c+k) : Len k c (putN n [a]):=⟨by rw [put_len']; simpa using h,z61 hn (by simpa using ha)⟩
theorem len2' (hn : Brief n.a∧Brief n.b∧Brief n.c) (ha : BriefN a) (hb : BriefN b) (h : 1+a.length+b.length≤3*c+k) : Len k c (putN n [a,b]):=⟨by rw [put_len']; simp; omega,z61 hn (by simpa using brief_two ha hb)⟩
theorem len3' {d : List Nd} (hn : Brief n.a∧Brief n.b∧Brief n.c) (ha : BriefN a) (hb : BriefN b) (hd : BriefN d) (h : 1+a.length+b.length+d.length≤3*c+k) : Len k c (putN n [a,b,d]):=⟨by rw [put_len']; simp; omega,z61 hn (by simpa using brief_two ha (brief_two hb hd))⟩
structure PartM (ws : List Wd) (go : Nt (List Nd)→PS (List Nd)) : Prop where
 at_ : ∀ nt,NtB nt→nt≠ .atom→Mv ws.length (go nt) (Len (accN nt))
 atom : Mv ws.length (go .atom) LenA
 live : (∀ s,startsS ws s=true→s.at_+1≤(go .atom s).2.at_)∨ ∀ nt s,(go nt s).1= []
variable {go : Nt (List Nd)→PS (List Nd)}
theorem PartM.at (h : PartM ws go) (nt : Nt (List Nd)) (hb : NtB nt) (ha : nt≠ .atom) : Mv ws.length (go nt) (Len (accN nt)):=h.at_ nt hb ha
theorem brack_m (hg : PartM ws go) : Mv ws.length (brackS ws go) (Len 1):=by
 have ex:=hg.at .expr trivial (by simp);refine Mv.or (by decide) (Mv.pure (len0' ⟨z32,z32,z32⟩ (by omega))) (ex.bind fun c1 a ha=>Mv.or (by decide) (ex.bind fun c2 b hb=>(Mv.take (by decide)).bind fun c3 _ _=>Mv.pure (len2' ⟨z32,z32,z32⟩ ha.2 hb.2 ?_)) ((Mv.take (by decide)).bind fun c2 _ _=>Mv.pure ⟨?_,ha.2⟩))
 ·have h1:=ha.1;have h2:=hb.1;simp only [accN] at h1 h2;omega
 ·have h1:=ha.1;simp only [accN] at h1;omega
theorem atom_m (hw : BriefW ws) (hg : PartM ws go) (s : Ps) (hs : s.at_≤ws.length) : ∃ c,(atomS ws go s).2.at_=s.at_+c∧s.at_+c≤ws.length∧LenA c (atomS ws go s).1∧(startsS ws s=true→1≤c):=by
 unfold atomS
 cases hc : startsS ws s with
 | false=>exact⟨0,rfl,by omega,⟨Nat.zero_le _,brief_no⟩,fun h=>by cases h⟩
 | true=>
   rw [if_pos rfl];have hlt : s.at_ < ws.length:=by
    unfold startsS at hc;simp only [Bool.and_eq_true,decide_eq_true_eq] at hc;exact hc.2.1
   have hbw:=hw _ (cur_mem hlt);obtain⟨w,hw'⟩ : ∃ w,curW ws s.at_=w:=⟨_,rfl⟩
   rw [hw'] at hbw ⊢;have key : Mv ws.length (wordS ws go w) (fun c l=>l.length≤3*c+2∧BriefN l):=by
    have leaf : ∀ n : Nd,Brief n.a∧Brief n.b∧Brief n.c→Mv ws.length (pureS (putN n [])) (fun c l=>l.length≤3*c+2∧BriefN l):=fun n hn=>Mv.pure ⟨by rw [put_len']; simp,z61 hn brief_no⟩
    unfold wordS;split
    ·exact leaf _ ⟨z32,z32,z32⟩
    split
    ·exact leaf _ ⟨hbw,z32,z32⟩
    split
    ·exact leaf _ ⟨z32,z32,z32⟩
    split
    ·exact leaf _ ⟨z32,z32,z32⟩
    split
    ·exact leaf _ ⟨z32,z32,z32⟩
    split
    ·exact hg.at (.hand 23) trivial (by simp)
    split
    ·exact hg.at (.hand 24) trivial (by simp)
    ·exact (brack_m hg).mono fun c l hl=>⟨by have:=hl.1; omega,hl.2⟩
   obtain⟨c,h1,h2,h3,h4⟩:=key s.next (by show s.at_+1≤_; omega);have e : s.next.at_=s.at_+1:=rfl;exact⟨c+1,by omega,by omega,⟨by omega,h4⟩,fun _=>by omega⟩
theorem step_m (hw : BriefW ws) (hg : PartM ws go) : ∀ nt,NtB nt→nt≠ .atom→Mv ws.length (stepS ws go nt) (Len (accN nt)):=by
 have ex:=hg.at .expr trivial (by simp);have at':= hg.atom;have e3 : Brief (nd0 0).a∧Brief (nd0 0).b∧Brief (nd0 0).c:=⟨z32,z32,z32⟩
 intro nt hb hna
 cases nt with
 | expr=>
   show Mv ws.length (exprS ws go) (Len 0);refine Mv.or (by decide) (Mv.or (by decide) ?_ ?_) (Mv.or (by decide) ?_ (Mv.or (by decide) ?_ (Mv.or (by decide) ?_ (hg.at .cons trivial (by simp)))))
   ·refine (Mv.name hw).bind fun c1 f hf=>(Mv.name hw).bind fun c2 x hx=>(Mv.take (by decide)).bind fun c3 _ _=>ex.bind fun c4 a ha=>(Mv.take (by decide)).bind fun c5 _ _=>ex.bind fun c6 b hb=>Mv.pure (len2' ⟨hf,hx,z32⟩ ha.2 hb.2 ?_)
    have h1:=ha.1;have h2:=hb.1;simp only [accN] at h1 h2;omega
   ·refine (Mv.name hw).bind fun c2 x hx=>(Mv.take (by decide)).bind fun c3 _ _=>ex.bind fun c4 a ha=>(Mv.take (by decide)).bind fun c5 _ _=>ex.bind fun c6 b hb=>Mv.pure (len2' ⟨hx,z32,z32⟩ ha.2 hb.2 ?_)
    have h1:=ha.1;have h2:=hb.1;simp only [accN] at h1 h2;omega
   ·refine ex.bind fun c1 a ha=>(Mv.take (by decide)).bind fun c2 _ _=>ex.bind fun c3 b hb=>(Mv.take (by decide)).bind fun c4 _ _=>ex.bind fun c5 d hd=>Mv.pure (len3' e3 ha.2 hb.2 hd.2 ?_)
    have h1:=ha.1;have h2:=hb.1;have h3:=hd.1;simp only [accN] at h1 h2 h3;omega
   ·refine (Mv.name hw).bind fun c2 x hx=>(Mv.take (by decide)).bind fun c3 _ _=>ex.bind fun c4 a ha=>Mv.pure (len1' ⟨hx,z32,z32⟩ ha.2 ?_)
    have h1:=ha.1;simp only [accN] at h1;omega
   ·refine ex.bind fun c1 a ha=>(Mv.take (by decide)).bind fun c2 _ _=>(Mv.take (by decide)).bind fun c3 _ _=>(Mv.take (by decide)).bind fun c4 _ _=>ex.bind fun c5 b hb=>(Mv.take (by decide)).bind fun c6 _ _=>(Mv.name hw).bind fun c7 x hx=>(Mv.take (by decide)).bind fun c8 _ _=>(Mv.name hw).bind fun c9 y hy=>(Mv.take (by decide)).bind fun c10 _ _=>ex.bind fun c11 d hd=>Mv.pure (len3' ⟨hx,hy,z32⟩ ha.2 hb.2 hd.2 ?_)
    have h1:=ha.1;have h2:=hb.1;have h3:=hd.1;simp only [accN] at h1 h2 h3;omega
 | cons=>
   show Mv ws.length (consS ws go) (Len 0);unfold consS;refine (hg.at .comp trivial (by simp)).bind fun c1 a ha=>Mv.or (by decide) ((hg.at .cons trivial (by simp)).bind fun c2 b hb=>Mv.pure (len2' e3 ha.2 hb.2 ?_)) (Mv.pure ha)
   have h1:=ha.1;have h2:=hb.1;simp only [accN] at h1 h2;omega
 | comp=>
   have sm:=hg.at .sum trivial (by simp);show Mv ws.length (compS ws go) (Len 0);unfold compS;refine sm.bind fun c1 a ha=>Mv.or (by decide) (sm.bind fun c2 b hb=>Mv.pure (len2' e3 ha.2 hb.2 ?_)) (Mv.or (by decide) (sm.bind fun c2 b hb=>Mv.pure (len2' e3 ha.2 hb.2 ?_)) (Mv.pure ha))
   all_goals
    have h1:=ha.1;have h2:=hb.1;simp only [accN] at h1 h2;omega
 | sum=>
   refine (hg.at .prod trivial (by simp)).bind fun c1 a ha=>(hg.at (.sumL a) ha.2 (by simp)).mono fun c2 l hl=>⟨?_,hl.2⟩
   have h1:=ha.1;have h2:=hl.1;simp only [accN] at h1 h2;omega
 | prod=>
   refine (hg.at .call trivial (by simp)).bind fun c1 a ha=>(hg.at (.prodL a) ha.2 (by simp)).mono fun c2 l hl=>⟨?_,hl.2⟩
   have h1:=ha.1;have h2:=hl.1;simp only [accN] at h1 h2;omega
 | call=>
   refine (?_ : Mv ws.length (headS ws go) (Len 0)).bind fun c1 a ha=>(hg.at (.callL a) ha.2 (by simp)).mono fun c2 l hl=>⟨?_,hl.2⟩
   ·refine Mv.or (by decide) (at'.bind fun c1 a ha=>Mv.pure (len1' e3 ha.2 ?_)) (Mv.or (by decide) (at'.bind fun c1 a ha=>Mv.pure (len1' e3 ha.2 ?_)) (Mv.or (by decide) (at'.bind fun c1 a ha=>Mv.pure (len1' e3 ha.2 ?_)) (Mv.or (by decide) ((Mv.name hw).bind fun c0 x hx=>at'.bind fun c1 a ha=>Mv.pure (len1' ⟨hx,z32,z32⟩ ha.2 ?_)) (at'.mono fun c l hl=>⟨by have:=hl.1; omega,hl.2⟩))));all_goals
     have h1:=ha.1;omega
   ·have h1:=ha.1;have h2:=hl.1;simp only [accN] at h1 h2;omega
 | atom=>exact absurd rfl hna
 | sumL a0=>
   have pr:=hg.at .prod trivial (by simp);show Mv ws.length (sumLS ws go a0) (Len a0.length);refine Mv.or (by decide) (pr.bind fun c1 b hb'=> (hg.at (.sumL (putN (nd0 11) [a0,b])) ?_ (by simp)).mono fun c2 l hl=>⟨?_,hl.2⟩) (Mv.or (by decide) (pr.bind fun c1 b hb'=> (hg.at (.sumL (putN (nd0 12) [a0,b])) ?_ (by simp)).mono fun c2 l hl=>⟨?_,hl.2⟩) (Mv.pure ⟨by omega,hb⟩))
   ·exact z61 e3 (by simpa using brief_two hb hb'.2)
   ·have h1:=hb'.1;have h2:=hl.1;simp only [accN,put_len'] at h1 h2;simp at h2;omega
   ·exact z61 e3 (by simpa using brief_two hb hb'.2)
   ·have h1:=hb'.1;have h2:=hl.1;simp only [accN,put_len'] at h1 h2;simp at h2;omega
 | prodL a0=>
   have pr:=hg.at .call trivial (by simp);show Mv ws.length (prodLS ws go a0) (Len a0.length);refine Mv.or (by decide) (pr.bind fun c1 b hb'=> (hg.at (.prodL (putN (nd0 13) [a0,b])) ?_ (by simp)).mono fun c2 l hl=>⟨?_,hl.2⟩) (Mv.pure ⟨by omega,hb⟩)
   ·exact z61 e3 (by simpa using brief_two hb hb'.2)
   ·have h1:=hb'.1;have h2:=hl.1;simp only [accN,put_len'] at h1 h2;simp at h2;omega
 | callL a0=>
   show Mv ws.length (callLS ws go a0) (Len a0.length);intro s hs;unfold callLS
   cases hc : startsS ws s with
   | false=>exact⟨0,rfl,by omega,by show a0.length≤_; omega,hb⟩
   | true=>
     rw [if_pos rfl];obtain⟨c1,h1,h2,h3,h3b⟩:=at' s hs;obtain⟨c2,h4,h5,h6,h7⟩:=hg.at (.callL (putN (nd0 7) [a0,(go .atom s).1])) (z61 e3 (by simpa using brief_two hb h3b)) (by simp) (go .atom s).2 (by omega);have e : bindS (go .atom) (fun b=>go (.callL (putN (nd0 7) [a0,b]))) s=go (.callL (putN (nd0 7) [a0,(go .atom s).1])) (go .atom s).2:=rfl;rw [e];refine⟨c1+c2,by omega,by omega,?_,h7⟩;rcases hg.live with hl | hd
     ·have:=hl s hc;simp only [accN,put_len'] at h6;simp at h6;omega
     ·rw [hd];exact Nat.zero_le _
 | hand k=>
   show Mv ws.length (handS ws go k) (Len 2);refine ex.bind fun c1 a ha=>(Mv.take (by decide)).bind fun c2 _ _=>(Mv.take (by decide)).bind fun c3 _ _=>(Mv.name hw).bind fun c4 x hx=>(Mv.take (by decide)).bind fun c5 _ _=>ex.bind fun c6 b hb'=> (hg.at (.opsL k [a,putN (nd1 25 x) [b]]) ?_ (by simp)).mono fun c7 l hl=>⟨?_,hl.2⟩
   ·show BriefN [a,putN (nd1 25 x) [b]].flatten;simpa using brief_two ha.2 (z61 (n:=nd1 25 x) ⟨hx,z32,z32⟩ (ks:= [b]) (by simpa using hb'.2))
   ·have h1:=ha.1;have h2:=hb'.1;have h3:=hl.1;simp only [accN,List.flatten_cons,List.flatten_nil,List.length_append,put_len',List.length_nil] at h1 h2 h3;omega
 | opsL k ks=>
   show Mv ws.length (opsLS ws go k ks) (Len (1+ks.flatten.length));have hks : BriefN ks.flatten:=hb;refine Mv.or (by decide) ((Mv.name hw).bind fun c1 a ha=>(Mv.name hw).bind fun c2 b hb'=> (Mv.name hw).bind fun c3 c hc=>(Mv.take (by decide)).bind fun c4 _ _=>ex.bind fun c5 e he=>(hg.at (.opsL k (ks++ [putN (nd3 26 a b c) [e]])) ?_ (by simp)).mono fun c7 l hl=>⟨?_,hl.2⟩) ((Mv.take (by decide)).bind fun c1 _ _=>Mv.pure ⟨by rw [put_len']; omega,z61 e3 hks⟩)
   ·show BriefN (ks++ [putN (nd3 26 a b c) [e]]).flatten;simpa using brief_two hks (z61 (n:=nd3 26 a b c) ⟨ha,hb',hc⟩ (ks:= [e]) (by simpa using he.2))
   ·have h1:=he.1;have h3:=hl.1;simp only [accN,List.flatten_append,List.flatten_cons,List.flatten_nil,List.length_append,put_len',List.length_nil] at h1 h3;omega
theorem part_m (hw : BriefW ws) : ∀ f,PartM ws (spz ws f)
 | 0=>⟨fun nt _ _ s hs=>⟨0,rfl,by omega,Nat.zero_le _,brief_no⟩,fun s hs=>⟨0,rfl,by omega,Nat.zero_le _,brief_no⟩,Or.inr fun _ _=>rfl⟩
 | f+1=>by
   have hg:=part_m hw f;refine⟨step_m hw hg,fun s hs=>?_,Or.inl fun s hc=>?_⟩
   ·obtain⟨c,h1,h2,h3,-⟩:=atom_m hw hg s hs;exact⟨c,h1,h2,h3⟩
   ·have hlt : s.at_ < ws.length:=by
     unfold startsS at hc;simp only [Bool.and_eq_true,decide_eq_true_eq] at hc;exact hc.2.1
    obtain⟨c,h1,h2,h3,h4⟩:=atom_m hw hg s (by omega);have:=h4 hc;show s.at_+1≤(atomS ws (spz ws f) s).2.at_;omega
end
end
section
open Go.RowKit Go.Deep
def wdC (w : Wd) : Nat→Value
 | 0=> .int .i64 w.kind
 | 1=> .string w.text
 | _=> .int .i64 w.at_
section
variable {d : Dr} {ws : List Wd} {ad : Option Addr} {cp : Nat}
theorem z33 {c : Array Value} {t : TypeId} (v : Value) (h : W.heap[B]? =some (.cells c t)) : (W.setCell ⟨B,i,none⟩ v).heap[B]? =some (.cells (c.setIfInBounds i v) t):=by
 rw [setCell_eq_setRow W B i c t (0,0) v h];exact setRow_heap W B _ _ t _ h
theorem grew_set {d : Dr} (W : World) (i : Nat) (v : Value) : Grew d W (W.setCell ⟨d.B,i,none⟩ v):=
 ⟨rfl,rfl,rfl,by simp [World.setCell],fun q hq=>Below.heap_setCell W ⟨d.B,i,none⟩ v q (fun e=>hq.2.1 e)⟩
end
def lay3 (W : World) (g : Nat) (a b c : Value) : World:=((W.setCell ⟨g,0,none⟩ a).setCell ⟨g,1,none⟩ b).setCell ⟨g,2,none⟩ c
theorem lay3_is {g : Nat} {t : TypeId} {z : Value} (a b c : Value) (h : W.heap[g]? =some (.cells #[x,y,z] t)) : (lay3 W g a b c).heap[g]? =some (.cells #[a,b,c] t)∧ ∀ n,n≤g→Below n W (lay3 W g a b c):=by
 refine⟨z33 c (z33 b (z33 a h)),fun n hn=>?_⟩;exact (((Below.refl n W).setCell (p:=⟨g,0,none⟩) hn a).setCell (p:=⟨g,1,none⟩) hn b).setCell (p:=⟨g,2,none⟩) hn c
section
variable {d : Dr} {ws : List Wd} {ad : Option Addr} {cp : Nat}
end
section
variable {d : Dr} {ws : List Wd} {ad : Option Addr} {cp : Nat}
structure Goes (ws : List Wd) (s : Ps) (r : List Nd×Ps) (k : Nat) : Prop where
 on : s.at_≤r.2.at_
 lt : r.2.at_≤ws.length
 len : r.1.length≤3*(r.2.at_ - s.at_)+k
theorem goes_at (hw : BriefW ws) (f : Nat) (nt : Nt (List Nd)) (hb : NtB nt) {s : Ps} (hs : s.at_≤ws.length) : Goes ws s (spz ws f nt s) (accN nt):=by
 by_cases ha : nt= .atom
 ·subst ha;obtain⟨c,h1,h2,h3,-⟩:=(part_m hw f).atom s hs;exact⟨by omega,by omega,by omega⟩
 ·obtain⟨c,h1,h2,h3,-⟩:=(part_m hw f).at nt hb ha s hs;exact⟨by omega,by omega,by omega⟩
end
theorem y_same {W' : World} {e : TypeId} {n : Nat} (h : W.ownsRow B e sz v n xs) (he : ∀ g,v.ownBlock=some g→W'.heap[g]? =W.heap[g]?) : W'.ownsRow B e sz v n xs:=by
 obtain⟨h0,⟨rfl,h1⟩ | ⟨g,cap,cur,rfl,hB,hc,hr⟩⟩:=h
 ·exact⟨h0,Or.inl ⟨rfl,h1⟩⟩
 ·exact⟨h0,Or.inr ⟨g,cap,cur,rfl,hB,(he g (by simp [Value.ownBlock])).trans hc,hr⟩⟩
theorem y_is {e : TypeId} {n : Nat} (h : W.ownsRow B e sz v n xs) : ∃ ad c,v= .slice ad n c:=by
 obtain⟨-,⟨rfl,h0⟩ | ⟨g',cap,cur,rfl,-⟩⟩:=h
 ·exact⟨none,0,by rw [h0]⟩
 ·exact⟨_,_,rfl⟩
theorem y_grew {d : Dr} {W' : World} {e : TypeId} {n : Nat} (h : W.ownsRow B e sz v n xs) (h1 : d.B < B) (h2 : d.G < B) (g : Grew d W W') : W'.ownsRow B e sz v n xs:=
 y_same h fun k hk=>g.block k ⟨(h.lt k hk).2,by have:=(h.lt k hk).1; omega,by have:=(h.lt k hk).1; omega⟩
section
variable {d : Dr} {ws : List Wd} {ad : Option Addr} {cp : Nat}
end
end
section
open Go.RowKit
section
variable (ws : List Wd)
def badI : PI Int:=fun i=> .error i
def baseI : PI Int:=orI ws kInt (pureI 1) (orI ws kBool (pureI 2) (orI ws kUnit (pureI 3) (orI ws kList (pureI 4) badI)))
def effsI : Nat→List Ef→PI (List Ef)
 | 0,es=>pureI es
 | f+1,es=>orI ws kEffect (bindI (nameI ws) fun x=>bindI (takeI ws gColon) fun _=>bindI (baseI ws) fun a=>bindI (takeI ws gGives) fun _=>bindI (baseI ws) fun r=>bindI (takeI ws gSemi) fun _=>effsI f (es++ [⟨x,a,r⟩])) (pureI es)
variable {ws}
variable (ws)
def wholeI : Except Nat ((List Ef×Tr)×Nat):=bindI (effsI ws (ws.length+1) []) (fun es=>bindI (ipz ws (16*ws.length+11) .expr) (fun t=>pureI (es,t))) 0
variable {ws}
end
def TrOk (t : Tr) : Prop:=t.1.kids=t.2.count∧t.2.wf
def AllI {α : Type} (P : α→Prop) (p : PI α) : Prop:= ∀ i r,p i= .ok r→P r.1
section
variable {α β : Type} {P : α→Prop} {Q : β→Prop}
theorem AllI.bind {p : PI α} {k : α→PI β} (h : AllI P p) (hk : ∀ a,P a→AllI Q (k a)) : AllI Q (bindI p k):=fun i r hr=>by
 unfold bindI at hr
 cases he : p i with
 | error j=>
   rw [he] at hr
   cases hr
 | ok x=>
   rw [he] at hr;exact hk x.1 (h i x he) x.2 r hr
theorem AllI.pure {a : α} (h : P a) : AllI P (pureI a):=fun i r hr=>by
 cases hr;exact h
theorem AllI.any (p : PI α) : AllI (fun _=>True) p:=fun _ _ _=>trivial
theorem AllI.or {ws : List Wd} {p q : PI α} (h1 : AllI P p) (h2 : AllI P q) : AllI P (orI ws l p q):=fun i r hr=>by
 unfold orI at hr;split at hr
 ·exact h1 _ r hr
 ·exact h2 _ r hr
theorem AllI.skip {p : PI α} {k : α→PI β} (hk : ∀ a,AllI Q (k a)) : AllI Q (bindI p k):=AllI.bind (AllI.any p) (fun a _=>hk a)
end
theorem foL_count : ∀ (l : List Tr),(foL l).count=l.length
 | []=>rfl
 | t::r=>by simp [foL,Fo.count,foL_count r]
theorem foL_wf : ∀ (l : List Tr),(∀ t∈l,TrOk t)→(foL l).wf
 | [],_=>trivial
 | t::r,h=>⟨(h t (by simp)).1,(h t (by simp)).2,foL_wf r (fun x hx=>h x (by simp [hx]))⟩
theorem mk_ok (n : Nd) (ks : List Tr) (h : ∀ t∈ks,TrOk t) : TrOk (mkT n ks):=by
 refine⟨?_,foL_wf ks h⟩;show (ks.length : Int)=((foL ks).count : Int);rw [foL_count]
def NtOk : Nt Tr→Prop
 | .sumL a=>TrOk a
 | .prodL a=>TrOk a
 | .callL a=>TrOk a
 | .opsL _ ks=> ∀ t∈ks,TrOk t
 | _=>True
theorem ok0 (n : Nd) : TrOk (mkT n []):=mk_ok n [] (fun t ht=>by cases ht)
theorem ok1 {a : Tr} (h : TrOk a) : TrOk (mkT n [a]):=mk_ok n [a] (fun t ht=>by simp at ht; subst ht; exact h)
theorem ok2 {a b : Tr} (h : TrOk a) (h' : TrOk b) : TrOk (mkT n [a,b]):=mk_ok n [a,b] (fun t ht=>by simp at ht; rcases ht with rfl | rfl; exact h; exact h')
theorem ok3 {a b c : Tr} (h : TrOk a) (h' : TrOk b) (h'' : TrOk c) : TrOk (mkT n [a,b,c]):=mk_ok n [a,b,c] (fun t ht=>by simp at ht; rcases ht with rfl | rfl | rfl; exact h; exact h'; exact h'')
section
variable {ws : List Wd} {go : Nt Tr→PI Tr}
theorem step_ok (hg : ∀ nt,NtOk nt→AllI TrOk (go nt)) : ∀ nt,NtOk nt→AllI TrOk (stepI ws go nt):=by
 have ex:=hg .expr trivial;have at':= hg .atom trivial;have cl:=hg .call trivial;have pr:=hg .prod trivial;have sm:=hg .sum trivial;intro nt hn
 cases nt with
 | expr=>
   refine AllI.or (AllI.or ?_ ?_) (AllI.or ?_ (AllI.or ?_ (AllI.or ?_ (hg .cons trivial))))
   ·exact AllI.skip fun _=>AllI.skip fun _=>AllI.skip fun _=>ex.bind fun a ha=>AllI.skip fun _=>ex.bind fun b hb=>AllI.pure (ok2 ha hb)
   ·exact AllI.skip fun _=>AllI.skip fun _=>ex.bind fun a ha=>AllI.skip fun _=>ex.bind fun b hb=>AllI.pure (ok2 ha hb)
   ·exact ex.bind fun a ha=>AllI.skip fun _=>ex.bind fun b hb=>AllI.skip fun _=>ex.bind fun c hc=>AllI.pure (ok3 ha hb hc)
   ·exact AllI.skip fun _=>AllI.skip fun _=>ex.bind fun a ha=>AllI.pure (ok1 ha)
   ·exact ex.bind fun a ha=>AllI.skip fun _=>AllI.skip fun _=>AllI.skip fun _=>ex.bind fun b hb=>AllI.skip fun _=>AllI.skip fun _=>AllI.skip fun _=>AllI.skip fun _=>AllI.skip fun _=>ex.bind fun c hc=>AllI.pure (ok3 ha hb hc)
 | cons=>exact (hg .comp trivial).bind fun a ha=>AllI.or ((hg .cons trivial).bind fun b hb=>AllI.pure (ok2 ha hb)) (AllI.pure ha)
 | comp=>exact sm.bind fun a ha=>AllI.or (sm.bind fun b hb=>AllI.pure (ok2 ha hb)) (AllI.or (sm.bind fun b hb=>AllI.pure (ok2 ha hb)) (AllI.pure ha))
 | sum=>exact pr.bind fun a ha=>hg (.sumL a) ha
 | prod=>exact cl.bind fun a ha=>hg (.prodL a) ha
 | sumL a=>exact AllI.or (pr.bind fun b hb=>hg (.sumL _) (ok2 hn hb)) (AllI.or (pr.bind fun b hb=>hg (.sumL _) (ok2 hn hb)) (AllI.pure hn))
 | prodL a=>exact AllI.or (cl.bind fun b hb=>hg (.prodL _) (ok2 hn hb)) (AllI.pure hn)
 | call=>
   refine AllI.bind (P:=TrOk) ?_ fun a ha=>hg (.callL a) ha
   exact AllI.or (at'.bind fun a ha=>AllI.pure (ok1 ha)) (AllI.or (at'.bind fun a ha=>AllI.pure (ok1 ha)) (AllI.or (at'.bind fun a ha=>AllI.pure (ok1 ha)) (AllI.or (AllI.skip fun _=>at'.bind fun a ha=>AllI.pure (ok1 ha)) at')))
 | callL a=>
   intro i r hr;simp only [stepI,callLI] at hr;split at hr
   ·exact (at'.bind fun b hb=>hg (.callL (mkT (nd0 7) [a,b])) (ok2 hn hb)) i r hr
   ·exact AllI.pure (show TrOk a from hn) i r hr
 | atom=>
   intro i r hr;simp only [stepI,atomI] at hr;split at hr
   ·have hb : AllI TrOk (brackI ws go):=AllI.or (AllI.pure (ok0 _)) (ex.bind fun a ha=>AllI.or (ex.bind fun b hb=>AllI.skip fun _=>AllI.pure (ok2 ha hb)) (AllI.skip fun _=>AllI.pure ha));have hw : ∀ w,AllI TrOk (wordI ws go w):=fun w=>by
     unfold wordI;split
     ·exact AllI.pure (ok0 _)
     split
     ·exact AllI.pure (ok0 _)
     split
     ·exact AllI.pure (ok0 _)
     split
     ·exact AllI.pure (ok0 _)
     split
     ·exact AllI.pure (ok0 _)
     split
     ·exact hg (.hand 23) trivial
     split
     ·exact hg (.hand 24) trivial
     ·exact hb
    exact hw _ _ r hr
   ·cases hr
 | hand k=>
   refine ex.bind fun a ha=>AllI.skip fun _=>AllI.skip fun _=>AllI.skip fun x=>AllI.skip fun _=>ex.bind fun b hb=>hg (.opsL k [a,mkT (nd1 25 x) [b]]) (show ∀ t∈ [a,mkT (nd1 25 x) [b]],TrOk t from fun t ht=>?_)
   simp only [List.mem_cons,List.not_mem_nil,or_false] at ht;rcases ht with rfl | rfl
   ·exact ha
   ·exact ok1 hb
 | opsL k ks=>
   refine AllI.or ?_ (AllI.skip fun _=>AllI.pure (mk_ok _ _ hn));refine AllI.skip fun _=>AllI.skip fun _=>AllI.skip fun _=>AllI.skip fun _=>ex.bind fun e he=>hg (.opsL k _) (fun t ht=>?_)
   rw [List.mem_append,List.mem_singleton] at ht;rcases ht with ht | rfl
   ·exact hn t ht
   ·exact ok1 he
theorem read_ok : ∀ (f : Nat) (nt : Nt Tr),NtOk nt→AllI TrOk (ipz ws f nt)
 | 0,_,_=>fun i r hr=>by cases hr
 | f+1,nt,hn=>step_ok (fun nt hn=>read_ok f nt hn) nt hn
theorem whole_ok {r : (List Ef×Tr)×Nat} (h : wholeI ws= .ok r) : TrOk r.1.2:=by
 have hA : AllI (fun x : List Ef×Tr=>TrOk x.2) (bindI (effsI ws (ws.length+1) []) (fun es=>bindI (ipz ws (16*ws.length+11) .expr) (fun t=>pureI (es,t)))):=
  AllI.skip fun es=>(read_ok _ .expr trivial).bind fun t ht=>AllI.pure ht
 exact hA 0 r h
end
end
section
open Go.RowKit Go.Deep
def NumB (t : ByteArray) : Prop:=t.size≤9∧ ∀ b∈t.toList,48≤b.toNat∧b.toNat≤57
def NumW (ws : List Wd) : Prop:= ∀ w∈ws,w.kind=1→NumB w.text
theorem bytes_list (t : ByteArray) : t.toList=t.data.toList:=ByteArray.toList_eq t
def posOf (d : Dr) (w : World) : Nat:=match w.cell? ⟨d.B,1,none⟩ with
 | some v=>(intOf v).toNat
 | none=>0
section
variable {d : Dr} {ws : List Wd} {ad : Option Addr} {cp : Nat}
end
theorem ef_one (n : Ef) (i : Nat) : (n.cell i).oneCell'= true:=by
 match i with
 | 0=>rfl
 | 1=>rfl
 | _+2=>rfl
section
variable {d : Dr} {ws : List Wd} {ad : Option Addr} {cp : Nat}
end
end
section
open Go.RowKit
structure WdOk (w : Wd) : Prop where
 size : w.text.size≤9
 num : w.kind=1→ ∀ b∈w.text.toList,48≤b.toNat∧b.toNat≤57
 plain : w.kind < 3→ ∀ l∈keysZ,w.text.toList≠l
 ne : w.kind=1→w.text.toList≠ []
theorem cut_list (s : ByteArray) (p e : Nat) : (s.extract p e).toList=(s.data.toList.drop p).take (e - p):=by
 rw [bytes_list,ByteArray.data_extract,Array.toList_extract]
theorem cut_mem (he : e≤s.size) {b : UInt8} (h : b∈(s.extract p e).toList) : ∃ j,p≤j∧j < e∧bz s j=(b.toNat : Int):=by
 rw [cut_list] at h;obtain⟨i,hi,rfl⟩:=List.getElem_of_mem h;rw [List.length_take,List.length_drop,Array.length_toList] at hi;have hs : p+i < s.size:=by have : s.data.size=s.size:=rfl; omega
 refine⟨p+i,Nat.le_add_right _ _,by omega,?_⟩;rw [bz_at s hs];simp;rfl
theorem cut_head (hp : p < s.size) (hpe : p < e) : ∃ b r,(s.extract p e).toList=b::r∧bz s p=(b.toNat : Int):=by
 have hs : p < s.data.toList.length:=by rw [Array.length_toList]; exact hp
 refine⟨s[p]'hp,((s.data.toList.drop (p+1)).take (e - p - 1)),?_,bz_at s hp⟩;rw [cut_list,List.drop_eq_getElem_cons hs];obtain⟨n,hn⟩ : ∃ n,e - p=n+1:=⟨e - p - 1,by omega⟩
 rw [hn,List.take_succ_cons,Nat.add_sub_cancel];rfl
theorem keys_begin : ∀ l∈keysZ,∃ b r,l=b::r∧ ¬ (48≤b.toNat∧b.toNat≤57):=by
 intro l hl;have h : ∀ l∈keysZ,(match l with | []=>false | b::_=>!(decide (48≤b.toNat) && decide (b.toNat≤57)))=true:=by decide
 have h1:=h l hl;match l,h1 with
 | [],h1=>cases h1
 | b::r,h1=>
   refine⟨b,r,rfl,fun hx=>?_⟩;simp [hx.1,hx.2] at h1
theorem keys_split : ∀ l∈keysZ,l∈keyBytes∨ ∃ b r,l=b::r∧ ¬ (97≤b.toNat∧b.toNat≤122):=by
 intro l hl;have h : ∀ l∈keysZ,(keyBytes.contains l || (match l with | []=>false | b::_=>!(decide (97≤b.toNat) && decide (b.toNat≤122))))=true:=by decide
 have h1:=h l hl;rw [Bool.or_eq_true] at h1;rcases h1 with h1 | h1
 ·exact Or.inl (by simpa using h1)
 ·match l,h1 with
  | [],h1=>cases h1
  | b::r,h1=>
    refine Or.inr ⟨b,r,rfl,fun hx=>?_⟩;simp [hx.1,hx.2] at h1
theorem word_ok {w : Wd} (hp : p < s.size) (h : wordAt s p= .ok (w,e)) : WdOk w:=by
 unfold wordAt at h;by_cases hd : digitZ (bz s p)=true
 ·obtain⟨h1,h2,h3,h4⟩:=z36 s false (p:=p) (by omega);rw [if_pos hd] at h;dsimp only at h;split at h
  ·cases h
  ·rename_i hc
   cases h;have hpe : p < runTo s false p:=by
    refine Nat.lt_of_le_of_ne h1 fun e=>?_
    have:=h4 (by omega);rw [← e,okb,hd] at this;simp at this
   obtain⟨b,r,hl,hb⟩:=cut_head (s:=s) hp hpe;refine⟨by rw [ByteArray.size_extract]; omega,fun _ b hb=>?_,fun _ l hl' e'=> ?_,fun _ e'=> by rw [hl] at e'; cases e'⟩
   ·obtain⟨j,hj1,hj2,hj⟩:=cut_mem h2 hb;have:=h3 j hj1 hj2;rw [hj] at this;simp [okb,digitZ] at this;omega
   ·obtain⟨b',r',rfl,hn⟩:=keys_begin l hl';dsimp only at e';rw [hl] at e'
    cases e';rw [hb] at hd;simp [digitZ] at hd;omega
 ·rw [if_neg hd] at h;by_cases hL : letterZ (bz s p)=true
  ·obtain⟨h1,h2,h3,h4⟩:=z36 s true (p:=p) (by omega);rw [if_pos hL] at h;dsimp only at h;split at h
   ·cases h
   ·cases h;have hpe : p < runTo s true p:=by
     refine Nat.lt_of_le_of_ne h1 fun e=>?_
     have:=h4 (by omega);rw [← e,okb,hL] at this;simp at this
    obtain⟨b,r,hl,hb⟩:=cut_head (s:=s) hp hpe;refine⟨by rw [ByteArray.size_extract]; omega,fun hk=>?_,fun hk l hl' e'=> ?_,fun _ e'=> by rw [hl] at e'; cases e'⟩
    ·dsimp only at hk;split at hk <;> cases hk
    ·dsimp only at hk e';rcases keys_split l hl' with hm | ⟨b',r',rfl,hn⟩
     ·have hy : isKey (s.extract p (runTo s true p))=true:=by
       unfold isKey;rw [List.any_eq_true];exact⟨l,hm,by rw [e']; simp⟩
      rw [hy] at hk;simp at hk
     ·rw [hl] at e'
      cases e';rw [hb] at hL;simp [letterZ] at hL;omega
  ·rw [if_neg hL] at h;dsimp only at h;have hz:=signOf_size (s.extract p s.size);split at h
   ·cases h
   ·cases h;exact⟨by dsimp only; omega,fun hk=>absurd (show (4 : Int)=1 from hk) (by decide),fun hk=>absurd (show (4 : Int) < 3 from hk) (by decide),fun hk=>absurd (show (4 : Int)=1 from hk) (by decide)⟩
theorem lexGo_ok {s : ByteArray} : ∀ (f p : Nat) (ws : List Wd),(∀ w∈ws,WdOk w)→(∀ w∈(lexGo s f p ws).1,WdOk w)∧(lexGo s f p ws).1.length≤ws.length+f
 | 0,_,ws,h=>⟨h,Nat.le_refl _⟩
 | f+1,p,ws,h=>by
   unfold lexGo;split
   ·rename_i hp;split
    ·have ih:=lexGo_ok (s:=s) f (p+1) ws h;exact⟨ih.1,by have:=ih.2; omega⟩
    ·cases hw : wordAt s p with
     | error c=>exact⟨fun w hw=>(by cases hw),Nat.zero_le _⟩
     | ok r=>
       obtain⟨w,e⟩:=r;have ih:=lexGo_ok (s:=s) f e (ws++ [w]) (fun x hx=>by
        rw [List.mem_append,List.mem_singleton] at hx;rcases hx with hx | rfl
        ·exact h x hx
        ·exact word_ok hp hw)
       refine⟨ih.1,?_⟩;have:=ih.2;rw [List.length_append] at this;simp at this;dsimp only;omega
   ·exact⟨h,Nat.le_add_right _ _⟩
theorem lexAll_ok (s : ByteArray) : (∀ w∈(lexAll s).1,WdOk w)∧(lexAll s).1.length≤1500:=by
 unfold lexAll;split
 ·exact⟨fun w hw=>(by cases hw),Nat.zero_le _⟩
 ·obtain⟨h1,h2⟩:=lexGo_ok (s:=s) s.size 0 [] (fun w hw=>by cases hw);exact⟨h1,by simp at h2; omega⟩
theorem lexAll_brief (s : ByteArray) : BriefW (lexAll s).1:=fun w hw=>by
 have:=((lexAll_ok s).1 w hw).size;unfold Brief;omega
theorem lexAll_num (s : ByteArray) : NumW (lexAll s).1:=fun w hw hk=>⟨((lexAll_ok s).1 w hw).size,((lexAll_ok s).1 w hw).num hk⟩
theorem lexAll_ne (s : ByteArray) : ∀ w∈(lexAll s).1,w.kind=1→w.text.toList≠ []:=fun w hw hk=>((lexAll_ok s).1 w hw).ne hk
theorem lexAll_words (s : ByteArray) : WordsOk (lexAll s).1:=⟨fun w hw hk=>((lexAll_ok s).1 w hw).plain hk⟩
theorem info_word : (Tryz.prog.info? 76).map (fun i=>(i.zero,i.size,i.bytes))=some (some (.agg #[.int .i64 0,.string ⟨#[]⟩,.int .i64 0]),3,32):=by kernel_rfl
theorem cell_three_new (w : World) (n : Nat) (hn : n=w.heap.size) (a b c : Value) (t : TypeId) : ∀ j u,[a,b,c][j]? =some u→(w.alloc (.cells #[a,b,c] t)).cell? ((⟨n,0,none⟩ : Addr).add j)=some u:=by
 subst hn;intro j u hj;match j,hj with
 | 0,hj=>simp at hj; subst hj; simp [Addr.add]
 | 1,hj=>simp at hj; subst hj; simp [Addr.add]
 | 2,hj=>simp at hj; subst hj; simp [Addr.add]
 | j+3,hj=>simp at hj
theorem owns_setCell {w : World} {base : Nat} {e : TypeId} {size : Nat} {n : Nat} (h : w.ownsRow base e size v n xs) {a : Addr} (ha : a.block < base) (u : Value) : (w.setCell a u).ownsRow base e size v n xs:=by
 refine h.kept (row:=some a.block) ⟨rfl,rfl,rfl,by simp [World.setCell],fun k _ hk=>Below.heap_setCell _ _ _ _ (fun e=>hk (by rw [e]))⟩ (Or.inr (fun e=>?_));have:=(h.lt _ e).1;omega
theorem wordAt_code {c : Int} (h : wordAt s p= .error c) : c=2∨c=3∨c=4:=by
 unfold wordAt at h;split at h
 ·dsimp only at h;split at h
  ·cases h; simp
  ·cases h
 ·split at h
  ·dsimp only at h;split at h
   ·cases h; simp
   ·cases h
  ·dsimp only at h;split at h
   ·cases h; simp
   ·cases h
def Told (B : Nat) (r : List Wd×Int×Nat) (v : Value) (e : Ending) (w' : World) : Prop:=
 e= .returned (.tuple #[v,.agg #[.int .i64 r.2.1,.int .i64 r.2.2]])∧w'.ownsRow B 76 3 v r.1.length (flatW r.1)
end
section
open Go.RowKit Go.Deep
theorem flatW_row : ∀ (ws : List Wd),flatW ws=rowZ wdC 3 ws
 | []=>rfl
 | w::r=>by
   rw [flatW,flatW_row r];simp [rowZ,wdC,List.range,List.range.loop]
def readZ (t : ByteArray) (T : List Nd→Bool) : Except (Int×Nat) (List Ef×Tr):=
 if (lexAll t).2.1≠0 then .error ((lexAll t).2.1,(lexAll t).2.2)
 else match wholeI (lexAll t).1 with
  | .error j=> .error (5,if j < (lexAll t).1.length then (curW (lexAll t).1 j).at_ else t.size)
  | .ok r=>if r.2 < (lexAll t).1.length then .error (5,(curW (lexAll t).1 r.2).at_)
    else if 300 < (Tr.flat r.1.2).length∨8 < r.1.1.length then .error (6,0)
    else if 40 < r.1.2.2.deep+1 then .error (7,0)
    else if progZ r.1.1 (Tr.flat r.1.2) (T (Tr.flat r.1.2))=true then .ok r.1 else .error (8,0)
theorem two_blocks (W : World) (o1 o2 : Obj) : Below W.heap.size W ((W.alloc o1).alloc o2)∧((W.alloc o1).alloc o2).heap[W.heap.size]? =some o1∧((W.alloc o1).alloc o2).heap[W.heap.size+1]? =some o2∧((W.alloc o1).alloc o2).heap.size=W.heap.size+2:=by
 have h1 : Below W.heap.size W (W.alloc o1):=(Below.refl _ _).alloc (Nat.le_refl _) _;have h2 : Below (W.alloc o1).heap.size (W.alloc o1) ((W.alloc o1).alloc o2):=(Below.refl _ _).alloc (Nat.le_refl _) _;have s1 : (W.alloc o1).heap.size=W.heap.size+1:=by simp
 refine⟨h1.trans (h2.mono h1.size),(h2.block _ (by omega)).trans (MapKept.heap_alloc W o1).1,?_,by simp⟩;have:=(MapKept.heap_alloc (W.alloc o1) o2).1;rw [s1] at this;exact this
def set4 (w : World) (B : Nat) (a b c d : Value) : World:=(((w.setCell ⟨B,0,none⟩ a).setCell ⟨B,1,none⟩ b).setCell ⟨B+1,0,none⟩ c).setCell ⟨B+1,1,none⟩ d
theorem set4_is {w : World} {z u : Value} {t t' : TypeId} (a b c d : Value) (h : w.heap[B]? =some (.cells #[x,y] t)) (h' : w.heap[B+1]? =some (.cells #[z,u] t')) :
 (set4 w B a b c d).heap[B]? =some (.cells #[a,b] t)∧(set4 w B a b c d).heap[B+1]? =some (.cells #[c,d] t')∧Below B w (set4 w B a b c d)∧ ∀ q,q≠B→q≠B+1→(set4 w B a b c d).heap[q]? =w.heap[q]? :=by
 have e : ∀ (w : World) (q g i : Nat) (v : Value),q≠g→(w.setCell ⟨g,i,none⟩ v).heap[q]? =w.heap[q]? :=fun w q g i v hq=>Below.heap_setCell _ _ _ _ (fun x=>hq x)
 refine⟨?_,?_,((((Below.refl B w).setCell (p:=⟨B,0,none⟩) (Nat.le_refl _) a).setCell (p:=⟨B,1,none⟩) (Nat.le_refl _) b).setCell (p:=⟨B+1,0,none⟩) (Nat.le_succ _) c).setCell (p:=⟨B+1,1,none⟩) (Nat.le_succ _) d,fun q h1 h2=>?_⟩
 ·unfold set4;rw [e _ _ _ _ _ (by omega),e _ _ _ _ _ (by omega)];exact z33 b (z33 a h)
 ·unfold set4;have h2 : ((w.setCell ⟨B,0,none⟩ a).setCell ⟨B,1,none⟩ b).heap[B+1]? =some (.cells #[z,u] t'):=by
   rw [e _ _ _ _ _ (by omega),e _ _ _ _ _ (by omega)];exact h'
  exact z33 (i:=1) d (z33 (i:=0) c h2)
 ·unfold set4;rw [e _ _ _ _ _ h2,e _ _ _ _ _ h2,e _ _ _ _ _ h1,e _ _ _ _ _ h1]
theorem lies_old {α : Type} [Inhabited α] {d : Dr} {f : α→Nat→Value} (hz : 0 < sz) {t : TypeId} {l : List α} (h : W.ownsRow B t sz v l.length (rowZ f sz l)) (h1 : W.heap.size≤d.B) (h2 : W.heap.size≤d.G) : Lies d W v l.length sz (fun i=>f (l.getD (i / sz) default) (i % sz)):=by
 have h':= h;obtain⟨-,⟨rfl,h0⟩ | ⟨g,cap,cur,rfl,hB,hc,hnc,-⟩⟩:=h
 ·exact Or.inl ⟨rfl,h0⟩
 ·have hg:=z13 hc;refine Or.inr ⟨g,0,cap,rfl,hnc,rfl,⟨hg,by omega,by omega⟩,fun i hi=>?_⟩;rw [Nat.zero_add,h'.cellAt i hi,z65 f sz hz l i hi]
theorem lies_two {d : Dr} {X : World} {u : Value} {n q : Nat} {t : TypeId} {F : Nat→Value} (hz : 3≤sz) (h : Lies d X v n sz F) (hq : X.heap[q]? =some (.cells #[x,y] t)) : Lies d (X.setCell ⟨q,i,none⟩ u) v n sz F:=by
 rcases h with h | ⟨b,off,cap,rfl,hn,rfl,hqb,hc⟩
 ·exact Or.inl h
 ·refine Or.inr ⟨b,0,cap,rfl,hn,rfl,⟨by simpa [World.setCell] using hqb.1,hqb.2⟩,fun j hj=>?_⟩;have hne : b≠q:=fun e=>by
   subst e;have h2 : 2 < n*sz:=by
    have h0 : 0 < n:=Nat.pos_of_ne_zero (fun e=>by subst e; simp at hj);have:=Nat.mul_le_mul h0 hz;omega
   have e1:=hc 2 h2;rw [Nat.zero_add,z8 hq 2] at e1
   cases e1
  rw [← hc j hj];exact World.cell?_of_block (Below.heap_setCell X ⟨q,i,none⟩ u b hne)
end
end Go.Proofs.YtfbojelpdccjaaaGreatDoor
