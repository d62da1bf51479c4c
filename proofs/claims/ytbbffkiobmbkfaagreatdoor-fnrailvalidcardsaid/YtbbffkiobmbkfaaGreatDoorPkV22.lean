import Derived.Test.YtbbffkiobmbkfaaGreatDoorPkV21
open Go.Proofs.Tryz
open Go.Value Go.IntKind
set_option maxHeartbeats 4000000
set_option maxRecDepth 100000
namespace Go.Proofs.YtbbffkiobmbkfaaGreatDoor
open Go.RowKit Go.Deep
variable {args:Array Value}{s s1:Cn}{d:Dr}{f:FuncId}{ks:List Kn}{n1:List Nd}{C c c' t:Nat}{v v1 ve:Value}{W X:World}
section
open Go.RowKit Go.Deep
variable {ns:List Nd}{es:List Ef}
theorem lead_twice (i:In) (wh:Nat) (a b:Int):(i.lead wh a).lead wh b=i.lead wh b:=by
 unfold In.lead;split
 .rfl
 .split<;>rfl
structure Asm (ns:List Nd) (es:List Ef) (s:Cs) (E:List En) (i:Nat):Prop where
 len:E.length=s.o.length
 inst:∀(k:Nat) (e:En),E[k]?=some e->match e.o with
  |none=>s.o.getD k default=e.i
  |some (wh,m)=>(∃(a:Nat) (e':En),E[a]?=some e'/\s.o.getD k default=e.i.lead wh (a:Int)/\e'.s=⟨(m:Int),0,2⟩)\/(s.o.getD k default=e.i/\ ∃l∈s.later.drop i,l.fr=k/\l.wh=wh/\l.names.length=m)
 pend:∀l∈s.later.drop i,(∃e:En,E[l.fr]?=some e/\e.o=some (l.wh,l.names.length))/\Stands ns l.t/\BdT l.t l.names/\(l.names.length:Int)+2*(l.t.dp:Int)<=80/\l.t.dp<=40
 sane:∀e∈E,SaneS e.s
 done:∀F T,F.length<=1500->AtE F T 0 E->AllE F T 0 E.length
 head:∃e r,E=e::r/\e.s=⟨0,0,1⟩
 pot:s.o.length+((s.later.drop i).map (fun l=>4*l.t.size+1)).sum<=1201
theorem sane_wf {N V:Int}{D q:Nat}{g:Fg}(h:Wf ns N V D q g) (hN:N<=100) (hV:V<=100):∀e∈g.c,SaneS e.s:=fun e he=>by
 rcases h.sane e he with ⟨h1,h2,h3⟩|⟨h1,h2,h3,h4,h5,h6⟩
 .exact Or.inl ⟨h1,h2,h3⟩
 .exact Or.inr ⟨h1,h2,h3,ya,h5,ya⟩
theorem cost_out {g:Fg}:g.c.length+(g.l.map (fun l=>4*l.t.size+1)).sum=g.cost:=rfl
theorem set_lead {l:List In}{k j wh:Nat}{v:Int}(hj:j<l.length):(l.set k ((l.getD k default).lead wh v)).getD j default=if j=k then (l.getD k default).lead wh v else l.getD j default:=by
 simp only[List.getD_eq_getElem?_getD,List.getElem?_set];by_cases h:k=j
 .subst h;simp[hj]
 .have h':¬ j=k:=fun e=>h e.symm
  simp[h,h']
theorem get_last {α:Type}{l:List α}{k:Nat}{x:α}(h:l[k]?=some x):k<l.length:=by
 rcases Nat.lt_or_ge k l.length with hc|hc
 .exact hc
 .rw[List.getElem?_eq_none hc]at h
  cases h
theorem asm_next (hl:ns.length<=300) (hes:es.length<=8) (hns:∀m∈ns,ownOk m=true/\nodeHas es m=true) {s:Cs}{E:List En}{i:Nat}(h:Asm ns es s E i) (hi:i<s.later.length) :
 ∃E',Asm ns es (nextZ es (s.later.getD i default) s) E' (i+1)/\pend (nextZ es (s.later.getD i default) s) (i+1)+1<=pend s i:=by
 obtain⟨l,hl2⟩:∃l,s.later.getD i default=l:=⟨_,rfl⟩
 have hpn:=pend_next hi;rw[hl2]at hpn |-;have hdrop:s.later.drop i=l::s.later.drop (i+1):=by
  rw[List.drop_eq_getElem_cons hi];congr 1
  rw[<-hl2];simp[List.getD,hi]
 have hlm:l∈s.later.drop i:=by rw[hdrop];exact List.mem_cons_self
 obtain⟨⟨el,he1,he2⟩,hst,hbd,hn80,hd40⟩:=h.pend l hlm;have hsz:=hst.lt.2.2;have hfr:l.fr<s.o.length:=by rw[<-h.len];exact get_last he1
 have hs1:(s.lead l.fr l.wh).o.length=s.o.length:=z67 _ _ _;have hP:=part_w (ns:=ns) (es:=es) 400 l.t l.names s.o.length 0 2 ya hst hbd (Int.le_refl _) ya ya;have hO:=fun F T hF=>part_o (ns:=ns) (es:=es) (F:=F) (T:=T) hF hes hns 400 l.t l.names s.o.length 0 2 ya hst hbd hn80 (Int.le_refl _) ya ya
 have hN:nextZ es l s=((s.lead l.fr l.wh).more (fgZ es 400 l.t l.names s.o.length 0 2)).put ⟨9,0,0,0⟩:=by
  unfold nextZ;rw[part_fg (ns:=ns) (es:=es) 400 l.t l.names (s.lead l.fr l.wh) 0 2 s.o.length ya hst hs1.symm]
 rw[hN];generalize fgZ es 400 l.t l.names s.o.length 0 2=g at hP hO |-;obtain⟨hW,hC,hH⟩:=hP;obtain⟨eh,rh,hgc,hes2⟩:=hH;have hgl:1<=g.c.length:=by rw[hgc];simp
 have hcost:=hC;rw[<-cost_out]at hcost;have hlater:(((s.lead l.fr l.wh).more g).put ⟨9,0,0,0⟩).later=s.later++g.l:=rfl;have hdrop2:(s.later++g.l).drop (i+1)=s.later.drop (i+1)++g.l:=List.drop_append_of_le_length ya;have hout:(((s.lead l.fr l.wh).more g).put ⟨9,0,0,0⟩).o=(s.o.set l.fr ((s.o.getD l.fr default).lead l.wh s.o.length))++(g.c.map En.i++ [⟨9,0,0,0⟩]):=by
  simp[Cs.put,Cs.more,Cs.lead]
 have hout1:∀k,k<s.o.length->(((s.lead l.fr l.wh).more g).put ⟨9,0,0,0⟩).o.getD k default=if k=l.fr then (s.o.getD l.fr default).lead l.wh s.o.length else s.o.getD k default:=fun k hk=>by
  rw[hout,<-set_lead hk];simp only[List.getD_eq_getElem?_getD];rw[List.getElem?_append_left (by rw[List.length_set];exact hk)]
 have hout2:∀(j:Nat) (e:En),g.c[j]?=some e->(((s.lead l.fr l.wh).more g).put ⟨9,0,0,0⟩).o.getD (s.o.length+j) default=e.i:=fun j e hj=>by
  have hjl:=get_last hj;rw[hout];simp only[List.getD_eq_getElem?_getD];rw[List.getElem?_append_right (by rw[List.length_set];omega),List.length_set,show s.o.length+j-s.o.length=j by omega,List.getElem?_append_left (by simpa using hjl),List.getElem?_map,hj];rfl
 have hout3:(((s.lead l.fr l.wh).more g).put ⟨9,0,0,0⟩).o.getD (s.o.length+g.c.length) default=⟨9,0,0,0⟩:=by
  rw[hout];simp only[List.getD_eq_getElem?_getD];rw[List.getElem?_append_right (by rw[List.length_set];omega),List.length_set,show s.o.length+g.c.length-s.o.length=g.c.length by omega,List.getElem?_append_right yq];simp
 refine⟨E++(g.c++ [en 9 0 l.names.length 1 2]),⟨?_,?_,?_,?_,?_,?_,?_⟩,?_⟩
 .rw[hout];simp[h.len]
 .intro k e hk;by_cases hk1:k<E.length
  .rw[List.getElem?_append_left hk1]at hk;have hi0:=h.inst k e hk;have hko:=hout1 k (by rw[<-h.len];exact hk1)
   cases ho:e.o with
   | none=>
     rw[ho]at hi0;dsimp only at hi0 |-;rw[hko,if_neg (fun e'=> ?_)]
     .exact hi0
     .rw[e',he1]at hk
      cases hk;rw[he2]at ho
      cases ho
   | some x=>
     obtain⟨wh,m⟩:=x;rw[ho]at hi0;dsimp only at hi0 |-;by_cases hkf:k=l.fr
     .subst hkf;rw[he1]at hk
      cases hk;rw[he2]at ho
      cases ho;left;refine⟨s.o.length,eh,?_,?_,hes2⟩
      .rw[List.getElem?_append_right (by rw[h.len];exact La),h.len,Nat.sub_self,hgc];rfl
      .rw[hko,if_pos rfl];rcases hi0 with ⟨a,e',h1,h2,h3⟩|⟨h1,-⟩
       .rw[h2,lead_twice]
       .rw[h1]
     .rw[hko,if_neg hkf];rcases hi0 with ⟨a,e',h1,h2,h3⟩|⟨h1,x,h2,h3,h4⟩
      .exact Or.inl ⟨a,e',by rw[List.getElem?_append_left (get_last h1)];exact h1,h2,h3⟩
      .refine Or.inr ⟨h1,x,?_,h3,h4⟩;rw[hlater,hdrop2];rw[hdrop]at h2;rcases List.mem_cons.1 h2 with rfl|h2
       .exact absurd h3.symm hkf
       .exact List.mem_append_left _ h2
  .rw[List.getElem?_append_right ya]at hk;obtain⟨j,rfl⟩:∃j,k=s.o.length+j:=⟨k-s.o.length,by have:=h.len;omega⟩
   rw[h.len,show s.o.length+j-s.o.length=j by omega]at hk;by_cases hj:j<g.c.length
   .rw[List.getElem?_append_left hj]at hk;have h2:=hout2 j e hk
    cases ho:e.o with
    |none=>exact h2
    | some x=>
      obtain⟨wh,m⟩:=x;obtain⟨x,h3,h4,h5,h6⟩:=hW.pend j e wh m hk ho;exact Or.inr ⟨h2,x,by rw[hlater,hdrop2];exact List.mem_append_right _ h3,h4,h5,h6⟩
   .rw[List.getElem?_append_right ya]at hk;have hj2:j-g.c.length=0:=by have:=get_last hk;simp at this;omega
    rw[hj2]at hk;have:e=en 9 0 l.names.length 1 2:=by simpa using hk.symm
    subst this;have hj3:j=g.c.length:=ya;subst hj3;exact hout3
 .intro x hx;rw[hlater,hdrop2,List.mem_append]at hx;rcases hx with hx|hx
  .obtain⟨⟨e,h1,h2⟩,h3⟩:=h.pend x (by rw[hdrop];exact List.mem_cons_of_mem _ hx);exact⟨⟨e,by rw[List.getElem?_append_left (get_last h1)];exact h1,h2⟩,h3⟩
  .obtain⟨⟨j,e,h1,h2,h3⟩,h4,h5,h6,h7⟩:=hW.later x hx;refine⟨⟨e,?_,h3⟩,h4,h5,ya,ya⟩;rw[List.getElem?_append_right gg,h.len,h2,show s.o.length+j-s.o.length=j by omega,List.getElem?_append_left (get_last h1)];exact h1
 .intro e he;rw[List.mem_append,List.mem_append,Ls]at he;rcases he with he|he|rfl
  .exact h.sane e he
  .exact sane_wf hW ya ya e he
  .exact Or.inr ⟨by show(1:Int)<=2;omega,by show(2:Int)<=3;omega,by show(0:Int)<=(l.names.length:Int);omega,by show(l.names.length:Int)<=100;omega,by show(0:Int)<=1;omega,by show(1:Int)<=100;omega⟩
 .intro F T hF hat;rw[atE_app,atE_app,Nat.zero_add,h.len]at hat;obtain⟨a1,a2,a3⟩:=hat;rw[Lk,Lk,List.length_singleton];refine z44 (h.done F T hF a1) ?_;rw[Nat.zero_add,h.len];refine z44 (hO F T hF a2 ⟨a3.1.2.1,a3.1.1⟩) (z47 (okp_of a3.1 yk (fun _=>⟨gd,mz⟩)))
 .obtain⟨e,r,h1,h2⟩:=h.head;exact⟨e,r++(g.c++ [en 9 0 l.names.length 1 2]),jp,h2⟩
 .have hp:=h.pot;rw[hdrop,List.map_cons,List.sum_cons]at hp;rw[hlater,hdrop2,hout];simp only[Lk,List.length_set,List.length_map,List.length_singleton,List.map_append,List.sum_append];omega
 ·have hsum:∀L:List Lt,4*(L.map (fun l=>l.t.size)).sum<=(L.map (fun l=>4*l.t.size+1)).sum:=fun L=>by
   induction L with
   |nil=>simp
   |cons x L ih=>simp only[List.map_cons,List.sum_cons];omega
  have h4:=hsum g.l;have h5:pend (((s.lead l.fr l.wh).more g).put ⟨9,0,0,0⟩) (i+1)=pend s (i+1)+(g.l.map (fun l=>l.t.size)).sum:=by
   unfold pend;rw[hlater,hdrop2,List.map_append,List.sum_append]
  rw[h5];omega
theorem asm_rest (hl:ns.length<=300) (hes:es.length<=8) (hns:∀m∈ns,ownOk m=true/\nodeHas es m=true):∀(m i:Nat) (s:Cs) (E:List En),Asm ns es s E i->pend s i<m-> ∃E' j,Asm ns es (restZ es m i s) E' j/\(restZ es m i s).later.length<=j:=by
 intro m;induction m with
 |zero=>intro i s E _ h;omega
 | succ m ih=>
   intro i s E h hp;rw[restZ];by_cases hi:i<s.later.length
   .rw[if_pos hi];obtain⟨E',h1,h2⟩:=asm_next hl hes hns h hi;exact ih (i+1) (nextZ es (s.later.getD i default) s) E' h1 ya
   .rw[if_neg hi];exact⟨E,i,h,ya⟩
theorem atE_of {F:List In}{T:List Sq}:∀(E:List En) (q:Nat),(∀(k:Nat) (e:En),E[k]?=some e->FitsE F T (q+k) e)->AtE F T q E
 |[],_,_=>trivial
 |e::E,q,h=>⟨h 0 e rfl,atE_of E (q+1) (fun k e' hk=>by rw[show q+1+k=q+(k+1) by omega];exact h (k+1) e' hk)⟩
theorem good_of_sane {cs:List In}(hok:∀i∈cs,i.ok=true) {T:List Sq}(hlen:T.length=cs.length) (hsn:∀s∈T,SaneS s) (h0:0<cs.length) (h1:tg T 0=⟨0,0,1⟩) (hd:∀k,(tg T k).p≠0->Done cs T k):GoodV cs:=fun k s h=>by
 obtain⟨e,hk⟩:=all_done hok h0 h1 hd k s h;have hp:=reach_right hok h;have hs:SaneS (tg T k):=hsn _ (by
  unfold tg;rw[List.getD_eq_getElem?_getD,Lr (by rw[hlen];exact hk)];exact List.getElem_mem _)
 have hd':= hd k (by rw[e];omega);unfold Done at hd';rw[e]at hd' hs;refine⟨hk,?_,?_,hd'.1,fun s' h'=> ?_⟩
 .rcases hs with hs|hs<;>omega
 .rcases hs with hs|hs<;>omega
 .rw[<-(all_done hok h0 h1 hd k s' h').1,e]
theorem asm_valid {s:Cs}{E:List En}{i:Nat}(h:Asm ns es s E i) (hi:s.later.length<=i):validZ s.o=true:=by
 have hdrop:s.later.drop i= []:=List.drop_eq_nil_of_le hi;have hpot:=h.pot;rw[hdrop]at hpot;have hlen:s.o.length<=1500:=by simp at hpot;omega
 have hT:(E.map En.s).length=s.o.length:=by rw[List.length_map,h.len]
 have htg:∀(k:Nat) (e:En),E[k]?=some e->tg (E.map En.s) k=e.s:=fun k e hk=>by
  unfold tg;rw[List.getD_eq_getElem?_getD,List.getElem?_map,hk];rfl
 have hat:AtE s.o (E.map En.s) 0 E:=atE_of E 0 (fun k e hk=>by
  have hkl:=get_last hk;rw[Nat.zero_add];refine⟨by rw[<-h.len];exact hkl,htg k e hk,?_⟩;have:=h.inst k e hk
  cases ho:e.o with
  | none=>
    rw[ho]at this;exact this
  | some x=>
    obtain⟨wh,m⟩:=x;rw[ho]at this;dsimp only at this ⊢;rcases this with ⟨a,e',h1,h2,h3⟩|⟨-,x,hx,-⟩
    .exact⟨a,by rw[<-h.len];exact get_last h1,h2,by rw[htg a e' h1,h3]⟩
    .rw[hdrop]at hx
     cases hx)
 have hall:=h.done s.o (E.map En.s) hlen hat;have hok:∀i∈s.o,i.ok=true:=fun x hx=>by
  obtain⟨k,hk,e⟩:=List.getElem_of_mem hx;have:=(hall k (Li _) gg).1;rwa[show s.o.getD k default=x by simp[List.getD,hk,e]]at this
 obtain⟨e0,r0,hE,he0⟩:=h.head;have hpos:0<s.o.length:=by rw[<-h.len,hE];simp
 refine valid_good ?_ (good_of_sane hok hT (fun x hx=>?_) hpos (by rw[htg 0 e0 (by rw[hE];rfl),he0]) (fun k hk=>?_))
 .unfold codeOkZ;rw[Lq,List.all_eq_true];exact⟨decide_eq_true hlen,hok⟩
 .obtain⟨e,he,rfl⟩:=List.mem_map.1 hx;exact h.sane e he
 .by_cases hkl:k<s.o.length
  .exact(hall k (Li _) gg).2 hk
  .rw[tg_out (by rw[hT];exact hkl)]at hk;exact absurd rfl hk
theorem code_valid {n:Nd}{k:Fo}(hl:ns.length<=300) (hes:es.length<=8) (hns:∀m∈ns,ownOk m=true/\nodeHas es m=true) (hs:Stands ns ⟨n,k,0⟩) (hb:BdT ⟨n,k,0⟩ []) (hd:k.deep+1<=40):validZ (codeZ es n k)=true:=by
 have hdp:(⟨n,k,0⟩:Tp).dp<=40:=hd;have hsz:=hs.lt.2.2;have hP:=part_w (ns:=ns) (es:=es) 400 ⟨n,k,0⟩ [] 0 0 1 ya hs hb (Int.le_refl _) ya ya;have hO:=fun F T hF=>part_o (ns:=ns) (es:=es) (F:=F) (T:=T) hF hes hns 400 ⟨n,k,0⟩ [] 0 0 1 ya hs hb jd (Int.le_refl _) ya ya
 have hpz:=part_fg (ns:=ns) (es:=es) 400 ⟨n,k,0⟩ [] ⟨[],[]⟩ 0 1 0 ya hs rfl;unfold codeZ;rw[hpz];generalize fgZ es 400 ⟨n,k,0⟩ [] 0 0 1=g at hP hO |-;obtain⟨hW,hC,eh,rh,hgc,hes2⟩:=hP;have hcost:=hC;rw[<-cost_out]at hcost;have hN:(([]:List ByteArray).length:Int)+2*((⟨n,k,0⟩:Tp).dp:Int)<=80:=jd;have hout:(((⟨[],[]⟩:Cs).more g).put ⟨0,0,0,0⟩).o=g.c.map En.i++ [⟨0,0,0,0⟩]:=by simp[Cs.put,Cs.more]
 have hlater:(((⟨[],[]⟩:Cs).more g).put ⟨0,0,0,0⟩).later=g.l:=by simp[Cs.put,Cs.more]
 have hA:Asm ns es (((⟨[],[]⟩:Cs).more g).put ⟨0,0,0,0⟩) (g.c++ [en 0 0 0 1 1]) 0:=by
  refine⟨?_,?_,?_,?_,?_,?_,?_⟩
  .rw[hout];simp
  .intro j e hj;by_cases hjl:j<g.c.length
   ·rw [List.getElem?_append_left hjl]at hj;have h2:(((⟨[],[]⟩:Cs).more g).put ⟨0,0,0,0⟩).o.getD j default=e.i:=by
     rw[hout];simp only[List.getD_eq_getElem?_getD];rw[List.getElem?_append_left (by simpa using hjl),List.getElem?_map,hj];rfl
    cases ho:e.o with
    |none=>exact h2
    | some x=>
      obtain⟨wh,m⟩:=x;obtain⟨x,h3,h4,h5,h6⟩:=hW.pend j e wh m hj ho;exact Or.inr ⟨h2,x,by rw[hlater];exact h3,ya,h5,h6⟩
   .rw[List.getElem?_append_right ya]at hj;have hj2:j-g.c.length=0:=by have:=get_last hj;simp at this;omega
    rw[hj2]at hj;have:e=en 0 0 0 1 1:=by simpa using hj.symm
    subst this;have hj3:j=g.c.length:=ya;subst hj3;show(((⟨[],[]⟩:Cs).more g).put ⟨0,0,0,0⟩).o.getD g.c.length default=_;rw[hout];simp only[List.getD_eq_getElem?_getD];rw[List.getElem?_append_right yq];simp[en]
  .intro x hx;rw[hlater,List.drop_zero]at hx;obtain⟨⟨j,e,h1,h2,h3⟩,h4,h5,h6,h7⟩:=hW.later x hx;refine⟨⟨e,?_,h3⟩,h4,h5,ya,ya⟩;rw[h2,Nat.zero_add,List.getElem?_append_left (get_last h1)];exact h1
  .intro e he;rw[List.mem_append,Ls]at he;rcases he with he|rfl
   .exact sane_wf hW ya ya e he
   .exact Or.inr ⟨yk,yk,yk,yk,yk,yk⟩
  .intro F T hF hat;rw[atE_app,Nat.zero_add]at hat;obtain⟨a2,a3⟩:=hat;rw[Lk,List.length_singleton];refine z44 (hO F T hF a2 (by rw[Nat.zero_add];exact⟨a3.1.2.1,a3.1.1⟩)) ?_;rw[Nat.zero_add];exact z47 (okp_of a3.1 yk (fun _=>⟨gd,mz⟩))
  .exact⟨eh,rh++ [en 0 0 0 1 1],by rw[hgc];rfl,by rw[hes2];rfl⟩
  .rw[hlater,hout,List.drop_zero];simp only[Lk,List.length_map,List.length_singleton];omega
 have hp:pend (((⟨[],[]⟩:Cs).more g).put ⟨0,0,0,0⟩) 0<400:=by
  have hsum:∀L:List Lt,4*(L.map (fun l=>l.t.size)).sum<=(L.map (fun l=>4*l.t.size+1)).sum:=fun L=>by
   induction L with
   |nil=>simp
   |cons x L ih=>simp only[List.map_cons,List.sum_cons];omega
  have h4:=hsum g.l;unfold pend;rw[hlater,List.drop_zero];omega
 obtain⟨E',j,h1,h2⟩:=asm_rest hl hes hns 400 0 _ _ hA hp;exact asm_valid h1 h2
end
section
open Go.RowKit Go.Deep
theorem Gen.setNext (h:Gen d ve W s) (x:Nat):Gen d ve (W.setCell ⟨d.G,3,none⟩ (int i64 (x:Int))) { s with next:=x }/\Grew d W (W.setCell ⟨d.G,3,none⟩ (int i64 (x:Int))):=by
 have ho:∀q,q≠d.G->(W.setCell ⟨d.G,3,none⟩ (int i64 (x:Int))).heap[q]?=W.heap[q]? :=fun q hq=>Lg W ⟨d.G,3,none⟩ _ q hq
 have hg:Grew d W (W.setCell ⟨d.G,3,none⟩ (int i64 (x:Int))):=⟨rfl,rfl,rfl,qo,fun q hq=>ho q hq.2.2⟩
 exact⟨⟨h.rd.same hg (ho _ h.ne),by simp[World.setCell,Array.getElem?_modify,h.blk],h.ne⟩,hg⟩
theorem Gen.setLeft (h:Gen d ve W s) (x:Int):Gen d ve (W.setCell ⟨d.G,2,none⟩ (int i64 x)) { s with left:=x }/\Grew d W (W.setCell ⟨d.G,2,none⟩ (int i64 x)):=by
 have ho:∀q,q≠d.G->(W.setCell ⟨d.G,2,none⟩ (int i64 x)).heap[q]?=W.heap[q]? :=fun q hq=>Lg W ⟨d.G,2,none⟩ _ q hq
 have hg:Grew d W (W.setCell ⟨d.G,2,none⟩ (int i64 x)):=⟨rfl,rfl,rfl,qo,fun q hq=>ho q hq.2.2⟩
 exact⟨⟨h.rd.same hg (ho _ h.ne),by simp[World.setCell,Array.getElem?_modify,h.blk],h.ne⟩,hg⟩
theorem Gen.ltG (h:Gen d ve W s):d.G<W.heap.size:=z13 h.blk
theorem Gen.ltB (h:Gen d ve W s):d.B<W.heap.size:=z13 h.rd.blk
theorem Gen.c0 (h:Gen d ve W s):W.cell? ⟨d.G,0,none⟩=some (.pointer (some ⟨d.B,0,none⟩)):=gh
theorem Gen.c1 (h:Gen d ve W s):W.cell? ⟨d.G,1,none⟩=some ve:=gh
theorem Gen.c2 (h:Gen d ve W s):W.cell? ⟨d.G,2,none⟩=some (int i64 s.left):=gh
theorem Gen.c3 (h:Gen d ve W s):W.cell? ⟨d.G,3,none⟩=some (int i64 (s.next:Int)):=gh
theorem Gen.f2 (h:Gen d ve W s):W.frozen? ⟨d.G,2,none⟩=false:=z15 h.blk 2
theorem Gen.f3 (h:Gen d ve W s):W.frozen? ⟨d.G,3,none⟩=false:=z15 h.blk 3
theorem gen_pick (h:Gen d ve W s) (hp:s.p<=1000000) (n:Int) (hn:0<n) :
 Calls prog 35 #[.pointer (some ⟨d.B,0,none⟩),int i64 n] W fun e W'=> ∃m:Int,e=.returned (int i64 m)/\0<=m/\m<n/\Gen d ve W' { s with p:=s.p+1 }/\Grew d W W':= by
 refine(z52 h.rd hp n hn).mono ?_;rintro e W' ⟨m,rfl,h0,h1,hr,hg,-,ho⟩;exact⟨m,rfl,h0,h1,⟨hr,(ho _ (Ne.symm h.ne)).trans h.blk,h.ne⟩,hg⟩
theorem cell_old {o:Obj}{p:Addr}(hp:p.block<W.heap.size) (h:W.cell? p=some v):(W.alloc o).cell? p=some v:=
 (((Below.refl W.heap.size W).alloc La o).cell hp).trans h
theorem digit_run (m:Int) (h0:0<m) (h1:m<7):∃s:ByteArray,s.size=1/\ ∀W:World,(convert 22 9 (.slice (some ⟨W.heap.size,0,none⟩) 1 1)).run prog (W.alloc (.cells #[.int .u8 (48+m)] 5))=.ok (.string s) (W.alloc (.cells #[.int .u8 (48+m)] 5)):=by
 refine⟨⟨#[UInt8.ofNat (48+m.toNat)]⟩,rfl,fun W=>?_⟩;have h:=run_convert_bytes_back (P:=prog) (W.alloc (.cells #[.int .u8 (48+m)] 5)) 22 9 5 ⟨W.heap.size,0,none⟩ 1 [UInt8.ofNat (48+m.toNat)] underlying22 underlying5 underlying9 (fun i hi=>by
  have h0:i=0:=by simpa using hi
  subst h0;simp[Addr.add];omega)
 exact h
theorem digit_zero (W:World):Calls prog 156 #[int i64 0] W fun e W'=> e=.returned (.string ⟨#[48]⟩)/\W'= W:=by
 go_enter func156,ntmps156
 go_wp2_with fail
 go_ret;exact⟨rfl,rfl⟩
theorem digit_calls (m:Int) (x:ByteArray) (hx:x.size=1) (h2:0<m) (h1:m<7) (hr:∀W:World,(convert 22 9 (.slice (some ⟨W.heap.size,0,none⟩) 1 1)).run prog (W.alloc (.cells #[.int .u8 (48+m)] 5))=.ok (.string x) (W.alloc (.cells #[.int .u8 (48+m)] 5))) (W:World):Calls prog 156 #[int i64 m] W fun e W'=> e=.returned (.string (x++⟨#[]⟩))/\W'= W.alloc (.cells #[.int .u8 (48+m)] 5):=by
 have hrun:=hr W;have hm:¬ m=0:=ya;have e0:(m==0)=false:=by simp[hm]
 have e1:m % 10=m:=ya;have e2:m/10=0:=ya;clear hr;go_enter func156,ntmps156
 go_wp2_with fail
 refine wp_loop_rounds 2 ?_;rw[rounds_succ];go_wp2_with fail
 rw[e2,rounds_succ];go_wp2_with fail
 go_ret;exact⟨rfl,rfl⟩
theorem digit_any (m:Int) (h0:0<=m) (h1:m<7):∃x:ByteArray,x.size<=50/\ ∀W,Calls prog 156 #[int i64 m] W fun e W'=> e=.returned (.string x)/\Below W.heap.size W W':= by
 by_cases hm:m=0
 .subst hm;refine⟨⟨#[48]⟩,yk,fun W=>(digit_zero W).mono ?_⟩;rintro e W' ⟨rfl,rfl⟩;exact⟨rfl,Lb⟩
 .obtain⟨x,hx,hr⟩:=digit_run m ya h1;refine⟨x++⟨#[]⟩,?_,fun W=>(digit_calls m x hx ya h1 hr W).mono ?_⟩
  .rw[ByteArray.size_append,hx];decide
  .rintro e W' ⟨rfl,rfl⟩;exact⟨rfl,Lb.alloc La _⟩
def sixV:Array Value:= #[.string ⟨#[120]⟩,.string ⟨#[121]⟩,.string ⟨#[122]⟩,.string ⟨#[110]⟩,.string ⟨#[109]⟩,.string ⟨#[113]⟩]
theorem six_get (r:Int) (h0:0<=r) (h1:r<6):∃y:ByteArray,y.size=1/\sixV[r.toNat]?=some (.string y):=by
 have h:r=0\/r=1\/r=2\/r=3\/r=4\/r=5:=ya;rcases h with rfl|rfl|rfl|rfl|rfl|rfl<;>exact⟨_,rfl,rfl⟩
theorem six_cell (r:Int) (y:ByteArray) (h:sixV[r.toNat]?=some (.string y)):(X.alloc (.cells sixV 9)).cell? ⟨X.heap.size,r.toNat,none⟩=some (.string y):=by
 rw[z11 (Ld X _).1,h]
theorem name_calls (h:Gen d ve W s) (hn:s.next<=1000000) :
 Calls prog 121 #[.pointer (some ⟨d.G,0,none⟩)] W fun e W'=> ∃x,e=.returned (.string x)/\Brief x/\Gen d ve W' { s with next:=s.next+1 }/\Grew d W W':= by
 have HG:=U h;have HN:=U (h.setNext (s.next+1));obtain⟨n,hn'⟩:∃n:Nat,s.next=n:=⟨_,rfl⟩
 have c3:=h.c3;have f3:=h.f3;rw[hn']at c3 hn HN |-;obtain⟨G,hGe⟩:∃G,d.G=G:=⟨_,rfl⟩
 rw[hGe]at c3 f3 HN |-;go_enter func121,ntmps121
 go_wp2_with fail
 have e1:((n:Int)+1)=((n+1:Nat):Int):=ya;rw[e1];have cN:=HN.o.1.c3;have hGl:=HN.o.1.ltG;rw[hGe]at cN hGl;clear c3 f3 HG h e1;generalize W.setCell ⟨G,3,none⟩ (int i64 ((n+1:Nat):Int))=W1 at*;dsimp only at cN;have hN0:(0:Int)<=((n+1:Nat):Int):=ya;generalize hNe:((n+1:Nat):Int)=N at*;obtain⟨m,hm⟩:∃m,N % 7=m:=⟨_,rfl⟩
 have hm0:0<=m:=ya;have hm1:m<7:=ya;obtain⟨x,hx,hD⟩:=digit_any m hm0 hm1;have HD:=U hD;have HX:=U hx;obtain⟨r,hr⟩:∃r,N % 6=r:=⟨_,rfl⟩
 have hr0:0<=r:=ya;have hr1:r<6:=ya;have ht6:N.tmod 6=r:=(Int.tmod_eq_emod_of_nonneg hN0).trans hr;have ht7:N.tmod 7=m:=(Int.tmod_eq_emod_of_nonneg hN0).trans hm;obtain⟨y,hy,hsix⟩:=six_get r hr0 hr1;have HY:=U hy;have HN1:O (Gen d ve W1.drew { s with next:=n+1 }/\Grew d W W1.drew):=⟨HN.o.1.drew,HN.o.2.drew⟩
 have cD:W1.drew.cell? ⟨G,3,none⟩=some (int i64 N):=cN;have hGD:G<W1.drew.heap.size:=hGl;clear hNe hn hn' hGe hm hm0 hm1 hr cN hGl HN hD hx;refine z31 (S:=fun w'=> w'.cell? ⟨G,3,none⟩=some (int i64 N)) ye rfl rfl ?_;generalize W1.drew=D at*;refine pick_o 1 (.pointer (some ⟨G,0,none⟩)) cD ?_;refine pick_o 2 (.pointer (some ⟨G,0,none⟩)) cD ?_;refine pick_o 3 (.pointer (some ⟨G,3,none⟩)) cD ?_;refine pick_o (hy:=fun w' hw=>ut) 4 (int i64 N) cD ?_;refine pick_o (hy:=fun w' hw=>by simp[go_sem,ht6]) 5 (int i64 r) cD ?_;refine pick_o 8 (.pointer (some ⟨G,0,none⟩)) cD ?_
 refine pick_o 9 (.pointer (some ⟨G,0,none⟩)) cD ?_;refine pick_o 10 (.pointer (some ⟨G,3,none⟩)) cD ?_;refine pick_o (hy:=fun w' hw=>ut) 11 (int i64 N) cD ?_;refine pick_o (hy:=fun w' hw=>by simp[go_sem,ht7]) 12 (int i64 m) cD ?_;have hx:=HX.o;refine z61 (i:=0) (j:=13) ye ?_ ?_
 .have cy:=six_cell (X:=D) r y hsix;have c1:=cell_old (o:=.cells sixV 9) hGD cD;have HB1:O (Below D.heap.size D (D.alloc (.cells sixV 9))):=Lb.alloc La _;have hq:D.heap.size<(D.alloc (.cells sixV 9)).heap.size:=yq;refine⟨_,.slice (some ⟨D.heap.size,0,none⟩) 6 6,D.alloc (.cells sixV 9),rfl,rfl,by simp[go_sem,sixV],c1,?_⟩;refine z25 yg ?_;generalize D.alloc (.cells sixV 9)=X1 at*;refine pick_o (hy:=fun w' hw=>by simp[go_sem,hr0,hr1]) 6 (.pointer (some ⟨D.heap.size,r.toNat,none⟩)) c1 ?_
  refine z54 (fun w'=> w'.cell? ⟨G,3,none⟩=some (int i64 N)/\w'.cell? ⟨D.heap.size,r.toNat,none⟩=some (.string y)) (fun w h=>h.1) ?_;refine pick_o (hy:=fun w' hw=>xj) 7 (.string y) ⟨c1,cy⟩ ?_;refine z26 (i:=13) (f:=156) (args:= #[int i64 m]) rfl ye rfl rfl yf ?_;refine(HD.o X1).mono ?_;rintro e X2 ⟨rfl,hb⟩;have HB2:=U hb;have c2:=(hb.cell (p:=⟨G,3,none⟩) (block_lt_of_cell c1)).trans c1;have cy2:=(hb.cell (p:=⟨D.heap.size,r.toNat,none⟩) hq).trans cy;clear hb;refine⟨_,rfl,⟨c2,cy2⟩,?_⟩;refine z25 yg ?_
  refine z12 (i:=14) (v:=.string (y++x)) ye rfl ye ye rfl rfl (fun w' hw=>by simp[go_sem,HY.o];omega) ⟨c2,cy2⟩ yg ?_;refine pick_o 15 (.string (y++x)) ⟨c2,cy2⟩ ?_;refine zb92 ?_;go_ret;exact⟨_,rfl,gi,(HN1.o.1.below HB1.o).below HB2.o,HN1.o.2.trans ((Grew.of_below HB1.o).trans (Grew.of_below HB2.o))⟩
 .refine⟨_,156,#[int i64 m],rfl,rfl,yf,?_⟩;refine(HD.o D).mono ?_;rintro e X1 ⟨rfl,hb⟩;have HB1:=U hb;have c1:=(hb.cell (p:=⟨G,3,none⟩) hGD).trans cD;have hGX:G<X1.heap.size:=block_lt_of_cell c1;clear hb;refine⟨_,rfl,c1,?_⟩;refine z25 yg ?_;have cy:=six_cell (X:=X1) r y hsix;have c2:=cell_old (o:=.cells sixV 9) hGX c1;have HB2:O (Below X1.heap.size X1 (X1.alloc (.cells sixV 9))):=Lb.alloc La _;refine z27 (i:=0) (v:=.slice (some ⟨X1.heap.size,0,none⟩) 6 6) (w1:=X1.alloc (.cells sixV 9)) rfl ye rfl rfl (by simp[go_sem,sixV]) c2 yg ?_;generalize X1.alloc (.cells sixV 9)=X2 at*
  refine pick_o (hy:=fun w' hw=>by simp[go_sem,hr0,hr1]) 6 (.pointer (some ⟨X1.heap.size,r.toNat,none⟩)) c2 ?_;refine z54 (fun w'=> w'.cell? ⟨G,3,none⟩=some (int i64 N)/\w'.cell? ⟨X1.heap.size,r.toNat,none⟩=some (.string y)) (fun w h=>h.1) ?_;refine pick_o (hy:=fun w' hw=>xj) 7 (.string y) ⟨c2,cy⟩ ?_;refine z12 (i:=14) (v:=.string (y++x)) ye rfl ye ye rfl rfl (fun w' hw=>by simp[go_sem,HY.o];omega) ⟨c2,cy⟩ yg ?_;refine pick_o 15 (.string (y++x)) ⟨c2,cy⟩ ?_;refine zb92 ?_;go_ret;exact⟨_,rfl,gi,(HN1.o.1.below HB1.o).below HB2.o,HN1.o.2.trans ((Grew.of_below HB1.o).trans (Grew.of_below HB2.o))⟩
theorem knows_owns {B:Nat}(h:W.ownsRow B 276 3 v ks.length (rowZ Kn.cell 3 ks)) (hb:∀k∈ks,Brief k.name) (h1:d.B<B) (h2:d.G<B):KnowsD d W v ks:=
 ⟨lies_owns yk h h1 h2,hb⟩
theorem know_lit (W:World) (k:Kn) (h1:d.B<W.heap.size) (h2:d.G<W.heap.size):Lies d (W.alloc (.cells #[.string k.name,int i64 k.ty,int i64 k.res] 276)) (.slice (some ⟨W.heap.size,0,none⟩) 1 1) [k].length 3 (fun i=>Kn.cell ([k].getD (i/3) default) (i % 3)):=
 lies_lit (f:=Kn.cell) (sz:=3) yk W 276 [k] _ rfl h1 h2
theorem kadd_step {wr W':World}{acc:List Kn}{out v':Value}{o:Obj}(h:wr.ownsRow W.heap.size 276 3 out acc.length (rowZ Kn.cell 3 acc)/\Below W.heap.size W wr/\ ∀k∈acc,Brief k.name) (hk:∀k∈ks,Brief k.name) (h':W'.ownsRow W.heap.size 276 3 v' (acc++ks).length (rowZ Kn.cell 3 (acc++ks))/\(wr.alloc o).grownBy W' out.ownBlock) :
 W'.ownsRow W.heap.size 276 3 v' (acc++ks).length (rowZ Kn.cell 3 (acc++ks))/\Below W.heap.size W W'/\ ∀k∈acc++ks,Brief k.name:=
 ⟨h'.1,(h.2.1.alloc h.2.1.size o).grown h'.2 (by have:=h.2.1.size;simp;omega) (fun k hk=>(h.1.lt k hk).1),fun k hx=>by
  rw[List.mem_append]at hx;rcases hx with hx|hx
  .exact h.2.2 k hx
  .exact hk k hx⟩
theorem kadd_calls (nm:ByteArray) (ty res:Int) (W:World) (h1:d.B<W.heap.size) (h2:d.G<W.heap.size) (hk:KnowsD d W v ks) (hb:Brief nm) (hl:ks.length<=1000) :
 Calls prog 122 #[v,.string nm,int i64 ty,int i64 res] W fun e W'=> ∃u,e=.returned u/\ ∃ks',KnowsD d W' u ks'/\ks'.length<=ks.length+1/\Below W.heap.size W W':= by
 obtain⟨L,hL⟩:∃L,ks.length=L:=⟨_,rfl⟩
 have HK:=U hk;have HL:=U (Lc hL (Lc hl (Lc hb (Lc h1 h2))));obtain⟨ad,cp,rfl⟩:=hk.is;rw[hL]at HK |-;clear hk hb hl h1 h2 hL;obtain⟨i0,hinf,hz0,hz1,hz2⟩:=info_parts info_know;go_enter func122,ntmps122
 go_wp2_with fail
 go_loopw [9,10] (fun out i wr=> ∃(i':Nat) (acc:List Kn),i=int i64 i'/\i'<=L/\O (acc.length<=i')/\O (wr.ownsRow W.heap.size 276 3 out acc.length (rowZ Kn.cell 3 acc)/\Below W.heap.size W wr/\ ∀k∈acc,Brief k.name)) (fun _ i _=>L-(intOf i).toNat)
 case atStart=>exact⟨0,[],rfl,Li _,Li _,World.ownsRow_nil _ _ _ _,Lb,fun k hk=>gj⟩
 case round=>
  obtain⟨i',acc,rfl,hle,HA,HO⟩:=hrel;by_cases hi:(i':Int)<(L:Int)
  .obtain⟨b,off,xn,xt,xr,rfl,-,hbr,hq,c0,c1,c2⟩:=HK.o.at (i:=i') ya;have c0:=(HO.o.2.1.cell (p:=⟨b,off+i'* 3,none⟩) hq.1).trans c0;have c1:=(HO.o.2.1.cell (p:=⟨b,off+i'* 3+1,none⟩) hq.1).trans c1;have c2:=(HO.o.2.1.cell (p:=⟨b,off+i'* 3+2,none⟩) hq.1).trans c2;have hi0:(0:Int)<=(i':Int):=ya;have hstep:L-(intOf (int i64 ((i'+ 1:Nat):Int))).toNat<L-(intOf (int i64 (i':Int))).toNat:=z55 hi;have HBr:O (∀k∈ [(⟨xn,xt,xr⟩:Kn)],Brief k.name):=fun k hk=>by rw[Ls]at hk;rw[hk];exact hbr
   have HS:=U (Lc (show d.B<wr.heap.size by have:=HO.o.2.1.size;have:=HL.o;omega) (show d.G<wr.heap.size by have:=HO.o.2.1.size;have:=HL.o;omega));clear hbr hq;go_wp2_with (at_builtin;refine z34 rfl _ _ 207 rfl _ _ rfl rfl (fun ty=>app_row kn_one underlying207 hinf hz0 hz1 hz2 rfl yk yk (HO.o.1.alloc _) (know_lit wr ⟨xn,xt,xr⟩ HS.o.1 HS.o.2) gm gp ty) ?_;intro v5 w5 hv5;have HO5:=U (kadd_step HO.o HBr.o hv5);clear hv5)
   .try rw[z30 jc]
    exact⟨⟨i'+ 1,acc++ [⟨xn,xt,xr⟩],rfl,ya,gq,HO5⟩,hstep⟩
   .try rw[z30 jc]
    exact⟨⟨i'+ 1,acc,rfl,ya,by show _<=_;have:=HA.o;omega,HO⟩,hstep⟩
  .have e:i'= L:=by omega
   subst e;have HBr:O (∀k∈ [(⟨nm,ty,res⟩:Kn)],Brief k.name):=fun k hk=>by rw[Ls]at hk;rw[hk];exact HL.o.2.2.1
   have HS:=U (Lc (show d.B<wr.heap.size by have:=HO.o.2.1.size;have:=HL.o;omega) (show d.G<wr.heap.size by have:=HO.o.2.1.size;have:=HL.o;omega));go_wp2_with (at_builtin;refine z34 rfl _ _ 207 rfl _ _ rfl rfl (fun ty_=>app_row kn_one underlying207 hinf hz0 hz1 hz2 rfl yk yk (HO.o.1.alloc _) (know_lit wr ⟨nm,ty,res⟩ HS.o.1 HS.o.2) gm gp ty_) ?_;intro v5 w5 hv5;have HO5:=U (kadd_step HO.o HBr.o hv5);clear hv5)
   go_ret;refine⟨_,rfl,acc++ [⟨nm,ty,res⟩],knows_owns HO5.o.1 HO5.o.2.2 HL.o.2.2.2.1 HL.o.2.2.2.2,?_,HO5.o.2.1⟩;have:=HA.o;simp;omega
def NodesPost (d:Dr) (ve:Value) (W:World) (s:Cn) (c:Nat) (e:Ending) (W':World):Prop:=
 ∃v ns s' t,e=.returned v/\NodesD d W' v ns/\(1<=ns.length/\ns.length<=t)/\Gen d ve W' s'/\Grew d W W'/\Spent s s' t c
def NodesPost0 (d:Dr) (ve:Value) (W:World) (s:Cn) (c:Nat) (e:Ending) (W':World):Prop:=
 ∃v ns s' t,e=.returned v/\NodesD d W' v ns/\ns.length<=t/\Gen d ve W' s'/\Grew d W W'/\Spent s s' t c
theorem nodes_none (d:Dr) (W:World):NodesD d W (.slice none 0 0) []:=⟨Or.inl ⟨rfl,rfl⟩,fun n hn=>by simp at hn⟩
theorem Spent.refl (s:Cn) (c:Nat):Spent s s 0 c:=⟨ya,ya,ya,ya,ya⟩
theorem nd_lit (W:World) (n:Nd) (h1:d.B<W.heap.size) (h2:d.G<W.heap.size) (hb:Brief n.a/\Brief n.b/\Brief n.c):NodesD d (W.alloc (.cells #[int i64 n.kind,int i64 n.num,.string n.a,.string n.b,.string n.c,int i64 n.kids] 68)) (.slice (some ⟨W.heap.size,0,none⟩) 1 1) [n]:=
 ⟨lies_lit (f:=Nd.cell) (sz:=6) yk W 68 [n] _ rfl h1 h2,fun x hx=>by rw[Ls]at hx;rw[hx];exact hb⟩
theorem gknown_calls (ty:Int) (h:Gen d ve W s) (hp:s.p<=1000000) (hk:KnowsD d W v ks) (hl:ks.length<=1000) :
 Calls prog 155 #[.pointer (some ⟨d.G,0,none⟩),v,int i64 ty] W (NodesPost0 d ve W s 1):=by
 obtain⟨L,hL⟩:∃L,ks.length=L:=⟨_,rfl⟩
 have HK:=U hk;have HG:=U h;have HL:=U (Lc hL (Lc hl hp));have g0:=h.c0;obtain⟨ad,cp,rfl⟩:=hk.is;rw[hL]at HK |-;obtain⟨G,hGe⟩:∃G,d.G=G:=⟨_,rfl⟩
 have HGe:=U hGe;obtain⟨B,hBe⟩:∃B,d.B=B:=⟨_,rfl⟩
 have HBe:=U hBe;rw[hGe,hBe]at g0;rw[hGe];clear hk hl hp hL h hGe hBe;go_enter func155,ntmps155
 go_wp2_with fail
 go_loopw [7,8] (fun n i wr=> ∃(i' n':Nat),n=int i64 n'/\i=int i64 i'/\i'<=L/\O (n'<=i')/\wr=W) (fun _ i _=>L-(intOf i).toNat)
 case atStart=>exact⟨0,0,rfl,rfl,Li _,Li _,rfl⟩
 case round=>
  obtain⟨i',n',rfl,rfl,hle,HN,rfl⟩:=hrel;by_cases hi:(i':Int)<(L:Int)
  .obtain⟨b,off,xn,xt,xr,rfl,-,-,hq,c0,c1,c2⟩:=HK.o.at (i:=i') ya;have hi0:(0:Int)<=(i':Int):=ya;have hstep:L-(intOf (int i64 ((i'+ 1:Nat):Int))).toNat<L-(intOf (int i64 (i':Int))).toNat:=z55 hi;clear hq c0 c2;go_wp2_with fail
   .rw[z30 (x:=i') jc,z30 (x:=n') (by have:=HL.o;have:=HN.o;omega)];exact⟨⟨i'+ 1,n'+ 1,rfl,rfl,ya,by show _<=_;have:=HN.o;omega,gv⟩,hstep⟩
   .rw[z30 (x:=i') jc];exact⟨⟨i'+ 1,n',rfl,rfl,ya,by show _<=_;have:=HN.o;omega,gv⟩,hstep⟩
  .rename World=>Wo
   by_cases hn0:n'= 0
   .subst hn0;go_wp2_with fail
    go_ret;exact⟨_,[],s,0,rfl,nodes_none _ _,yq,HG.o,Grew.refl _ _,Spent.refl _ _⟩
   .have hz:((n':Int)==0)=false:=by simp;omega
    have HP:=U (gen_pick HG.o jc (n':Int) ya);rw[HBe.o]at HP;go_wp2_with fail
    refine HP.o.mono ?_;rintro e W2 ⟨k0,rfl,hk0,hk1,hg2,hgr2⟩;have HG2:=U (Lc hg2 hgr2);have HK2:=U (HK.o.grew hgr2);have HKk:O (k0<=1000):=by show _<=_;have:=HL.o;have:=HN.o;omega
    clear HP hk1 hg2 hgr2 HK HG g0 hz hn0;go_wp2_with fail
    go_loopw [9,10] (fun k i wr=> ∃(i':Nat) (k':Int),k=int i64 k'/\i=int i64 i'/\i'<=L/\0<=k'/\O (k'<=1000)/\wr=W2) (fun _ i _=>L-(intOf i).toNat)
    case atStart=>exact⟨0,k0,rfl,rfl,Li _,hk0,HKk,rfl⟩
    case round=>
     obtain⟨i2,k2,rfl,rfl,hle2,hk20,HK21,rfl⟩:=hrel;by_cases hi2:(i2:Int)<(L:Int)
     .obtain⟨b,off,xn,xt,xr,rfl,-,hbr,hq,c0,c1,c2⟩:=HK2.o.at (i:=i2) ya;have HBr:=U hbr;have hi0:(0:Int)<=(i2:Int):=ya;have hstep:L-(intOf (int i64 ((i2+1:Nat):Int))).toNat<L-(intOf (int i64 (i2:Int))).toNat:=z55 hi2;clear hq c2 hbr;by_cases hk2:k2=0
      .subst hk2;go_wp2_with fail
       .go_ret;exact⟨_,[⟨5,0,xn,ByteArray.empty,ByteArray.empty,0⟩],_,1,rfl,nd_lit wr ⟨5,0,xn,ByteArray.empty,ByteArray.empty,0⟩ HG2.o.1.ltB HG2.o.1.ltG ⟨HBr.o,z14,z14⟩,yq,HG2.o.1.alloc _,HG2.o.2.alloc _,gw⟩
       .rw[z30 (x:=i2) jc];exact⟨⟨i2+1,0,rfl,rfl,ya,Int.le_refl _,yp,gv⟩,hstep⟩
      .have hz2:(k2==0)=false:=by simp[hk2]
       have HW:O (wrap64 (k2-1)=k2-1):=by show _=_;have:=HK21.o;unfold wrap64;omega
       go_wp2_with fail
       .rw[z30 (x:=i2) jc];try rw[HW.o]
        exact⟨⟨i2+1,k2-1,rfl,rfl,ya,ya,by show _<=_;have:=HK21.o;omega,gv⟩,hstep⟩
       .rw[z30 (x:=i2) jc];exact⟨⟨i2+1,k2,rfl,rfl,ya,hk20,HK21,gv⟩,hstep⟩
     .go_wp2_with fail
      go_ret;exact⟨_,[],_,1,rfl,nodes_none _ _,yq,HG2.o.1,HG2.o.2,gw⟩
def At (d:Dr) (ve:Value) (W:World) (s:Cn) (X:World) (s':Cn) (t c:Nat):Prop:=Gen d ve X s'/\Grew d W X/\Spent s s' t c
theorem Spent.trans {s2:Cn}{t':Nat}(h:Spent s s1 t c) (g:Spent s1 s2 t' c'):Spent s s2 (t+t') (c+c'):=by
 unfold Spent at h g |-;omega
theorem Spent.mono (h:Spent s s1 t c) (hc:c<=c'):Spent s s1 t c':= by
 unfold Spent at h |-;omega
theorem At.start (h:Gen d ve W s):At d ve W s W s 0 0:=⟨h,Grew.refl _ _,Spent.refl _ _⟩
theorem At.step {X':World}{s2:Cn}{t':Nat}(h:At d ve W s X s1 t c) (h1:Gen d ve X' s2) (h2:Grew d X X') (h3:Spent s1 s2 t' c'):At d ve W s X' s2 (t+t') (c+c'):=⟨h1,h.2.1.trans h2,h.2.2.trans h3⟩
theorem At.below {X':World}(h:At d ve W s X s1 t c) (hb:Below X.heap.size X X'):At d ve W s X' s1 t c:=⟨h.1.below hb,h.2.1.trans (Grew.of_below hb),h.2.2⟩
theorem At.alloc (h:At d ve W s X s1 t c) (o:Obj):At d ve W s (X.alloc o) s1 t c:=h.below (Lb.alloc La o)
theorem At.drew (h:At d ve W s X s1 t c):At d ve W s X.drew s1 t c:=⟨h.1.drew,h.2.1.drew,h.2.2⟩
theorem At.fit (h:At d ve W s X s1 t c) (hf:Fit s C) (C':Nat) (hc:c+C'<=C):Fit s1 C':= by
 have h3:=h.2.2;unfold Spent at h3;unfold Fit at hf |-;omega
theorem At.done {ns:List Nd}(h:At d ve W s X s1 t c) (k:Nat) (hn:NodesD d X v ns) (hl:1<=ns.length/\ns.length<=t+k) (hc:c+k<=C):NodesPost d ve W s C (.returned v) X:=
 ⟨v,ns,s1,t+k,rfl,hn,hl,h.1,h.2.1,gx⟩
theorem At.done0 {ns:List Nd}(h:At d ve W s X s1 t c) (k:Nat) (hn:NodesD d X v ns) (hl:ns.length<=t+k) (hc:c+k<=C):NodesPost0 d ve W s C (.returned v) X:=
 ⟨v,ns,s1,t+k,rfl,hn,hl,h.1,h.2.1,gx⟩
theorem At.pick (h:At d ve W s X s1 t c) (hf:Fit s C) (hc:c<C) (n:Int) (hn:0<n) :
 Calls prog 35 #[.pointer (some ⟨d.B,0,none⟩),int i64 n] X fun e X'=> ∃(m:Int) (s2:Cn),e=.returned (int i64 m)/\0<=m/\m<n/\At d ve W s X' s2 (t+1) (c+1)/\Grew d X X':= by
 have hf1:=h.fit hf 1 ya;refine(gen_pick h.1 (by unfold Fit at hf1;omega) n hn).mono ?_;rintro e X' ⟨m,rfl,h0,h1,hg,hgr⟩;exact⟨m,_,rfl,h0,h1,h.step hg hgr gw,hgr⟩
theorem At.name (h:At d ve W s X s1 t c) (hf:Fit s C) (hc:c<C) :
 Calls prog 121 #[.pointer (some ⟨d.G,0,none⟩)] X fun e X'=> ∃(x:ByteArray) (s2:Cn),e=.returned (.string x)/\Brief x/\At d ve W s X' s2 (t+1) (c+1)/\Grew d X X':= by
 have hf1:=h.fit hf 1 ya;refine(name_calls h.1 (by unfold Fit at hf1;omega)).mono ?_;rintro e X' ⟨x,rfl,hb,hg,hgr⟩;exact⟨x,_,rfl,hb,h.step hg hgr gw,hgr⟩
theorem At.nodes (h:At d ve W s X s1 t c) (hc:Calls prog f args X (NodesPost d ve X s1 c')) :
 Calls prog f args X fun e X'=> ∃v ns s2 t',e=.returned v/\NodesD d X' v ns/\(1<=ns.length/\ns.length<=t')/\At d ve W s X' s2 (t+t') (c+c')/\Grew d X X':= by
 refine hc.mono ?_;rintro e X' ⟨v,ns,s2,t',rfl,hn,hl,hg,hgr,hsp⟩;exact⟨v,ns,s2,t',rfl,hn,hl,h.step hg hgr hsp,hgr⟩
theorem At.nodes0 (h:At d ve W s X s1 t c) (hc:Calls prog f args X (NodesPost0 d ve X s1 c')) :
 Calls prog f args X fun e X'=> ∃v ns s2 t',e=.returned v/\NodesD d X' v ns/\ns.length<=t'/\At d ve W s X' s2 (t+t') (c+c')/\Grew d X X':= by
 refine hc.mono ?_;rintro e X' ⟨v,ns,s2,t',rfl,hn,hl,hg,hgr,hsp⟩;exact⟨v,ns,s2,t',rfl,hn,hl,h.step hg hgr hsp,hgr⟩
theorem At.node (h:At d ve W s X s1 t c) (k n:Int) :
 Calls prog 84 #[int i64 k,int i64 n] X fun e X'=> ∃v ns,e=.returned v/\NodesD d X' v ns/\ns.length=1/\At d ve W s X' s1 t c/\Grew d X X':= by
 refine(node_calls (d:=d) k n X h.1.ltB h.1.ltG).mono ?_;rintro e X' ⟨v,rfl,hn,hb⟩;exact⟨v,_,rfl,hn,rfl,h.below hb,Grew.of_below hb⟩
theorem nE {L:List Nd->Nat->Prop}{R:World->Cn->Nat->Prop}{G:World->Prop}{Q:Ending->World->Prop}(h:Calls prog f args X fun e X'=> ∃v ns s t,e=.returned v/\NodesD d X' v ns/\L ns t/\R X' s t/\G X') (k:∀X' ad cp ns s t,O (NodesD d X' (.slice ad ns.length cp) ns/\L ns t)->O (R X' s t)->O (G X')->Q (.returned (.slice ad ns.length cp)) X'):Calls prog f args X Q:=by
 refine h.mono ?_;rintro e X' ⟨v,ns,s,t,rfl,hn,hl,ha,hg⟩;obtain⟨ad,cp,rfl⟩:=hn.is;exact k X' ad cp ns s t (U ⟨hn,hl⟩) (U ha) (U hg)
theorem vE {L:List Nd->Prop}{R G:World->Prop}{Q:Ending->World->Prop}(h:Calls prog f args X fun e X'=> ∃v ns,e=.returned v/\NodesD d X' v ns/\L ns/\R X'/\G X') (k:∀X' ad cp ns,O (NodesD d X' (.slice ad ns.length cp) ns/\L ns)->O (R X')->O (G X')->Q (.returned (.slice ad ns.length cp)) X'):Calls prog f args X Q:=by
 refine h.mono ?_;rintro e X' ⟨v,ns,rfl,hn,hl,ha,hg⟩;obtain⟨ad,cp,rfl⟩:=hn.is;exact k X' ad cp ns (U ⟨hn,hl⟩) (U ha) (U hg)
theorem At.add (h:At d ve W s X s1 t c) (nm:ByteArray) (ty res:Int) (hk:KnowsD d X v ks) (hb:Brief nm) (hl:ks.length<=1000) :
 Calls prog 122 #[v,.string nm,int i64 ty,int i64 res] X fun e X'=> ∃u ks',e=.returned u/\KnowsD d X' u ks'/\ks'.length<=ks.length+1/\At d ve W s X' s1 t c/\Grew d X X':= by
 refine(kadd_calls nm ty res X h.1.ltB h.1.ltG hk hb hl).mono ?_;rintro e X' ⟨u,rfl,ks',hk',hl',hbl⟩;exact⟨u,ks',rfl,hk',hl',h.below hbl,Grew.of_below hbl⟩
theorem z70 (ls:List (Value×List Nd)) (c:Array Value) (hc:c=(ls.map Prod.fst).toArray) (h1:d.B<X.heap.size) (h2:d.G<X.heap.size) (h:∀x∈ls,NodesD d X x.1 x.2) :
 KidsV d (X.alloc (.cells c 24)) (.slice (some ⟨X.heap.size,0,none⟩) ls.length ls.length) ls:=by
 subst hc;have hh:=(Ld X (.cells (ls.map Prod.fst).toArray 24)).1;refine⟨Or.inr ⟨_,0,_,rfl,La,rfl,⟨z13 hh,ya,ya⟩,fun i hi=>?_⟩,fun x hx=>(h x hx).grew (Grew.of_below (Lb.alloc La _))⟩;rw[Nat.zero_add,z11 hh i,List.getElem?_toArray];rw[Nat.mul_one]at hi;simp[List.getD,hi]
theorem At.put (h:At d ve W s X s1 t c) (ls:List (Value×List Nd)) (cs:Array Value) (m:Nat) (k nm kd:Int) (a b e':ByteArray) (hc:cs=(ls.map Prod.fst).toArray) (hm:m=ls.length) (hls:∀x∈ls,NodesD d X x.1 x.2) (hb:Brief a/\Brief b/\Brief e') (hl:ls.length<=1000) (hfl:(flatL ls).length<=800000) :
 Calls prog 120 #[.agg #[int i64 k,int i64 nm,.string a,.string b,.string e',int i64 kd],.slice (some ⟨X.heap.size,0,none⟩) m m] (X.alloc (.cells cs 24)) fun e X'=> ∃v ns,e=.returned v/\NodesD d X' v ns/\ns.length=1+(flatL ls).length/\At d ve W s X' s1 t c/\Grew d X X':= by
 subst hm;have hB:(X.alloc (.cells cs 24)).heap.size=X.heap.size+1:=yq;refine(gput_calls (d:=d) k nm kd a b e' (X.alloc (.cells cs 24)) _ ls (by rw[hB];have:=h.1.ltB;omega) (by rw[hB];have:=h.1.ltG;omega) (z70 ls cs hc h.1.ltB h.1.ltG hls) hb hl hfl).mono ?_;rintro e X' ⟨v,rfl,hn,hbl⟩;exact⟨v,_,rfl,hn,jd,(h.alloc _).below hbl,(Grew.of_below (Lb.alloc La _)).trans (Grew.of_below hbl)⟩
theorem At.put1 (h:At d ve W s X s1 t c) (k nm kd:Int) (a b e':ByteArray) (h1:NodesD d X v1 n1) (hb:Brief a/\Brief b/\Brief e') (hfl:n1.length<=800000) :
 Calls prog 120 #[.agg #[int i64 k,int i64 nm,.string a,.string b,.string e',int i64 kd],.slice (some ⟨X.heap.size,0,none⟩) 1 1] (X.alloc (.cells #[v1] 24)) fun e X'=> ∃v ns,e=.returned v/\NodesD d X' v ns/\ns.length=1+n1.length/\At d ve W s X' s1 t c/\Grew d X X':= by
 have hf:(flatL [(v1,n1)]).length=n1.length:=by simp[flatL]
 rw[<-hf];exact h.put [(v1,n1)] _ 1 k nm kd a b e' rfl rfl (fun x hx=>by simp at hx;subst hx;exact h1) hb yq ya
theorem At.put2 (h:At d ve W s X s1 t c) (k nm kd:Int) (a b e':ByteArray) {v2:Value}{n2:List Nd}(h1:NodesD d X v1 n1) (h2:NodesD d X v2 n2) (hb:Brief a/\Brief b/\Brief e') (hfl:n1.length+n2.length<=800000) :
 Calls prog 120 #[.agg #[int i64 k,int i64 nm,.string a,.string b,.string e',int i64 kd],.slice (some ⟨X.heap.size,0,none⟩) 2 2] (X.alloc (.cells #[v1,v2] 24)) fun e X'=> ∃v ns,e=.returned v/\NodesD d X' v ns/\ns.length=1+(n1.length+n2.length)/\At d ve W s X' s1 t c/\Grew d X X':= by
 have hf:(flatL [(v1,n1),(v2,n2)]).length=n1.length+n2.length:=by simp[flatL]
 rw[<-hf];exact h.put [(v1,n1),(v2,n2)] _ 2 k nm kd a b e' rfl rfl (fun x hx=>by simp at hx;rcases hx with rfl|rfl;exact h1;exact h2) hb yq ya
theorem At.put3 (h:At d ve W s X s1 t c) (k nm kd:Int) (a b e':ByteArray) {v2 v3:Value}{n2 n3:List Nd}(h1:NodesD d X v1 n1) (h2:NodesD d X v2 n2) (h3:NodesD d X v3 n3) (hb:Brief a/\Brief b/\Brief e') (hfl:n1.length+n2.length+n3.length<=800000) :
 Calls prog 120 #[.agg #[int i64 k,int i64 nm,.string a,.string b,.string e',int i64 kd],.slice (some ⟨X.heap.size,0,none⟩) 3 3] (X.alloc (.cells #[v1,v2,v3] 24)) fun e X'=> ∃v ns,e=.returned v/\NodesD d X' v ns/\ns.length=1+(n1.length+n2.length+n3.length)/\At d ve W s X' s1 t c/\Grew d X X':= by
 have hf:(flatL [(v1,n1),(v2,n2),(v3,n3)]).length=n1.length+n2.length+n3.length:=by simp[flatL];omega
 rw[<-hf];exact h.put [(v1,n1),(v2,n2),(v3,n3)] _ 3 k nm kd a b e' rfl rfl (fun x hx=>by simp at hx;rcases hx with rfl|rfl|rfl;exact h1;exact h2;exact h3) hb yq ya
end
end Go.Proofs.YtbbffkiobmbkfaaGreatDoor
