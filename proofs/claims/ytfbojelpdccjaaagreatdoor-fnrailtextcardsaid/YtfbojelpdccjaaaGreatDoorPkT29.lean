import Derived.Test.YtfbojelpdccjaaaGreatDoorPkT28
set_option maxRecDepth 100000
namespace Go.Proofs.YtfbojelpdccjaaaGreatDoor
open Go.RowKit Go.Deep
variable {k:Int}{ns:List Nd}{T l:List Tok}{i j:Nat}{m:Nd}{a b:Tr}{r:Tr×Nat}
section
open Go.RowKit Go.Deep
theorem nd_is {num:Int}{a b c:ByteArray}{n:Nat}(h1:m.kind=k) (h2:m.num=num) (h3:m.a=a) (h4:m.b=b) (h5:m.c=c) (h6:m.kids=(n:Int)):m=(Nd.mk k num a b c 0).with_ n:=by
 cases m
 cases h1
 cases h2
 cases h3
 cases h4
 cases h5
 cases h6;rfl
theorem own_parts (h:ownOk m=true):(namesZ m.kind<=0->m.a=⟨#[]⟩)/\(namesZ m.kind<=1->m.b=⟨#[]⟩)/\(namesZ m.kind<=2->m.c=⟨#[]⟩)/\0<=m.num/\m.num<=mostZ m.kind:=by
 simp only[ownOk,namesOk,fit,numOk,Bool.and_eq_true,decide_eq_true_eq]at h;obtain⟨-,⟨ha,hb,hc⟩,-,h1,h2⟩:=h;refine⟨fun e=>?_,fun e=>?_,fun e=>?_,h1,h2⟩
 .rw[if_neg yf]at ha;exact no_text ha
 .rw[if_neg yf]at hb;exact no_text hb
 .rw[if_neg yf]at hc;exact no_text hc
theorem tr_kids {t:Tp}{n:Nd}{l:List Tp}(h:t.n=n.with_ t.kids.length) (hk:t.kids=l):t.tr=mkT n (l.map Tp.tr):=by
 have:=tr_mk h;rw[hk]at this;exact this
theorem tk_eq (c:Int) (k:List UInt8):(((c,bs k):Tok).2.toList==k)=true:=by
 show((bs k).toList==k)=true;rw[z58];simp
theorem z52 {x y:Tr}(h:y=x) (h':i=j):(Except.ok (x,i):Except Nat (Tr×Nat))=.ok (y,j):=by rw[h,h']
theorem h1_app {R:List Tok}(h:h1 T):h1 (T++R):=by
 cases T with
 |nil=>exact absurd rfl (h1_ne h)
 |cons x T=>exact h
theorem hdB_app {R:List Tok}(h:h6 T):hdB (T++R)=true:=by
 cases T with
 |nil=>exact absurd rfl (h6_ne h)
 |cons x T=>exact h
section
variable {ws:List Wd}{F:Nat}{t:Tp}
theorem nr_of (hw:WordsOk ws) (hb:h1 T):∀i rest,X ws i (T++rest)->hd (T++rest) gShut=false:=fun i rest hX=>h1_not hw hb hX yh yh yh
theorem full6 (hw:WordsOk ws) (hlv:lvK t.n.kind=6) (hb:h6 (tkB F t)) (hr:RL ws 6 (tkB F t) t.tr):Full ws F t:=by
 obtain⟨c1,c2,c3,c4⟩:=chain6 hw hb hr;exact full_of hw 6 hlv yh c1 (fun _=>c2) (fun _=>c3) (fun _=>c4) (fun _=>Or.inl hb) (fun _=>hb) (nr_of hw (Or.inl hb))
theorem full5 (hw:WordsOk ws) (hlv:lvK t.n.kind=5) (hb:h1 (tkB F t)) (ha:AL ws 5 .callL (tkB F t) t.tr):Full ws F t:=by
 obtain⟨c1,c2,c3⟩:=chain5 hw hb ha;exact full_of hw 5 hlv yh c1 (fun _=>c2) (fun _=>c3) (fun _=>ha) (fun _=>hb) (fun e=>nj) (nr_of hw hb)
theorem full4 (hw:WordsOk ws) (hlv:lvK t.n.kind=4) (hb:h1 (tkB F t)) (ha:AL ws 4 .prodL (tkB F t) t.tr):Full ws F t:=by
 obtain⟨c1,c2⟩:=chain4 hw hb ha;exact full_of hw 4 hlv yh c1 (fun _=>c2) (fun _=>ha) (fun e=>yf) (fun _=>hb) (fun e=>nj) (nr_of hw hb)
theorem full3 (hw:WordsOk ws) (hlv:lvK t.n.kind=3) (hb:h1 (tkB F t)) (ha:AL ws 3 .sumL (tkB F t) t.tr):Full ws F t:=
 full_of hw 3 hlv yh (chain3 hw hb ha) (fun _=>ha) (fun e=>yf) (fun e=>yf) (fun _=>hb) (fun e=>nj) (nr_of hw hb)
theorem full2 (hw:WordsOk ws) (hlv:lvK t.n.kind=2) (hb:h1 (tkB F t)) (hr:RL ws 2 (tkB F t) t.tr):Full ws F t:=
 full_of hw 2 hlv yh (chain2 hw hb hr) (fun e=>yf) (fun e=>yf) (fun e=>yf) (fun _=>hb) (fun e=>nj) (nr_of hw hb)
theorem full1 (hw:WordsOk ws) (hlv:lvK t.n.kind=1) (hb:h1 (tkB F t)) (hr:RL ws 1 (tkB F t) t.tr):Full ws F t:=
 full_of hw 1 hlv yh (chain1 hw hb hr) (fun e=>yf) (fun e=>yf) (fun e=>yf) (fun _=>hb) (fun e=>nj) (nr_of hw hb)
theorem full0 (hw:WordsOk ws) (hlv:lvK t.n.kind=0) (hr:RL ws 0 (tkB F t) t.tr) (hn:∀i rest,X ws i (tkB F t++rest)->hd (tkB F t++rest) gShut=false):Full ws F t:=
 full_of hw 0 hlv yh (fun L hL=>(Nat.le_zero.1 hL) ▸ hr) (fun e=>yf) (fun e=>yf) (fun e=>yf) (fun e=>yf) (fun e=>nj) hn
theorem callL_go (hX:X ws i l) (hb:hdB l=true) (h:Ev (fun F=>ipz ws F .atom) i (b,j)) (h':Ev (fun F=>ipz ws F (.callL (mkT (nd0 7) [a,b]))) j r):Ev (fun F=>ipz ws F (.callL a)) i r:=by
 have e:=Ev.bind (k:=fun F b=>ipz ws F (.callL (mkT (nd0 7) [a,b]))) h h';obtain⟨F0,h0⟩:=e;refine Ev.step ⟨F0,fun F hF=>?_⟩;show callLI ws (ipz ws F) a i=_;unfold callLI;rw[if_pos (by rw[hX.starts];exact hb)];exact h0 F hF
theorem sumL_plus (hX:X ws i (sg gPlus::l)) (h:Ev (fun F=>ipz ws F .prod) (i+1) (b,j)) (h':Ev (fun F=>ipz ws F (.sumL (mkT (nd0 11) [a,b]))) j r):Ev (fun F=>ipz ws F (.sumL a)) i r:=by
 refine Ev.step ?_;show Ev (fun F=>orI ws gPlus (bindI (ipz ws F .prod) fun b=>ipz ws F (.sumL (mkT (nd0 11) [a,b]))) (orI ws gMinus (bindI (ipz ws F .prod) fun b=>ipz ws F (.sumL (mkT (nd0 12) [a,b]))) (pureI a))) i r;exact Ev.seen hX (tk_eq 4 gPlus) (Ev.bind h h')
theorem sumL_minus (hX:X ws i (sg gMinus::l)) (h:Ev (fun F=>ipz ws F .prod) (i+1) (b,j)) (h':Ev (fun F=>ipz ws F (.sumL (mkT (nd0 12) [a,b]))) j r):Ev (fun F=>ipz ws F (.sumL a)) i r:=by
 refine Ev.step ?_;show Ev (fun F=>orI ws gPlus (bindI (ipz ws F .prod) fun b=>ipz ws F (.sumL (mkT (nd0 11) [a,b]))) (orI ws gMinus (bindI (ipz ws F .prod) fun b=>ipz ws F (.sumL (mkT (nd0 12) [a,b]))) (pureI a))) i r;exact Ev.unseen hX (by rw[show sg gMinus::l=(4,bs gMinus)::l from rfl,hd_is];decide) (Ev.seen hX (tk_eq 4 gMinus) (Ev.bind h h'))
theorem prodL_star (hX:X ws i (sg gStar::l)) (h:Ev (fun F=>ipz ws F .call) (i+1) (b,j)) (h':Ev (fun F=>ipz ws F (.prodL (mkT (nd0 13) [a,b]))) j r):Ev (fun F=>ipz ws F (.prodL a)) i r:=by
 refine Ev.step ?_;show Ev (fun F=>orI ws gStar (bindI (ipz ws F .call) fun b=>ipz ws F (.prodL (mkT (nd0 13) [a,b]))) (pureI a)) i r;exact Ev.seen hX (tk_eq 4 gStar) (Ev.bind h h')
theorem back11 (hw:WordsOk ws) (hk:t.n.kind=11) (htr:t.tr=mkT (nd0 11) [(t.kid 0).tr,(t.kid 1).tr]) (f0:Full ws F (t.kid 0)) (f1:Full ws F (t.kid 1)):Full ws (F+1) t:=by
 have hT:=tkB11 (f:=F) hk;refine full3 hw yy nk ?_;rw[hT];intro i rest r hX hs hr;simp only[tk11,List.cons_append,List.append_assoc]at hX;simp only[tk11,List.length_cons,List.length_append]at hr;refine f0.a3 i _ r hX (stop_op 4 yn _) (sumL_plus hX.app (f1.r 4 yh _ _ hX.app.is.2 hs) ?_);rw[<-htr];have e:i+(tkS F (t.kid 0) 3).length+1+(tkS F (t.kid 1) 4).length=i+((tkS F (t.kid 0) 3).length+((tkS F (t.kid 1) 4).length+1)):=yf;rw[e];exact hr
theorem back12 (hw:WordsOk ws) (hk:t.n.kind=12) (htr:t.tr=mkT (nd0 12) [(t.kid 0).tr,(t.kid 1).tr]) (f0:Full ws F (t.kid 0)) (f1:Full ws F (t.kid 1)):Full ws (F+1) t:=by
 have hT:=tkB12 (f:=F) hk;refine full3 hw yy nk ?_;rw[hT];intro i rest r hX hs hr;simp only[tk12,List.cons_append,List.append_assoc]at hX;simp only[tk12,List.length_cons,List.length_append]at hr;refine f0.a3 i _ r hX (stop_op 4 yn _) (sumL_minus hX.app (f1.r 4 yh _ _ hX.app.is.2 hs) ?_);rw[<-htr];have e:i+(tkS F (t.kid 0) 3).length+1+(tkS F (t.kid 1) 4).length=i+((tkS F (t.kid 0) 3).length+((tkS F (t.kid 1) 4).length+1)):=yf;rw[e];exact hr
theorem back13 (hw:WordsOk ws) (hk:t.n.kind=13) (htr:t.tr=mkT (nd0 13) [(t.kid 0).tr,(t.kid 1).tr]) (f0:Full ws F (t.kid 0)) (f1:Full ws F (t.kid 1)):Full ws (F+1) t:=by
 have hT:=tkB13 (f:=F) hk;refine full4 hw yy (by rw[hT];exact h1_app (f0.b1 4 yh yh)) ?_;rw[hT];intro i rest r hX hs hr;simp only[tk13,List.cons_append,List.append_assoc]at hX;simp only[tk13,List.length_cons,List.length_append]at hr;refine f0.a4 i _ r hX (stop_op 5 yn _) (prodL_star hX.app (f1.r 5 yh _ _ hX.app.is.2 hs) ?_);rw[<-htr];have e:i+(tkS F (t.kid 0) 4).length+1+(tkS F (t.kid 1) 5).length=i+((tkS F (t.kid 0) 4).length+((tkS F (t.kid 1) 5).length+1)):=yf;rw[e];exact hr
theorem back7 (hw:WordsOk ws) (hk:t.n.kind=7) (htr:t.tr=mkT (nd0 7) [(t.kid 0).tr,(t.kid 1).tr]) (f0:Full ws F (t.kid 0)) (f1:Full ws F (t.kid 1)):Full ws (F+1) t:=by
 have hT:=tkB7 (f:=F) hk;refine full5 hw yy (by rw[hT];exact h1_app (f0.b1 5 yh yh)) ?_;rw[hT];intro i rest r hX hs hr;simp only[tk7,List.append_assoc]at hX;simp only[tk7,List.length_append]at hr;refine f0.a5 i _ r hX (stop6 _) (callL_go hX.app (hdB_app f1.b6) (f1.r 6 yh _ _ hX.app (stop6 _)) ?_);rw[<-htr];rw[<-Nat.add_assoc]at hr;exact hr
theorem back14 (hw:WordsOk ws) (hk:t.n.kind=14) (htr:t.tr=mkT (nd0 14) [(t.kid 0).tr,(t.kid 1).tr]) (f0:Full ws F (t.kid 0)) (f1:Full ws F (t.kid 1)):Full ws (F+1) t:=by
 have hT:=tkB14 (f:=F) hk;refine full2 hw yy nk ?_;rw[hT];intro i rest hX hs;simp only[tk14,List.cons_append,List.append_assoc]at hX;simp only[tk14,List.length_cons,List.length_append];refine Ev.step ?_;show Ev (fun F=>bindI (ipz ws F .sum) fun a=>orI ws gEq (bindI (ipz ws F .sum) fun b=>pureI (mkT (nd0 14) [a,b])) (orI ws gLt (bindI (ipz ws F .sum) fun b=>pureI (mkT (nd0 15) [a,b])) (pureI a))) i _;refine Ev.bind (f0.r 3 yh i _ hX (stop_op 3 yn _)) (Ev.seen hX.app (tk_eq 4 gEq) (Ev.bind (f1.r 3 yh _ _ hX.app.is.2 (stop_mono yh hs)) (Ev.const (z52 htr yf))))
theorem back15 (hw:WordsOk ws) (hk:t.n.kind=15) (htr:t.tr=mkT (nd0 15) [(t.kid 0).tr,(t.kid 1).tr]) (f0:Full ws F (t.kid 0)) (f1:Full ws F (t.kid 1)):Full ws (F+1) t:=by
 have hT:=tkB15 (f:=F) hk;refine full2 hw yy nk ?_;rw[hT];intro i rest hX hs;simp only[tk15,List.cons_append,List.append_assoc]at hX;simp only[tk15,List.length_cons,List.length_append];refine Ev.step ?_;show Ev (fun F=>bindI (ipz ws F .sum) fun a=>orI ws gEq (bindI (ipz ws F .sum) fun b=>pureI (mkT (nd0 14) [a,b])) (orI ws gLt (bindI (ipz ws F .sum) fun b=>pureI (mkT (nd0 15) [a,b])) (pureI a))) i _
 refine Ev.bind (f0.r 3 yh i _ hX (stop_op 3 yn _)) (Ev.unseen hX.app (by rw[show ∀l,sg gLt::l=(4,bs gLt)::l from fun _=>rfl,hd_is];decide) (Ev.seen hX.app (tk_eq 4 gLt) (Ev.bind (f1.r 3 yh _ _ hX.app.is.2 (stop_mono yh hs)) (Ev.const (z52 htr yf)))))
theorem back19 (hw:WordsOk ws) (hk:t.n.kind=19) (htr:t.tr=mkT (nd0 19) [(t.kid 0).tr,(t.kid 1).tr]) (f0:Full ws F (t.kid 0)) (f1:Full ws F (t.kid 1)):Full ws (F+1) t:=by
 have hT:=tkB19 (f:=F) hk;refine full1 hw yy (by rw[hT];exact h1_app (f0.b1 2 yh yh)) ?_;rw[hT];intro i rest hX hs;simp only[tk19,List.cons_append,List.append_assoc]at hX;simp only[tk19,List.length_cons,List.length_append];refine Ev.step ?_;show Ev (fun F=>bindI (ipz ws F .comp) fun a=>orI ws gCons (bindI (ipz ws F .cons) fun b=>pureI (mkT (nd0 19) [a,b])) (pureI a)) i _;exact Ev.bind (f0.r 2 yh i _ hX (stop_op 2 yn _)) (Ev.seen hX.app (tk_eq 4 gCons) (Ev.bind (f1.r 1 yh _ _ hX.app.is.2 hs) (Ev.const (z52 htr yf))))
theorem back17 (hw:WordsOk ws) (hk:t.n.kind=17) (htr:t.tr=mkT (nd0 17) [(t.kid 0).tr]) (f0:Full ws F (t.kid 0)):Full ws (F+1) t:=by
 have hT:=tkB17 (f:=F) hk;refine full5 hw yy (by rw[hT];exact Or.inr (Or.inl (tk_eq 3 kFst))) ?_;rw[hT];intro i rest r hX hs hr;simp only[tk17,List.cons_append]at hX;simp only[tk17,List.length_cons]at hr;refine Ev.step ?_
 show Ev (fun F=>bindI (orI ws kFst (bindI (ipz ws F .atom) fun a=>pureI (mkT (nd0 17) [a])) (orI ws kSnd (bindI (ipz ws F .atom) fun a=>pureI (mkT (nd0 18) [a])) (orI ws kPrint (bindI (ipz ws F .atom) fun a=>pureI (mkT (nd0 21) [a])) (orI ws kDo (bindI (nameI ws) fun x=>bindI (ipz ws F .atom) fun a=>pureI (mkT (nd1 22 x) [a])) (ipz ws F .atom))))) fun a=>ipz ws F (.callL a)) i r;refine Ev.bind (a:=mkT (nd0 17) [(t.kid 0).tr]) (Ev.seen hX (tk_eq 3 kFst) (Ev.bind (f0.r 6 yh _ _ hX.is.2 (stop6 _)) (Ev.const rfl))) ?_;rw[<-htr]
 have e:i+1+(tkS F (t.kid 0) 6).length=i+((tkS F (t.kid 0) 6).length+1):=yf;rw[e];exact hr
theorem back18 (hw:WordsOk ws) (hk:t.n.kind=18) (htr:t.tr=mkT (nd0 18) [(t.kid 0).tr]) (f0:Full ws F (t.kid 0)):Full ws (F+1) t:=by
 have hT:=tkB18 (f:=F) hk;refine full5 hw yy (by rw[hT];exact Or.inr (Or.inr (Or.inl (tk_eq 3 kSnd)))) ?_;rw[hT];intro i rest r hX hs hr;simp only[tk18,List.cons_append]at hX;simp only[tk18,List.length_cons]at hr;refine Ev.step ?_
 show Ev (fun F=>bindI (orI ws kFst (bindI (ipz ws F .atom) fun a=>pureI (mkT (nd0 17) [a])) (orI ws kSnd (bindI (ipz ws F .atom) fun a=>pureI (mkT (nd0 18) [a])) (orI ws kPrint (bindI (ipz ws F .atom) fun a=>pureI (mkT (nd0 21) [a])) (orI ws kDo (bindI (nameI ws) fun x=>bindI (ipz ws F .atom) fun a=>pureI (mkT (nd1 22 x) [a])) (ipz ws F .atom))))) fun a=>ipz ws F (.callL a)) i r
 refine Ev.bind (a:=mkT (nd0 18) [(t.kid 0).tr]) (Ev.unseen hX (by rw[show ∀l,kw kSnd::l=(3,bs kSnd)::l from fun _=>rfl,hd_is];decide) (Ev.seen hX (tk_eq 3 kSnd) (Ev.bind (f0.r 6 yh _ _ hX.is.2 (stop6 _)) (Ev.const rfl)))) ?_;rw[<-htr];have e:i+1+(tkS F (t.kid 0) 6).length=i+((tkS F (t.kid 0) 6).length+1):=yf;rw[e];exact hr
theorem back21 (hw:WordsOk ws) (hk:t.n.kind=21) (htr:t.tr=mkT (nd0 21) [(t.kid 0).tr]) (f0:Full ws F (t.kid 0)):Full ws (F+1) t:=by
 have hT:=tkB21 (f:=F) hk;refine full5 hw yy (by rw[hT];exact Or.inr (Or.inr (Or.inr (Or.inl (tk_eq 3 kPrint))))) ?_;rw[hT];intro i rest r hX hs hr;simp only[tk21,List.cons_append]at hX;simp only[tk21,List.length_cons]at hr;refine Ev.step ?_
 show Ev (fun F=>bindI (orI ws kFst (bindI (ipz ws F .atom) fun a=>pureI (mkT (nd0 17) [a])) (orI ws kSnd (bindI (ipz ws F .atom) fun a=>pureI (mkT (nd0 18) [a])) (orI ws kPrint (bindI (ipz ws F .atom) fun a=>pureI (mkT (nd0 21) [a])) (orI ws kDo (bindI (nameI ws) fun x=>bindI (ipz ws F .atom) fun a=>pureI (mkT (nd1 22 x) [a])) (ipz ws F .atom))))) fun a=>ipz ws F (.callL a)) i r;refine Ev.bind (a:=mkT (nd0 21) [(t.kid 0).tr]) (Ev.unseen hX nn (Ev.unseen hX nn (Ev.seen hX (tk_eq 3 kPrint) (Ev.bind (f0.r 6 yh _ _ hX.is.2 (stop6 _)) (Ev.const rfl))))) ?_;rw[<-htr]
 have e:i+1+(tkS F (t.kid 0) 6).length=i+((tkS F (t.kid 0) 6).length+1):=yf;rw[e];exact hr
theorem back22 (hw:WordsOk ws) (hk:t.n.kind=22) (htr:t.tr=mkT (nd1 22 t.n.a) [(t.kid 0).tr]) (f0:Full ws F (t.kid 0)):Full ws (F+1) t:=by
 have hT:=tkB22 (f:=F) hk;refine full5 hw yy (by rw[hT];exact Or.inr (Or.inr (Or.inr (Or.inr (tk_eq 3 kDo))))) ?_;rw[hT];intro i rest r hX hs hr;simp only[tk22,List.cons_append]at hX;simp only[tk22,List.length_cons]at hr;refine Ev.step ?_
 show Ev (fun F=>bindI (orI ws kFst (bindI (ipz ws F .atom) fun a=>pureI (mkT (nd0 17) [a])) (orI ws kSnd (bindI (ipz ws F .atom) fun a=>pureI (mkT (nd0 18) [a])) (orI ws kPrint (bindI (ipz ws F .atom) fun a=>pureI (mkT (nd0 21) [a])) (orI ws kDo (bindI (nameI ws) fun x=>bindI (ipz ws F .atom) fun a=>pureI (mkT (nd1 22 x) [a])) (ipz ws F .atom))))) fun a=>ipz ws F (.callL a)) i r
 refine Ev.bind (a:=mkT (nd1 22 t.n.a) [(t.kid 0).tr]) (Ev.unseen hX np (Ev.unseen hX np (Ev.unseen hX np (Ev.seen hX (tk_eq 3 kDo) (Ev.name hX.is.2 (Ev.bind (f0.r 6 yh _ _ hX.is.2.is.2 (stop6 _)) (Ev.const rfl))))))) ?_;rw[<-htr];have e:i+1+1+(tkS F (t.kid 0) 6).length=i+((tkS F (t.kid 0) 6).length+1+1):=yf;rw[e];exact hr
theorem back6 (hw:WordsOk ws) (hk:t.n.kind=6) (htr:t.tr=mkT (nd1 6 t.n.a) [(t.kid 0).tr]) (f0:Full ws F (t.kid 0)):Full ws (F+1) t:=by
 have hT:=tkB6 (f:=F) hk;refine full0 hw yy ?_ (fun i rest hX=>by rw[hT,tk6,List.cons_append,show ∀l,kw kFn::l=(3,bs kFn)::l from fun _=>rfl,hd_is];decide);rw[hT];intro i rest hX hs;simp only[tk6,List.cons_append]at hX;simp only[tk6,List.length_cons];refine Ev.step ?_;show Ev (fun F=>orI ws kLet (orI ws kRec (recI' ws (ipz ws F)) (letI' ws (ipz ws F))) (orI ws kIf (condI ws (ipz ws F)) (orI ws kFn (fnI ws (ipz ws F)) (orI ws kCase (caseI ws (ipz ws F)) (ipz ws F .cons))))) i _;refine Ev.unseen hX nu (Ev.unseen hX nu (Ev.seen hX (tk_eq 3 kFn) ?_))
 show Ev (fun F=>bindI (nameI ws) fun x=>bindI (takeI ws gTo) fun _=>bindI (ipz ws F .expr) fun a=>pureI (mkT (nd1 6 x) [a])) (i+1) _;exact Ev.name (hX.is.2) (Ev.take (hX.is.2.is.2) (tk_eq 4 gTo) (Ev.bind (f0.r 0 yh _ _ (hX.is.2.is.2.is.2) hs) (Ev.const (z52 htr yf))))
theorem back8 (hw:WordsOk ws) (hk:t.n.kind=8) (htr:t.tr=mkT (nd1 8 t.n.a) [(t.kid 0).tr,(t.kid 1).tr]) (f0:Full ws F (t.kid 0)) (f1:Full ws F (t.kid 1)):Full ws (F+1) t:=by
 have hT:=tkB8 (f:=F) hk;refine full0 hw yy ?_ (fun i rest hX=>by rw[hT,tk8,List.cons_append,show ∀l,kw kLet::l=(3,bs kLet)::l from fun _=>rfl,hd_is];decide);rw[hT];intro i rest hX hs;simp only[tk8,List.cons_append,List.append_assoc]at hX;simp only[tk8,List.length_cons,List.length_append];refine Ev.step ?_;show Ev (fun F=>orI ws kLet (orI ws kRec (recI' ws (ipz ws F)) (letI' ws (ipz ws F))) (orI ws kIf (condI ws (ipz ws F)) (orI ws kFn (fnI ws (ipz ws F)) (orI ws kCase (caseI ws (ipz ws F)) (ipz ws F .cons))))) i _
 refine Ev.seen hX (tk_eq 3 kLet) (Ev.unseen hX.is.2 (hX.is.2.plain hw (by show(2:Int)<3;decide) kRec yh) ?_);show Ev (fun F=>bindI (nameI ws) fun x=>bindI (takeI ws gEq) fun _=>bindI (ipz ws F .expr) fun a=>bindI (takeI ws kIn) fun _=>bindI (ipz ws F .expr) fun b=>pureI (mkT (nd1 8 x) [a,b])) (i+1) _;exact Ev.name (hX.is.2) (Ev.take (hX.is.2.is.2) (tk_eq 4 gEq) (Ev.bind (f0.r 0 yh _ _ (hX.is.2.is.2.is.2) (stop_key 3 yh yh _)) (Ev.take (hX.is.2.is.2.is.2.app) (tk_eq 3 kIn) (Ev.bind (f1.r 0 yh _ _ (hX.is.2.is.2.is.2.app.is.2) hs) (Ev.const (z52 htr yf))))))
theorem back9 (hw:WordsOk ws) (hk:t.n.kind=9) (htr:t.tr=mkT (nd2 9 t.n.a t.n.b) [(t.kid 0).tr,(t.kid 1).tr]) (f0:Full ws F (t.kid 0)) (f1:Full ws F (t.kid 1)):Full ws (F+1) t:=by
 have hT:=tkB9 (f:=F) hk;refine full0 hw yy ?_ (fun i rest hX=>by rw[hT,tk9,List.cons_append,show ∀l,kw kLet::l=(3,bs kLet)::l from fun _=>rfl,hd_is];decide);rw[hT];intro i rest hX hs;simp only[tk9,List.cons_append,List.append_assoc]at hX;simp only[tk9,List.length_cons,List.length_append];refine Ev.step ?_;show Ev (fun F=>orI ws kLet (orI ws kRec (recI' ws (ipz ws F)) (letI' ws (ipz ws F))) (orI ws kIf (condI ws (ipz ws F)) (orI ws kFn (fnI ws (ipz ws F)) (orI ws kCase (caseI ws (ipz ws F)) (ipz ws F .cons))))) i _;refine Ev.seen hX (tk_eq 3 kLet) (Ev.seen hX.is.2 (tk_eq 3 kRec) ?_)
 show Ev (fun F=>bindI (nameI ws) fun f=>bindI (nameI ws) fun x=>bindI (takeI ws gEq) fun _=>bindI (ipz ws F .expr) fun a=>bindI (takeI ws kIn) fun _=>bindI (ipz ws F .expr) fun b=>pureI (mkT (nd2 9 f x) [a,b])) (i+1+1) _;exact Ev.name (hX.is.2.is.2) (Ev.name (hX.is.2.is.2.is.2) (Ev.take (hX.is.2.is.2.is.2.is.2) (tk_eq 4 gEq) (Ev.bind (f0.r 0 yh _ _ (hX.is.2.is.2.is.2.is.2.is.2) (stop_key 3 yh yh _)) (Ev.take (hX.is.2.is.2.is.2.is.2.is.2.app) (tk_eq 3 kIn) (Ev.bind (f1.r 0 yh _ _ (hX.is.2.is.2.is.2.is.2.is.2.app.is.2) hs) (Ev.const (z52 htr yf)))))))
theorem back10 (hw:WordsOk ws) (hk:t.n.kind=10) (htr:t.tr=mkT (nd0 10) [(t.kid 0).tr,(t.kid 1).tr,(t.kid 2).tr]) (f0:Full ws F (t.kid 0)) (f1:Full ws F (t.kid 1)) (f2:Full ws F (t.kid 2)):Full ws (F+1) t:=by
 have hT:=tkB10 (f:=F) hk;refine full0 hw yy ?_ (fun i rest hX=>by rw[hT,tk10,List.cons_append,show ∀l,kw kIf::l=(3,bs kIf)::l from fun _=>rfl,hd_is];decide);rw[hT];intro i rest hX hs;simp only[tk10,List.cons_append,List.append_assoc]at hX;simp only[tk10,List.length_cons,List.length_append];refine Ev.step ?_;show Ev (fun F=>orI ws kLet (orI ws kRec (recI' ws (ipz ws F)) (letI' ws (ipz ws F))) (orI ws kIf (condI ws (ipz ws F)) (orI ws kFn (fnI ws (ipz ws F)) (orI ws kCase (caseI ws (ipz ws F)) (ipz ws F .cons))))) i _
 refine Ev.unseen hX (by rw[show ∀l,kw kIf::l=(3,bs kIf)::l from fun _=>rfl,hd_is];decide) (Ev.seen hX (tk_eq 3 kIf) ?_);show Ev (fun F=>bindI (ipz ws F .expr) fun a=>bindI (takeI ws kThen) fun _=>bindI (ipz ws F .expr) fun b=>bindI (takeI ws kElse) fun _=>bindI (ipz ws F .expr) fun c=>pureI (mkT (nd0 10) [a,b,c])) (i+1) _
 exact Ev.bind (f0.r 0 yh _ _ (hX.is.2) (stop_key 3 yh yh _)) (Ev.take (hX.is.2.app) (tk_eq 3 kThen) (Ev.bind (f1.r 0 yh _ _ (hX.is.2.app.is.2) (stop_key 3 yh yh _)) (Ev.take (hX.is.2.app.is.2.app) (tk_eq 3 kElse) (Ev.bind (f2.r 0 yh _ _ (hX.is.2.app.is.2.app.is.2) hs) (Ev.const (z52 htr yf))))))
theorem back20 (hw:WordsOk ws) (hk:t.n.kind=20) (htr:t.tr=mkT (nd2 20 t.n.a t.n.b) [(t.kid 0).tr,(t.kid 1).tr,(t.kid 2).tr]) (f0:Full ws F (t.kid 0)) (f1:Full ws F (t.kid 1)) (f2:Full ws F (t.kid 2)):Full ws (F+1) t:=by
 have hT:=tkB20 (f:=F) hk;refine full0 hw yy ?_ (fun i rest hX=>by rw[hT,tk20,List.cons_append,show ∀l,kw kCase::l=(3,bs kCase)::l from fun _=>rfl,hd_is];decide);rw[hT];intro i rest hX hs;simp only[tk20,List.cons_append,List.append_assoc]at hX;simp only[tk20,List.length_cons,List.length_append];refine Ev.step ?_;show Ev (fun F=>orI ws kLet (orI ws kRec (recI' ws (ipz ws F)) (letI' ws (ipz ws F))) (orI ws kIf (condI ws (ipz ws F)) (orI ws kFn (fnI ws (ipz ws F)) (orI ws kCase (caseI ws (ipz ws F)) (ipz ws F .cons))))) i _
 refine Ev.unseen hX nw (Ev.unseen hX nw (Ev.unseen hX nw (Ev.seen hX (tk_eq 3 kCase) ?_)));show Ev (fun F=>bindI (ipz ws F .expr) fun a=>bindI (takeI ws kOf) fun _=>bindI (takeI ws kNil) fun _=>bindI (takeI ws gTo) fun _=>bindI (ipz ws F .expr) fun b=>bindI (takeI ws gBar) fun _=>bindI (nameI ws) fun h=>bindI (takeI ws gCons) fun _=>bindI (nameI ws) fun t=>bindI (takeI ws gTo) fun _=>bindI (ipz ws F .expr) fun c=>pureI (mkT (nd2 20 h t) [a,b,c])) (i+1) _
 exact Ev.bind (f0.r 0 yh _ _ (hX.is.2) (stop_key 3 yh yh _)) (Ev.take (hX.is.2.app) (tk_eq 3 kOf) (Ev.take (hX.is.2.app.is.2) (tk_eq 3 kNil) (Ev.take (hX.is.2.app.is.2.is.2) (tk_eq 4 gTo) (Ev.bind (f1.r 0 yh _ _ (hX.is.2.app.is.2.is.2.is.2) (stop_key 4 yh yh _)) (Ev.take (hX.is.2.app.is.2.is.2.is.2.app) (tk_eq 4 gBar) (Ev.name (hX.is.2.app.is.2.is.2.is.2.app.is.2) (Ev.take (hX.is.2.app.is.2.is.2.is.2.app.is.2.is.2) (tk_eq 4 gCons) (Ev.name (hX.is.2.app.is.2.is.2.is.2.app.is.2.is.2.is.2) (Ev.take (hX.is.2.app.is.2.is.2.is.2.app.is.2.is.2.is.2.is.2) (tk_eq 4 gTo) (Ev.bind (f2.r 0 yh _ _ (hX.is.2.app.is.2.is.2.is.2.app.is.2.is.2.is.2.is.2.is.2) hs) (Ev.const (z52 htr yf))))))))))))
theorem back16 (hw:WordsOk ws) (hk:t.n.kind=16) (htr:t.tr=mkT (nd0 16) [(t.kid 0).tr,(t.kid 1).tr]) (f0:Full ws F (t.kid 0)) (f1:Full ws F (t.kid 1)):Full ws (F+1) t:=by
 have hT:=tkB16 (f:=F) hk;refine full6 hw yy (by rw[hT];exact begins_open) ?_;rw[hT];intro i rest hX hs;simp only[tk16,List.cons_append,List.append_assoc,List.nil_append]at hX;simp only[tk16,List.length_cons,List.length_append,List.length_nil];refine Ev.brack hX ?_;show Ev (fun F=>orI ws gShut (pureI (mkT (nd0 3) [])) (bindI (ipz ws F .expr) fun a=>orI ws gComma (bindI (ipz ws F .expr) fun b=>bindI (takeI ws gShut) fun _=>pureI (mkT (nd0 16) [a,b])) (bindI (takeI ws gShut) fun _=>pureI a))) (i+1) _
 exact Ev.unseen hX.is.2 (f0.nr 0 yh _ _ hX.is.2) (Ev.bind (f0.r 0 yh _ _ hX.is.2 (stop_key 4 yh yh _)) (Ev.seen hX.is.2.app (tk_eq 4 gComma) (Ev.bind (f1.r 0 yh _ _ hX.is.2.app.is.2 (stop_key 4 yh yh _)) (Ev.take hX.is.2.app.is.2.app (tk_eq 4 gShut) (Ev.const (z52 htr yf))))))
theorem back3 (hw:WordsOk ws) (hk:t.n.kind=3) (htr:t.tr=mkT (nd0 3) []):Full ws (F+1) t:=by
 have hT:=tkB3 (f:=F) hk;refine full6 hw yy (by rw[hT];exact begins_open) ?_;rw[hT];intro i rest hX hs;simp only[tk3,List.cons_append,List.nil_append]at hX;simp only[tk3,List.length_cons,List.length_nil];refine Ev.brack hX ?_;show Ev (fun F=>orI ws gShut (pureI (mkT (nd0 3) [])) (bindI (ipz ws F .expr) fun a=>orI ws gComma (bindI (ipz ws F .expr) fun b=>bindI (takeI ws gShut) fun _=>pureI (mkT (nd0 16) [a,b])) (bindI (takeI ws gShut) fun _=>pureI a))) (i+1) _;exact Ev.seen hX.is.2 (tk_eq 4 gShut) (Ev.const (z52 htr yf))
theorem Ev.word {x:Tok}(hX:X ws i (x::l)) (hb:beginsT x=true) (h:Ev (fun F=>wordI ws (ipz ws F) ⟨x.1,x.2,0⟩) (i+1) r):Ev (fun F=>ipz ws F .atom) i r:=by
 obtain⟨F0,h0⟩:=h;refine Ev.step ⟨F0,fun F hF=>?_⟩;have e:=hX.is.1;have e1:(curW ws i).kind=x.1:=congrArg Prod.fst e;have e2:(curW ws i).text=x.2:=congrArg Prod.snd e;have e3:wordI ws (ipz ws F) (curW ws i)=wordI ws (ipz ws F) ⟨x.1,x.2,0⟩:=by
  unfold wordI;rw[e1,e2]
 show atomI ws (ipz ws F) i=_;unfold atomI;rw[if_pos (by rw[hX.starts];exact hb),e3];exact h0 F hF
theorem digit_num:∀d:Nat,d<10->(UInt8.ofNat (48+d)).toNat-48=d:=yh
theorem numZ_digits:∀n:Nat,numZ (Lib.decDigits n)=n
 | n=>by
   rw[Lib.decDigits];split
   .rename_i h;show 10*0+((UInt8.ofNat (48+n)).toNat-48)=n;rw[digit_num n h];omega
   .have ih:=numZ_digits (n/10);unfold numZ at ih |-;rw[List.foldl_append,ih];show 10*(n/10)+((UInt8.ofNat (48+n % 10)).toNat-48)=n;rw[digit_num (n % 10) yf];omega
termination_by n=>n
decreasing_by omega
theorem numZ_itoa {n:Int}(h:0<=n):((numZ (Lib.itoa n):Nat):Int)=n:=by
 unfold Lib.itoa;rw[if_neg yf,numZ_digits];omega
theorem back1 (hw:WordsOk ws) (hk:t.n.kind=1) (h0:0<=t.n.num) (htr:t.tr=mkT (ndN 1 t.n.num) []):Full ws (F+1) t:=by
 have hT:=tkB1 (f:=F) hk;have hb:beginsT (nuT t.n.num)=true:=by simp[beginsT,begins,nuT]
 refine zb59 ?_;unhygienic intros
 refine Ev.word hX hb ⟨0,fun F _=>?_⟩;simp only[wordI,nuT];show(Except.ok (mkT (ndN 1 (numZ (bs (Lib.itoa t.n.num)).toList)) [],i+1):Except Nat (Tr×Nat))=_;rw[z58,numZ_itoa h0];exact z52 htr rfl
theorem back2 (hw:WordsOk ws) (hk:t.n.kind=2) (h0:t.n.num=0\/t.n.num=1) (htr:t.tr=mkT (ndN 2 t.n.num) []):Full ws (F+1) t:=by
 have hT:=tkB2 (f:=F) hk;rcases h0 with h0|h0
 .rw[h0,if_pos rfl]at hT;rw[h0]at htr;have hb:beginsT (kw kFalse)=true:=ny;refine zb59 ?_;unhygienic intros
  refine Ev.word hX hb ⟨0,fun F _=>?_⟩;simp only[wordI,kw,z58];rw[if_neg yh,if_neg yh,if_pos yh];exact z52 htr rfl
 .rw[h0,if_neg yh]at hT;rw[h0]at htr;have hb:beginsT (kw kTrue)=true:=ny;refine full6 hw yy yz ?_;rw[hT];intro i rest hX hs;simp only[List.cons_append,List.nil_append]at hX;refine Ev.word hX hb ⟨0,fun F _=>?_⟩;simp only[wordI,kw,z58];rw[if_neg yh,if_pos yh];exact z52 htr rfl
theorem back4 (hw:WordsOk ws) (hk:t.n.kind=4) (htr:t.tr=mkT (nd0 4) []):Full ws (F+1) t:=by
 have hT:tkB (F+1) t= [kw kNil]:=tkB4 (f:=F) hk;have hb:beginsT (kw kNil)=true:=ny;refine zb59 ?_;unhygienic intros
 refine Ev.word hX hb ⟨0,fun F _=>?_⟩;simp only[wordI,kw,z58];rw[if_neg yh,if_neg yh,if_neg yh,if_pos yh];exact z52 htr rfl
theorem back5 (hw:WordsOk ws) (hk:t.n.kind=5) (htr:t.tr=mkT (nd1 5 t.n.a) []):Full ws (F+1) t:=by
 have hT:tkB (F+1) t= [nmT t.n.a]:=tkB5 (f:=F) hk;have hb:beginsT (nmT t.n.a)=true:=by simp[beginsT,begins,nmT]
 refine zb59 ?_;unhygienic intros
 refine Ev.word hX hb ⟨0,fun F _=>?_⟩;simp only[wordI,nmT];exact z52 htr rfl
def OpOk (ws:List Wd) (F:Nat) (c:Tp):Prop:=c.tr=mkT (nd3 26 c.n.a c.n.b c.n.c) [(c.kid 0).tr]/\Full ws F (c.kid 0)
theorem ops_stop (l:List Tp) (go:Tp->Nat->List Tok) (rest:List Tok):stop 0 (l.flatMap (tkOp go)++(kw kEnd::rest))=true:=by
 cases l with
 |nil=>exact stop_key 3 yh yh _
 |cons c l=>exact stop_key 4 yh yh _
theorem opsL_go {k:Int}:∀(l:List Tp) (ks:List Tr) (i:Nat) (rest:List Tok),X ws i (l.flatMap (tkOp (tkS F))++(kw kEnd::rest))->(∀c∈l,OpOk ws F c)->Ev (fun f=>ipz ws f (.opsL k ks)) i (mkT (nd0 k) (ks++l.map Tp.tr),i+(l.flatMap (tkOp (tkS F))).length+1)
 | [],ks,i,rest,hX,_=>by
   refine Ev.step ?_;show Ev (fun F=>orI ws gBar (bindI (nameI ws) fun a=>bindI (nameI ws) fun b=>bindI (nameI ws) fun c=>bindI (takeI ws gTo) fun _=>bindI (ipz ws F .expr) fun e=>ipz ws F (.opsL k (ks++ [mkT (nd3 26 a b c) [e]]))) (bindI (takeI ws kEnd) fun _=>pureI (mkT (nd0 k) ks))) i _;refine Ev.unseen hX (by show hd ((3,bs kEnd)::rest) gBar=false;rw[hd_is];decide) (Ev.take hX (tk_eq 3 kEnd) (Ev.const ?_));exact z52 (by rw[List.map_nil,List.append_nil]) rfl
 | c::l,ks,i,rest,hX,h=>by
   obtain⟨htr,f⟩:=h c List.mem_cons_self;have hX0:X ws i (sg gBar::nmT c.n.a::nmT c.n.b::nmT c.n.c::sg gTo::(tkS F (c.kid 0) 0++(l.flatMap (tkOp (tkS F))++(kw kEnd::rest)))):=by
    rw[List.flatMap_cons,List.append_assoc]at hX;exact hX
   have hX5:=hX0.is.2.is.2.is.2.is.2.is.2;have ih:=opsL_go (k:=k) l (ks++ [mkT (nd3 26 c.n.a c.n.b c.n.c) [(c.kid 0).tr]]) _ rest hX5.app (fun x hx=>h x (List.mem_cons_of_mem _ hx));refine Ev.step ?_;show Ev (fun F=>orI ws gBar (bindI (nameI ws) fun a=>bindI (nameI ws) fun b=>bindI (nameI ws) fun c=>bindI (takeI ws gTo) fun _=>bindI (ipz ws F .expr) fun e=>ipz ws F (.opsL k (ks++ [mkT (nd3 26 a b c) [e]]))) (bindI (takeI ws kEnd) fun _=>pureI (mkT (nd0 k) ks))) i _
   refine Ev.seen hX0 (tk_eq 4 gBar) (Ev.name hX0.is.2 (Ev.name hX0.is.2.is.2 (Ev.name hX0.is.2.is.2.is.2 (Ev.take hX0.is.2.is.2.is.2.is.2 (tk_eq 4 gTo) (Ev.bind (f.r 0 yh _ _ hX5 (ops_stop l _ rest)) ?_)))));have e1:mkT (nd0 k) (ks++ [mkT (nd3 26 c.n.a c.n.b c.n.c) [(c.kid 0).tr]]++l.map Tp.tr)=mkT (nd0 k) (ks++(c::l).map Tp.tr):=by rw[List.map_cons,htr,List.append_assoc];rfl
   have e2:i+1+1+1+1+1+(tkS F (c.kid 0) 0).length+(l.flatMap (tkOp (tkS F))).length+1=i+((c::l).flatMap (tkOp (tkS F))).length+1:=by
    rw[List.flatMap_cons,List.length_append];simp only[tkOp,List.length_cons];omega
   rw[e1,e2]at ih;exact ih
theorem backH (hw:WordsOk ws) (hk:t.n.kind=23\/t.n.kind=24) (htr:t.tr=mkT (nd0 t.n.kind) ((t.kid 0).tr::(t.kid 1).tr::(t.kids.drop 2).map Tp.tr)) (h1t:(t.kid 1).tr=mkT (nd1 25 (t.kid 1).n.a) [((t.kid 1).kid 0).tr]) (f0:Full ws F (t.kid 0)) (f1:Full ws F ((t.kid 1).kid 0)) (ho:∀c∈t.kids.drop 2,OpOk ws F c):Full ws (F+1) t:=by
 have hT:=tkBH (f:=F) hk;have hb:beginsT (kw (if t.n.kind=24 then kShallow else kHandle))=true:=by
  split<;>simp[beginsT,begins,kw,z58]
 refine full6 hw (by rcases hk with hk|hk<;>rw[hk]<;>decide) yz ?_
 rw[hT];intro i rest hX hs;simp only[tkH,List.cons_append,List.append_assoc,List.nil_append]at hX;have hX1:=hX.is.2;have hX2:=hX1.app;have hX6:=hX2.is.2.is.2.is.2.is.2;have hX7:=hX6.app;have hand:Ev (fun f=>ipz ws f (.hand t.n.kind)) (i+1) (t.tr,i+(tkH (tkS F) t).length):=by
  refine Ev.step ?_;show Ev (fun F=>bindI (ipz ws F .expr) fun a=>bindI (takeI ws kWith) fun _=>bindI (takeI ws kRet) fun _=>bindI (nameI ws) fun x=>bindI (takeI ws gTo) fun _=>bindI (ipz ws F .expr) fun b=>ipz ws F (.opsL t.n.kind [a,mkT (nd1 25 x) [b]])) (i+1) _;refine Ev.bind (f0.r 0 yh _ _ hX1 (stop_key 3 yh yh _)) (Ev.take hX2 (tk_eq 3 kWith) (Ev.take hX2.is.2 (tk_eq 3 kRet) (Ev.name hX2.is.2.is.2 (Ev.take hX2.is.2.is.2.is.2 (tk_eq 4 gTo) (Ev.bind (f1.r 0 yh _ _ hX6 (ops_stop _ _ rest)) ?_)))))
  have h:=opsL_go (k:=t.n.kind) (t.kids.drop 2) [(t.kid 0).tr,mkT (nd1 25 (t.kid 1).n.a) [((t.kid 1).kid 0).tr]] _ rest hX7 ho;have e1:mkT (nd0 t.n.kind) ([(t.kid 0).tr,mkT (nd1 25 (t.kid 1).n.a) [((t.kid 1).kid 0).tr]]++(t.kids.drop 2).map Tp.tr)=t.tr:=by rw[htr,h1t];rfl
  have e2:i+1+(tkS F (t.kid 0) 0).length+1+1+1+1+(tkS F ((t.kid 1).kid 0) 0).length+((t.kids.drop 2).flatMap (tkOp (tkS F))).length+1=i+(tkH (tkS F) t).length:=by
   simp only[tkH,List.length_cons,List.length_append,List.length_nil];omega
  rw[e1,e2]at h;exact h
 refine Ev.word hX hb ?_;rcases hk with hk|hk
 .rw[hk]at hand;rw[hk];obtain⟨F0,h0⟩:=hand;refine⟨F0,fun F hF=>?_⟩;rw[if_neg yh];simp only[wordI,kw,z58];(iterate 4 rw[if_neg yh]);rw[if_pos yh];exact h0 F hF
 .rw[hk]at hand;rw[hk];obtain⟨F0,h0⟩:=hand;refine⟨F0,fun F hF=>?_⟩;rw[if_pos rfl];simp only[wordI,kw,z58];(iterate 5 rw[if_neg yh]);rw[if_pos yh];exact h0 F hF
end
theorem stands_own {t:Tp}(h:Stands ns t) (hn:∀m∈ns,ownOk m=true):ownOk t.n=true:=by
 obtain⟨suf,hd⟩:=h.drop;refine hn _ (List.mem_of_mem_drop (i:=t.at_) ?_);rw[hd];exact List.mem_cons_self
theorem clause25 {t:Tp}(h:Sk t) (hk:t.n.kind=23\/t.n.kind=24) (hj:1<t.k.count):(t.kid 1).n.kind=25:=by
 have h2:=(kids_role t.k t.n.kind 0 (t.at_+1) [] 1 h hj).1;rw[Nat.zero_add]at h2;unfold headOk at h2;simp only[Bool.and_eq_true]at h2;have hr:role t.n.kind 1=1:=by unfold role;rw[if_pos hk];rfl
 have:=h2.1.1;rw[hr]at this;simpa[Tp.kid,Tp.kids]using this
theorem clause26 {t:Tp}(h:Sk t) (hk:t.n.kind=23\/t.n.kind=24) (hj:j<t.k.count) (h1:2<=j):(t.kid j).n.kind=26:=by
 have h2:=(kids_role t.k t.n.kind 0 (t.at_+1) [] j h hj).1;rw[Nat.zero_add]at h2;unfold headOk at h2;simp only[Bool.and_eq_true]at h2;have hr:role t.n.kind j=2:=by unfold role;rw[if_pos hk];split<;>omega
 have:=h2.1.2;rw[hr]at this;simpa[Tp.kid,Tp.kids]using this
theorem tr_of {t:Tp}{num:Int}{a b c:ByteArray}{l:List Tp}(hg:Good t) (hk:t.kids=l) (h1:t.n.kind=k) (h2:t.n.num=num) (h3:t.n.a=a) (h4:t.n.b=b) (h5:t.n.c=c):t.tr=mkT ⟨k,num,a,b,c,0⟩ (l.map Tp.tr):=
 tr_kids (nd_is h1 h2 h3 h4 h5 (by rw[t.kids_len];exact hg.kids)) hk
theorem no_kids {t:Tp}(h:t.k.count=0):t.kids= []:=Lk (kids_of t h)
theorem back_all {ws:List Wd}(hw:WordsOk ws) (hn:∀m∈ns,ownOk m=true):∀F t,t.size<=F->Stands ns t->Ex t->Full ws F t:=by
 intro F;induction F with
 |zero=>exact fun t h=>jn
 | succ F ih=>
   intro t hF hs hx;have hg:=hs.toGood;obtain⟨pa,pb,pc',p0,p1⟩:=own_parts (stands_own hs hn);have nz:mostZ t.n.kind=0->t.n.num=0:=fun e=>yf
   by_cases k1:t.n.kind=1
   .have hc:=z19 hg k1 (c:=0) rfl;have htr:=tr_of hg (no_kids hc) k1 rfl (pa (by rw[k1];decide)) (pb (by rw[k1];decide)) (pc' (by rw[k1];decide));exact back1 hw k1 p0 htr
   by_cases k2:t.n.kind=2
   .have hc:=z19 hg k2 (c:=0) rfl;have htr:=tr_of hg (no_kids hc) k2 rfl (pa (by rw[k2];decide)) (pb (by rw[k2];decide)) (pc' (by rw[k2];decide));exact back2 hw k2 (by rw[k2,show mostZ 2=1 by decide]at p1;omega) htr
   by_cases k3:t.n.kind=3
   .have hc:=z19 hg k3 (c:=0) rfl;have htr:=tr_of hg (no_kids hc) k3 (nz yaa) (pa yaa) (pb yaa) (pc' yaa);exact back3 hw k3 htr
   by_cases k4:t.n.kind=4
   .have hc:=z19 hg k4 (c:=0) rfl;have htr:=tr_of hg (no_kids hc) k4 (nz yab) (pa yab) (pb yab) (pc' yab);exact back4 hw k4 htr
   by_cases k5:t.n.kind=5
   .have hc:=z19 hg k5 (c:=0) rfl;have htr:=tr_of hg (no_kids hc) k5 (nz yac) rfl (pb yac) (pc' yac);exact back5 hw k5 htr
   by_cases k6:t.n.kind=6
   .have hc:=z19 hg k6 (c:=1) rfl;have e1:=(kids1 hc).2;have htr:=tr_of hg (kids1 hc).1 k6 (nz yad) rfl (pb yad) (pc' yad);have f0:=ih (t.kid 0) yf (hs.kid yf) (hx.1.ex yf (z14 yf _));exact back6 hw k6 htr f0
   by_cases k7:t.n.kind=7
   .have hc:=z19 hg k7 (c:=2) rfl;have e1:=(kids2 hc).2;have htr:=tr_of hg (kids2 hc).1 k7 (nz yae) (pa yae) (pb yae) (pc' yae);have f0:=ih (t.kid 0) yf (hs.kid yf) (hx.1.ex yf (z14 yf _));have f1:=ih (t.kid 1) yf (hs.kid yf) (hx.1.ex yf (z14 yf _));exact back7 hw k7 htr f0 f1
   by_cases k8:t.n.kind=8
   .have hc:=z19 hg k8 (c:=2) rfl;have e1:=(kids2 hc).2;have htr:=tr_of hg (kids2 hc).1 k8 (nz yaf) rfl (pb yaf) (pc' yaf);have f0:=ih (t.kid 0) yf (hs.kid yf) (hx.1.ex yf (z14 yf _));have f1:=ih (t.kid 1) yf (hs.kid yf) (hx.1.ex yf (z14 yf _));exact back8 hw k8 htr f0 f1
   by_cases k9:t.n.kind=9
   .have hc:=z19 hg k9 (c:=2) rfl;have e1:=(kids2 hc).2;have htr:=tr_of hg (kids2 hc).1 k9 (nz yag) rfl rfl (pc' yag);have f0:=ih (t.kid 0) yf (hs.kid yf) (hx.1.ex yf (z14 yf _));have f1:=ih (t.kid 1) yf (hs.kid yf) (hx.1.ex yf (z14 yf _));exact back9 hw k9 htr f0 f1
   by_cases k10:t.n.kind=10
   .have hc:=z19 hg k10 (c:=3) rfl;have e1:=(kids3 hc).2;have htr:=tr_of hg (kids3 hc).1 k10 (nz yah) (pa yah) (pb yah) (pc' yah);have f0:=ih (t.kid 0) yf (hs.kid yf) (hx.1.ex yf (z14 yf _));have f1:=ih (t.kid 1) yf (hs.kid yf) (hx.1.ex yf (z14 yf _));have f2:=ih (t.kid 2) yf (hs.kid yf) (hx.1.ex yf (z14 yf _));exact back10 hw k10 htr f0 f1 f2
   by_cases k11:t.n.kind=11
   .have hc:=z19 hg k11 (c:=2) rfl;have e1:=(kids2 hc).2;have htr:=tr_of hg (kids2 hc).1 k11 (nz yai) (pa yai) (pb yai) (pc' yai);have f0:=ih (t.kid 0) yf (hs.kid yf) (hx.1.ex yf (z14 yf _));have f1:=ih (t.kid 1) yf (hs.kid yf) (hx.1.ex yf (z14 yf _));exact back11 hw k11 htr f0 f1
   by_cases k12:t.n.kind=12
   .have hc:=z19 hg k12 (c:=2) rfl;have e1:=(kids2 hc).2;have htr:=tr_of hg (kids2 hc).1 k12 (nz yaj) (pa yaj) (pb yaj) (pc' yaj);have f0:=ih (t.kid 0) yf (hs.kid yf) (hx.1.ex yf (z14 yf _));have f1:=ih (t.kid 1) yf (hs.kid yf) (hx.1.ex yf (z14 yf _));exact back12 hw k12 htr f0 f1
   by_cases k13:t.n.kind=13
   .have hc:=z19 hg k13 (c:=2) rfl;have e1:=(kids2 hc).2;have htr:=tr_of hg (kids2 hc).1 k13 (nz yak) (pa yak) (pb yak) (pc' yak);have f0:=ih (t.kid 0) yf (hs.kid yf) (hx.1.ex yf (z14 yf _));have f1:=ih (t.kid 1) yf (hs.kid yf) (hx.1.ex yf (z14 yf _));exact back13 hw k13 htr f0 f1
   by_cases k14:t.n.kind=14
   .have hc:=z19 hg k14 (c:=2) rfl;have e1:=(kids2 hc).2;have htr:=tr_of hg (kids2 hc).1 k14 (nz yal) (pa yal) (pb yal) (pc' yal);have f0:=ih (t.kid 0) yf (hs.kid yf) (hx.1.ex yf (z14 yf _));have f1:=ih (t.kid 1) yf (hs.kid yf) (hx.1.ex yf (z14 yf _));exact back14 hw k14 htr f0 f1
   by_cases k15:t.n.kind=15
   .have hc:=z19 hg k15 (c:=2) rfl;have e1:=(kids2 hc).2;have htr:=tr_of hg (kids2 hc).1 k15 (nz yam) (pa yam) (pb yam) (pc' yam);have f0:=ih (t.kid 0) yf (hs.kid yf) (hx.1.ex yf (z14 yf _));have f1:=ih (t.kid 1) yf (hs.kid yf) (hx.1.ex yf (z14 yf _));exact back15 hw k15 htr f0 f1
   by_cases k19:t.n.kind=19
   .have hc:=z19 hg k19 (c:=2) rfl;have e1:=(kids2 hc).2;have htr:=tr_of hg (kids2 hc).1 k19 (nz yan) (pa yan) (pb yan) (pc' yan);have f0:=ih (t.kid 0) yf (hs.kid yf) (hx.1.ex yf (z14 yf _));have f1:=ih (t.kid 1) yf (hs.kid yf) (hx.1.ex yf (z14 yf _));exact back19 hw k19 htr f0 f1
   by_cases k16:t.n.kind=16
   .have hc:=z19 hg k16 (c:=2) rfl;have e1:=(kids2 hc).2;have htr:=tr_of hg (kids2 hc).1 k16 (nz yao) (pa yao) (pb yao) (pc' yao);have f0:=ih (t.kid 0) yf (hs.kid yf) (hx.1.ex yf (z14 yf _));have f1:=ih (t.kid 1) yf (hs.kid yf) (hx.1.ex yf (z14 yf _));exact back16 hw k16 htr f0 f1
   by_cases k17:t.n.kind=17
   .have hc:=z19 hg k17 (c:=1) rfl;have e1:=(kids1 hc).2;have htr:=tr_of hg (kids1 hc).1 k17 (nz yap) (pa yap) (pb yap) (pc' yap);have f0:=ih (t.kid 0) yf (hs.kid yf) (hx.1.ex yf (z14 yf _));exact back17 hw k17 htr f0
   by_cases k18:t.n.kind=18
   .have hc:=z19 hg k18 (c:=1) rfl;have e1:=(kids1 hc).2;have htr:=tr_of hg (kids1 hc).1 k18 (nz yaq) (pa yaq) (pb yaq) (pc' yaq);have f0:=ih (t.kid 0) yf (hs.kid yf) (hx.1.ex yf (z14 yf _));exact back18 hw k18 htr f0
   by_cases k21:t.n.kind=21
   .have hc:=z19 hg k21 (c:=1) rfl;have e1:=(kids1 hc).2;have htr:=tr_of hg (kids1 hc).1 k21 (nz yar) (pa yar) (pb yar) (pc' yar);have f0:=ih (t.kid 0) yf (hs.kid yf) (hx.1.ex yf (z14 yf _));exact back21 hw k21 htr f0
   by_cases k22:t.n.kind=22
   .have hc:=z19 hg k22 (c:=1) rfl;have e1:=(kids1 hc).2;have htr:=tr_of hg (kids1 hc).1 k22 (nz yas) rfl (pb yas) (pc' yas);have f0:=ih (t.kid 0) yf (hs.kid yf) (hx.1.ex yf (z14 yf _));exact back22 hw k22 htr f0
   by_cases k20:t.n.kind=20
   .have hc:=z19 hg k20 (c:=3) rfl;have e1:=(kids3 hc).2;have htr:=tr_of hg (kids3 hc).1 k20 (nz yat) rfl rfl (pc' yat);have f0:=ih (t.kid 0) yf (hs.kid yf) (hx.1.ex yf (z14 yf _));have f1:=ih (t.kid 1) yf (hs.kid yf) (hx.1.ex yf (z14 yf _));have f2:=ih (t.kid 2) yf (hs.kid yf) (hx.1.ex yf (z14 yf _));exact back20 hw k20 htr f0 f1 f2
   have hh:t.n.kind=23\/t.n.kind=24:=by
    have h1:=(arity_at hg).1;have h2:=kinds t.n.kind;have h3:=hx.2;by_cases h4:t.n.kind<1\/26<t.n.kind
    .exact absurd (tab_other h4) h1
    .omega
   have hc:=((arity_at hg).2.1 jo).1;have hm:=kidsM hc;have hd:=hs.head hh;have hd1:=(hd (t.kid 1) (by rw[hm.1];simp)).2;have e1:=(kids1 hd1).2;have hs1:=hs.kid (i:=1) yf;have f0:=ih (t.kid 0) yf (hs.kid yf) (hx.1.ex yf (role_first _));have f1:=ih ((t.kid 1).kid 0) yf (hs1.kid yf) (clause_ex hx.1 yf hd1);obtain⟨qa,qb,qc,q0,q1⟩:=own_parts (stands_own hs1 hn);have c25:=clause25 hx.1 hh yf;have h1t:=tr_of (num:=0) hs1.toGood (kids1 hd1).1 c25 (by rw[c25,show mostZ 25=0 by decide]at q1;omega) rfl (qb (by rw[c25];decide)) (qc (by rw[c25];decide))
   have htr:=tr_of hg hm.1 rfl (nz yau) (pa yau) (pb yau) (pc' yau);refine backH hw hh htr h1t f0 f1 (fun c hc2=>?_);have hs4:=sum_mem _ c hc2;have hc3:c∈t.kids.drop 1:=by
    rw[show(2:Nat)=1+1 from rfl,<-List.drop_drop]at hc2;exact List.mem_of_mem_drop hc2
   obtain⟨j,hj,rfl⟩:=List.getElem_of_mem hc2;have hlen:(t.kids.drop 2).length=t.k.count-2:=jp;have hjk:(t.kids.drop 2)[j]=t.kid (2+j):=by
    unfold Tp.kid;simp[List.getD,show 2+j<t.kids.length by rw[t.kids_len];omega]
   rw[hjk]at hs4 hc3 |-;have h7:=(hd _ hc3).2;have hsj:=hs.kid (i:=2+j) yf;have e7:=(kids1 h7).2;have c26:=clause26 hx.1 hh (j:=2+j) yf yf;obtain⟨ra,rb,rc,r0,r1⟩:=own_parts (stands_own hsj hn);exact⟨tr_of (num:=0) hsj.toGood (kids1 h7).1 c26 (by rw[c26,show mostZ 26=0 by decide]at r1;omega) rfl rfl rfl,ih ((t.kid (2+j)).kid 0) yf (hsj.kid yf) (clause_ex hx.1 yf h7)⟩
theorem tree_back {ws:List Wd}(hw:WordsOk ws) (hn:∀m∈ns,ownOk m=true) {t:Tp}{F:Nat}(hF:t.size<=F) (hs:Stands ns t) (hx:Ex t) (hX:X ws i (tkS F t 0)):ipz ws (16*ws.length+11) .expr i=.ok (t.tr,i+(tkS F t 0).length):=by
 have hX':X ws i (tkS F t 0++ []):=by rw[List.append_nil];exact hX
 have h:=(back_all hw hn F t hF hs hx).r 0 yh i [] hX' rfl;have hl:i+(tkS F t 0).length<=ws.length\/(tkS F t 0).length=0:=by
  have h2:=congrArg List.length hX;rw[List.length_map,List.length_drop]at h2;omega
 refine Ev.fuel h ?_;show 16*(i+(tkS F t 0).length-i)+10<=_;omega
theorem own_names (h:ownOk m=true):(1<=namesZ m.kind->nameOk m.a=true)/\(2<=namesZ m.kind->nameOk m.b=true)/\(3<=namesZ m.kind->nameOk m.c=true):=by
 simp only[ownOk,namesOk,fit,Bool.and_eq_true]at h;obtain⟨-,⟨ha,hb,hc⟩,-,-⟩:=h;refine⟨fun e=>?_,fun e=>?_,fun e=>?_⟩
 .rwa[if_pos yf]at ha
 .rwa[if_pos yf]at hb
 .rwa[if_pos yf]at hc
theorem digits_len:∀(k n:Nat),1<=k->n<10 ^ k->(Lib.decDigits n).length<=k
 |0,_,h,_=>absurd h yh
 | k+1,n,_,h=>by
   rw[Lib.decDigits];split
   .simp
   ·rename_i hn;have hk:1<=k:=by
     cases k with
     |zero=>simp at h;omega
     |succ k=>omega
    have:=digits_len k (n/10) hk (by rw[Nat.pow_succ]at h;omega);rw[List.length_append];simp only[List.length_cons,List.length_nil];omega
theorem itoa_len9 {n:Int}(h0:0<=n) (h1:n<=999999999):(Lib.itoa n).length<=9:=by
 unfold Lib.itoa;rw[if_neg yf];exact digits_len 9 n.toNat yh yf
theorem Lx.brZ {L:Nat}{l:List UInt8}{ts:List Tok}(h:Lx l ts):Lx (Go.Proofs.YtfbojelpdccjaaaGreatDoor.brZ k (L:Int) l) (tkBr k L ts):=by
 unfold Go.Proofs.YtfbojelpdccjaaaGreatDoor.brZ tkBr;rw[lv_same];split
 .exact h.br
 .exact h
theorem opT_lx {c:Tp}{X:List UInt8}{ts:List Tok}(na:nameOk c.n.a=true) (nb:nameOk c.n.b=true) (nc:nameOk c.n.c=true) (h:Lx X ts):Lx (opT c X) (sg gBar::nmT c.n.a::nmT c.n.b::nmT c.n.c::sg gTo::ts):=by
 have e:opT c X= [32]++([124,32]++(c.n.a.data.toList++([32]++(c.n.b.data.toList++([32]++(c.n.c.data.toList++([32]++([45,62,32]++X)))))))):=by simp[opT]
 rw[e];exact LxA.app LxA.blank (LxA.app (LxA.signB (g:=gBar) yh) (Lx.app (Lx.name na) (LxA.app LxA.blank (Lx.app (Lx.name nb) (LxA.app LxA.blank (Lx.app (Lx.name nc) (LxA.app LxA.blank (LxA.app (LxA.signB (g:=gTo) yh) h)) rfl)) rfl)) rfl))
theorem ops_lx {F:Nat}:∀(l:List Tp) (T:List UInt8) (ts:List Tok),Lx T ts->(∀c∈l,(nameOk c.n.a=true/\nameOk c.n.b=true/\nameOk c.n.c=true)/\Lx (showZ F (c.kid 0) 0) (tkS F (c.kid 0) 0))->Lx (l.foldl (fun T c=>T++opT c (showZ F (c.kid 0) 0)) T) (ts++l.flatMap (tkOp (tkS F)))
 | [],T,ts,h,_=>by
   rw[List.flatMap_nil,List.append_nil];exact h
 | c::l,T,ts,h,hl=>by
   obtain⟨⟨na,nb,nc⟩,hc⟩:=hl c List.mem_cons_self;have:=ops_lx l _ _ (h.app (opT_lx na nb nc hc) rfl) (fun x hx=>hl x (List.mem_cons_of_mem _ hx));rw[List.append_assoc]at this;rw[List.flatMap_cons];exact this
theorem lex_all (hn:∀m∈ns,ownOk m=true):∀F,(∀(t:Tp) (L:Nat),t.size<=F->Stands ns t->Ex t->Lx (showZ F t (L:Int)) (tkS F t L))/\ ∀t:Tp,t.size<=F->Stands ns t->Ex t->Lx (bareZ F t) (tkB F t):=by
 intro F;induction F with
 |zero=>exact⟨fun t _ h=>jn,fun t h=>jn⟩
 | succ F ih=>
   have key:∀t:Tp,t.size<=F+1->Stands ns t->Ex t->Lx (bareZ (F+1) t) (tkB (F+1) t):=by
    intro t hF hs hx;have hg:=hs.toGood;have ho:=stands_own hs hn;obtain⟨oa,ob,-⟩:=own_names ho;obtain⟨-,-,-,p0,p1⟩:=own_parts ho;by_cases k1:t.n.kind=1
    .rw[bare1 k1,tkB1 k1];rw[k1,show mostZ 1=999999999 by decide]at p1;exact Lx.number p0 (itoa_len9 p0 p1)
    by_cases k2:t.n.kind=2
    .rw[bare2 k2,tkB2 k2];split
     .exact Lx.key (k:=kFalse) yh
     .exact Lx.key (k:=kTrue) yh
    by_cases k3:t.n.kind=3
    .rw[bare3 k3,tkB3 k3];have e:text3 (showZ F) t= [40]++([41]):=by simp[text3]
     rw[e];exact(LxA.app LxA.opened (Lx.sign (g:=gShut) yh))
    by_cases k4:t.n.kind=4
    .rw[bare4 k4,tkB4 k4];exact(Lx.key (k:=kNil) yh)
    by_cases k5:t.n.kind=5
    .rw[bare5 k5,tkB5 k5];have na:=oa yac;exact(Lx.name na)
    by_cases k6:t.n.kind=6
    .rw[bare6 k6,tkB6 k6];have hc:=z19 hg k6 (c:=1) rfl;have e1:=(kids1 hc).2;have g0:=ih.1 (t.kid 0) 0 yf (hs.kid yf) (hx.1.ex yf (z14 yf _));have na:=oa yad;have e:text6 (showZ F) t= [102,110,32]++(t.n.a.data.toList++([32]++([45,62,32]++(showZ F (t.kid 0) 0)))):=by simp[text6]
     rw[e];exact(LxA.app (LxA.keyB (k:=kFn) yh) (Lx.app (Lx.name na) (LxA.app LxA.blank (LxA.app (LxA.signB (g:=gTo) yh) g0)) rfl))
    by_cases k7:t.n.kind=7
    .rw[bare7 k7,tkB7 k7];have hc:=z19 hg k7 (c:=2) rfl;have e1:=(kids2 hc).2;have g0:=ih.1 (t.kid 0) 5 yf (hs.kid yf) (hx.1.ex yf (z14 yf _));have g1:=ih.1 (t.kid 1) 6 yf (hs.kid yf) (hx.1.ex yf (z14 yf _));have e:text7 (showZ F) t=showZ F (t.kid 0) 5++([32]++(showZ F (t.kid 1) 6)):=by simp[text7]
     rw[e];exact(Lx.app g0 (LxA.app LxA.blank g1) rfl)
    by_cases k8:t.n.kind=8
    .rw[bare8 k8,tkB8 k8];have hc:=z19 hg k8 (c:=2) rfl;have e1:=(kids2 hc).2;have g0:=ih.1 (t.kid 0) 0 yf (hs.kid yf) (hx.1.ex yf (z14 yf _));have g1:=ih.1 (t.kid 1) 0 yf (hs.kid yf) (hx.1.ex yf (z14 yf _));have na:=oa yaf;have e:text8 (showZ F) t= [108,101,116,32]++(t.n.a.data.toList++([32]++([61,32]++(showZ F (t.kid 0) 0++([32]++([105,110,32]++(showZ F (t.kid 1) 0))))))):=by simp[text8]
     rw[e];exact(LxA.app (LxA.keyB (k:=kLet) yh) (Lx.app (Lx.name na) (LxA.app LxA.blank (LxA.app (LxA.signB (g:=gEq) yh) (Lx.app g0 (LxA.app LxA.blank (LxA.app (LxA.keyB (k:=kIn) yh) g1)) rfl))) rfl))
    by_cases k9:t.n.kind=9
    .rw[bare9 k9,tkB9 k9];have hc:=z19 hg k9 (c:=2) rfl;have e1:=(kids2 hc).2;have g0:=ih.1 (t.kid 0) 0 yf (hs.kid yf) (hx.1.ex yf (z14 yf _));have g1:=ih.1 (t.kid 1) 0 yf (hs.kid yf) (hx.1.ex yf (z14 yf _));have na:=oa yag;have nb:=ob yag;have e:text9 (showZ F) t= [108,101,116,32]++([114,101,99,32]++(t.n.a.data.toList++([32]++(t.n.b.data.toList++([32]++([61,32]++(showZ F (t.kid 0) 0++([32]++([105,110,32]++(showZ F (t.kid 1) 0)))))))))):=by simp[text9]
     rw[e];exact(LxA.app (LxA.keyB (k:=kLet) yh) (LxA.app (LxA.keyB (k:=kRec) yh) (Lx.app (Lx.name na) (LxA.app LxA.blank (Lx.app (Lx.name nb) (LxA.app LxA.blank (LxA.app (LxA.signB (g:=gEq) yh) (Lx.app g0 (LxA.app LxA.blank (LxA.app (LxA.keyB (k:=kIn) yh) g1)) rfl))) rfl)) rfl)))
    by_cases k10:t.n.kind=10
    .rw[bare10 k10,tkB10 k10];have hc:=z19 hg k10 (c:=3) rfl;have e1:=(kids3 hc).2;have g0:=ih.1 (t.kid 0) 0 yf (hs.kid yf) (hx.1.ex yf (z14 yf _));have g1:=ih.1 (t.kid 1) 0 yf (hs.kid yf) (hx.1.ex yf (z14 yf _));have g2:=ih.1 (t.kid 2) 0 yf (hs.kid yf) (hx.1.ex yf (z14 yf _));have e:text10 (showZ F) t= [105,102,32]++(showZ F (t.kid 0) 0++([32]++([116,104,101,110,32]++(showZ F (t.kid 1) 0++([32]++([101,108,115,101,32]++(showZ F (t.kid 2) 0))))))):=by simp[text10]
     rw[e];exact(LxA.app (LxA.keyB (k:=kIf) yh) (Lx.app g0 (LxA.app LxA.blank (LxA.app (LxA.keyB (k:=kThen) yh) (Lx.app g1 (LxA.app LxA.blank (LxA.app (LxA.keyB (k:=kElse) yh) g2)) rfl))) rfl))
    by_cases k11:t.n.kind=11
    .rw[bare11 k11,tkB11 k11];have hc:=z19 hg k11 (c:=2) rfl;have e1:=(kids2 hc).2;have g0:=ih.1 (t.kid 0) 3 yf (hs.kid yf) (hx.1.ex yf (z14 yf _));have g1:=ih.1 (t.kid 1) 4 yf (hs.kid yf) (hx.1.ex yf (z14 yf _));have e:text11 (showZ F) t=showZ F (t.kid 0) 3++([32]++([43,32]++(showZ F (t.kid 1) 4))):=by simp[text11]
     rw[e];exact(Lx.app g0 (LxA.app LxA.blank (LxA.app (LxA.signB (g:=gPlus) yh) g1)) rfl)
    by_cases k12:t.n.kind=12
    .rw[bare12 k12,tkB12 k12];have hc:=z19 hg k12 (c:=2) rfl;have e1:=(kids2 hc).2;have g0:=ih.1 (t.kid 0) 3 yf (hs.kid yf) (hx.1.ex yf (z14 yf _));have g1:=ih.1 (t.kid 1) 4 yf (hs.kid yf) (hx.1.ex yf (z14 yf _));have e:text12 (showZ F) t=showZ F (t.kid 0) 3++([32]++([45,32]++(showZ F (t.kid 1) 4))):=by simp[text12]
     rw[e];exact(Lx.app g0 (LxA.app LxA.blank (LxA.app (LxA.signB (g:=gMinus) yh) g1)) rfl)
    by_cases k13:t.n.kind=13
    .rw[bare13 k13,tkB13 k13];have hc:=z19 hg k13 (c:=2) rfl;have e1:=(kids2 hc).2;have g0:=ih.1 (t.kid 0) 4 yf (hs.kid yf) (hx.1.ex yf (z14 yf _));have g1:=ih.1 (t.kid 1) 5 yf (hs.kid yf) (hx.1.ex yf (z14 yf _));have e:text13 (showZ F) t=showZ F (t.kid 0) 4++([32]++([42,32]++(showZ F (t.kid 1) 5))):=by simp[text13]
     rw[e];exact(Lx.app g0 (LxA.app LxA.blank (LxA.app (LxA.signB (g:=gStar) yh) g1)) rfl)
    by_cases k14:t.n.kind=14
    .rw[bare14 k14,tkB14 k14];have hc:=z19 hg k14 (c:=2) rfl;have e1:=(kids2 hc).2;have g0:=ih.1 (t.kid 0) 3 yf (hs.kid yf) (hx.1.ex yf (z14 yf _));have g1:=ih.1 (t.kid 1) 3 yf (hs.kid yf) (hx.1.ex yf (z14 yf _));have e:text14 (showZ F) t=showZ F (t.kid 0) 3++([32]++([61,32]++(showZ F (t.kid 1) 3))):=by simp[text14]
     rw[e];exact(Lx.app g0 (LxA.app LxA.blank (LxA.app (LxA.signB (g:=gEq) yh) g1)) rfl)
    by_cases k15:t.n.kind=15
    .rw[bare15 k15,tkB15 k15];have hc:=z19 hg k15 (c:=2) rfl;have e1:=(kids2 hc).2;have g0:=ih.1 (t.kid 0) 3 yf (hs.kid yf) (hx.1.ex yf (z14 yf _));have g1:=ih.1 (t.kid 1) 3 yf (hs.kid yf) (hx.1.ex yf (z14 yf _));have e:text15 (showZ F) t=showZ F (t.kid 0) 3++([32]++([60,32]++(showZ F (t.kid 1) 3))):=by simp[text15]
     rw[e];exact(Lx.app g0 (LxA.app LxA.blank (LxA.app (LxA.signB (g:=gLt) yh) g1)) rfl)
    by_cases k19:t.n.kind=19
    .rw[bare19 k19,tkB19 k19];have hc:=z19 hg k19 (c:=2) rfl;have e1:=(kids2 hc).2;have g0:=ih.1 (t.kid 0) 2 yf (hs.kid yf) (hx.1.ex yf (z14 yf _));have g1:=ih.1 (t.kid 1) 1 yf (hs.kid yf) (hx.1.ex yf (z14 yf _));have e:text19 (showZ F) t=showZ F (t.kid 0) 2++([32]++([58,58,32]++(showZ F (t.kid 1) 1))):=by simp[text19]
     rw[e];exact(Lx.app g0 (LxA.app LxA.blank (LxA.app (LxA.signB (g:=gCons) yh) g1)) rfl)
    by_cases k16:t.n.kind=16
    .rw[bare16 k16,tkB16 k16];have hc:=z19 hg k16 (c:=2) rfl;have e1:=(kids2 hc).2;have g0:=ih.1 (t.kid 0) 0 yf (hs.kid yf) (hx.1.ex yf (z14 yf _));have g1:=ih.1 (t.kid 1) 0 yf (hs.kid yf) (hx.1.ex yf (z14 yf _));have e:text16 (showZ F) t= [40]++(showZ F (t.kid 0) 0++([44,32]++(showZ F (t.kid 1) 0++([41])))):=by simp[text16]
     rw[e];exact(LxA.app LxA.opened (Lx.app g0 (LxA.app (LxA.signB (g:=gComma) yh) (Lx.app g1 (Lx.sign (g:=gShut) yh) rfl)) rfl))
    by_cases k17:t.n.kind=17
    .rw[bare17 k17,tkB17 k17];have hc:=z19 hg k17 (c:=1) rfl;have e1:=(kids1 hc).2;have g0:=ih.1 (t.kid 0) 6 yf (hs.kid yf) (hx.1.ex yf (z14 yf _));have e:text17 (showZ F) t= [102,115,116,32]++(showZ F (t.kid 0) 6):=by simp[text17]
     rw[e];exact(LxA.app (LxA.keyB (k:=kFst) yh) g0)
    by_cases k18:t.n.kind=18
    .rw[bare18 k18,tkB18 k18];have hc:=z19 hg k18 (c:=1) rfl;have e1:=(kids1 hc).2;have g0:=ih.1 (t.kid 0) 6 yf (hs.kid yf) (hx.1.ex yf (z14 yf _));have e:text18 (showZ F) t= [115,110,100,32]++(showZ F (t.kid 0) 6):=by simp[text18]
     rw[e];exact(LxA.app (LxA.keyB (k:=kSnd) yh) g0)
    by_cases k21:t.n.kind=21
    .rw[bare21 k21,tkB21 k21];have hc:=z19 hg k21 (c:=1) rfl;have e1:=(kids1 hc).2;have g0:=ih.1 (t.kid 0) 6 yf (hs.kid yf) (hx.1.ex yf (z14 yf _));have e:text21 (showZ F) t= [112,114,105,110,116,32]++(showZ F (t.kid 0) 6):=by simp[text21]
     rw[e];exact(LxA.app (LxA.keyB (k:=kPrint) yh) g0)
    by_cases k22:t.n.kind=22
    .rw[bare22 k22,tkB22 k22];have hc:=z19 hg k22 (c:=1) rfl;have e1:=(kids1 hc).2;have g0:=ih.1 (t.kid 0) 6 yf (hs.kid yf) (hx.1.ex yf (z14 yf _));have na:=oa yas;have e:text22 (showZ F) t= [100,111,32]++(t.n.a.data.toList++([32]++(showZ F (t.kid 0) 6))):=by simp[text22]
     rw[e];exact(LxA.app (LxA.keyB (k:=kDo) yh) (Lx.app (Lx.name na) (LxA.app LxA.blank g0) rfl))
    by_cases k20:t.n.kind=20
    .rw[bare20 k20,tkB20 k20];have hc:=z19 hg k20 (c:=3) rfl;have e1:=(kids3 hc).2;have g0:=ih.1 (t.kid 0) 0 yf (hs.kid yf) (hx.1.ex yf (z14 yf _));have g1:=ih.1 (t.kid 1) 0 yf (hs.kid yf) (hx.1.ex yf (z14 yf _));have g2:=ih.1 (t.kid 2) 0 yf (hs.kid yf) (hx.1.ex yf (z14 yf _));have na:=oa yat;have nb:=ob yat
     have e:text20 (showZ F) t= [99,97,115,101,32]++(showZ F (t.kid 0) 0++([32]++([111,102,32]++([110,105,108,32]++([45,62,32]++(showZ F (t.kid 1) 0++([32]++([124,32]++(t.n.a.data.toList++([32]++([58,58,32]++(t.n.b.data.toList++([32]++([45,62,32]++(showZ F (t.kid 2) 0))))))))))))))):=by simp[text20]
     rw[e];exact(LxA.app (LxA.keyB (k:=kCase) yh) (Lx.app g0 (LxA.app LxA.blank (LxA.app (LxA.keyB (k:=kOf) yh) (LxA.app (LxA.keyB (k:=kNil) yh) (LxA.app (LxA.signB (g:=gTo) yh) (Lx.app g1 (LxA.app LxA.blank (LxA.app (LxA.signB (g:=gBar) yh) (Lx.app (Lx.name na) (LxA.app LxA.blank (LxA.app (LxA.signB (g:=gCons) yh) (Lx.app (Lx.name nb) (LxA.app LxA.blank (LxA.app (LxA.signB (g:=gTo) yh) g2)) rfl))) rfl))) rfl))))) rfl))
    have hh:t.n.kind=23\/t.n.kind=24:=by
     have h1:=(arity_at hg).1;have h2:=kinds t.n.kind;have h3:=hx.2;by_cases h4:t.n.kind<1\/26<t.n.kind
     .exact absurd (tab_other h4) h1
     .omega
    have hc:=((arity_at hg).2.1 jo).1;have hm:=kidsM hc;have hd:=hs.head hh;have hd1:=(hd (t.kid 1) (by rw[hm.1];simp)).2;have e1:=(kids1 hd1).2;have hs1:=hs.kid (i:=1) yf;have g0:=ih.1 (t.kid 0) 0 yf (hs.kid yf) (hx.1.ex yf (role_first _));have g1:=ih.1 ((t.kid 1).kid 0) 0 yf (hs1.kid yf) (clause_ex hx.1 yf hd1);have na:=(own_names (stands_own hs1 hn)).1 (by rw[clause25 hx.1 hh yf];decide);have hops:∀c∈t.kids.drop 2,(nameOk c.n.a=true/\nameOk c.n.b=true/\nameOk c.n.c=true)/\Lx (showZ F (c.kid 0) 0) (tkS F (c.kid 0) 0):=fun c hc2=>by
     have hs4:=sum_mem _ c hc2;have hc3:c∈t.kids.drop 1:=by
      rw[show(2:Nat)=1+1 from rfl,<-List.drop_drop]at hc2;exact List.mem_of_mem_drop hc2
     obtain⟨j,hj,rfl⟩:=List.getElem_of_mem hc2;have hlen:(t.kids.drop 2).length=t.k.count-2:=jp;have hjk:(t.kids.drop 2)[j]=t.kid (2+j):=by
      unfold Tp.kid;simp[List.getD,show 2+j<t.kids.length by rw[t.kids_len];omega]
     rw[hjk]at hs4 hc3 |-;have h7:=(hd _ hc3).2;have hsj:=hs.kid (i:=2+j) yf;have e7:=(kids1 h7).2;have c26:=clause26 hx.1 hh (j:=2+j) yf yf;obtain⟨n1,n2,n3⟩:=own_names (stands_own hsj hn);exact⟨⟨n1 (by rw[c26];decide),n2 (by rw[c26];decide),n3 (by rw[c26];decide)⟩,ih.1 ((t.kid (2+j)).kid 0) 0 yf (hsj.kid yf) (clause_ex hx.1 yf h7)⟩
    rw[bareH hh,tkBH hh];have hret:Lx (retT (t.kid 1) (showZ F ((t.kid 1).kid 0) 0)) (kw kRet::nmT (t.kid 1).n.a::sg gTo::tkS F ((t.kid 1).kid 0) 0):=by
     have e:retT (t.kid 1) (showZ F ((t.kid 1).kid 0) 0)= [32]++([114,101,116,32]++((t.kid 1).n.a.data.toList++([32]++([45,62,32]++showZ F ((t.kid 1).kid 0) 0)))):=by simp[retT]
     rw[e];exact LxA.app LxA.blank (LxA.app (LxA.keyB (k:=kRet) yh) (Lx.app (Lx.name na) (LxA.app LxA.blank (LxA.app (LxA.signB (g:=gTo) yh) g1)) rfl))
    have hfst:LxA (if t.n.kind=24 then [115,104,97,108,108,111,119,32] else [104,97,110,100,108,101,32]) [kw (if t.n.kind=24 then kShallow else kHandle)]:=by
     split
     .exact LxA.keyB (k:=kShallow) yh
     .exact LxA.keyB (k:=kHandle) yh
    have hwith:Lx ([32,119,105,116,104]:List UInt8) [kw kWith]:=LxA.app (a:= [32]) LxA.blank (Lx.key (k:=kWith) yh);have hend:Lx ([32,101,110,100]:List UInt8) [kw kEnd]:=LxA.app (a:= [32]) LxA.blank (Lx.key (k:=kEnd) yh);have hbase:=LxA.app hfst (Lx.app g0 (Lx.app hwith hret rfl) rfl);have hall:=Lx.app (ops_lx (t.kids.drop 2) _ _ hbase hops) hend rfl
    have e2:handT (showZ F) t=(t.kids.drop 2).foldl (fun T c=>T++opT c (showZ F (c.kid 0) 0)) ((if t.n.kind=24 then [115,104,97,108,108,111,119,32] else [104,97,110,100,108,101,32])++(showZ F (t.kid 0) 0++([32,119,105,116,104]++retT (t.kid 1) (showZ F ((t.kid 1).kid 0) 0))))++ [32,101,110,100]:=by
     simp only[handT,List.append_assoc]
    rw[e2];have e3:tkH (tkS F) t=([kw (if t.n.kind=24 then kShallow else kHandle)]++(tkS F (t.kid 0) 0++([kw kWith]++(kw kRet::nmT (t.kid 1).n.a::sg gTo::tkS F ((t.kid 1).kid 0) 0))))++(t.kids.drop 2).flatMap (tkOp (tkS F))++ [kw kEnd]:=by
     simp[tkH]
    rw[e3];exact hall
   exact⟨fun t L hF hs hx=>Lx.brZ (key t hF hs hx),key⟩
end
end Go.Proofs.YtfbojelpdccjaaaGreatDoor
