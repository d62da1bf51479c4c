import Derived.Test.YtfbojelpdccjaaaGreatDoorPkT8
set_option maxHeartbeats 4000000
namespace Go.Proofs.YtfbojelpdccjaaaGreatDoor
open Go.RowKit
variable {a:List Nd}{l:List UInt8}{i:Nat}{t:Tp}
section
open Go.RowKit
structure Ps where
 at_:Nat
 bad:Bool
def Ps.next (s:Ps):Ps:=⟨s.at_+1,s.bad⟩
def Ps.fail (s:Ps):Ps:=⟨s.at_,true⟩
def kLet:List UInt8:= [108,101,116]
def kRec:List UInt8:= [114,101,99]
def kIn:List UInt8:= [105,110]
def kIf:List UInt8:= [105,102]
def kThen:List UInt8:= [116,104,101,110]
def kElse:List UInt8:= [101,108,115,101]
def kFn:List UInt8:= [102,110]
def kCase:List UInt8:= [99,97,115,101]
def kOf:List UInt8:= [111,102]
def kNil:List UInt8:= [110,105,108]
def kFst:List UInt8:= [102,115,116]
def kSnd:List UInt8:= [115,110,100]
def kPrint:List UInt8:= [112,114,105,110,116]
def kDo:List UInt8:= [100,111]
def kTrue:List UInt8:= [116,114,117,101]
def kFalse:List UInt8:= [102,97,108,115,101]
def kHandle:List UInt8:= [104,97,110,100,108,101]
def kShallow:List UInt8:= [115,104,97,108,108,111,119]
def kWith:List UInt8:= [119,105,116,104]
def kRet:List UInt8:= [114,101,116]
def kEnd:List UInt8:= [101,110,100]
def kEffect:List UInt8:= [101,102,102,101,99,116]
def kInt:List UInt8:= [105,110,116]
def kBool:List UInt8:= [98,111,111,108]
def kUnit:List UInt8:= [117,110,105,116]
def kList:List UInt8:= [108,105,115,116]
def gEq:List UInt8:= [61]
def gLt:List UInt8:= [60]
def gTo:List UInt8:= [45,62]
def gGives:List UInt8:= [61,62]
def gCons:List UInt8:= [58,58]
def gBar:List UInt8:= [124]
def gPlus:List UInt8:= [43]
def gMinus:List UInt8:= [45]
def gStar:List UInt8:= [42]
def gOpen:List UInt8:= [40]
def gShut:List UInt8:= [41]
def gComma:List UInt8:= [44]
def gColon:List UInt8:= [58]
def gSemi:List UInt8:= [59]
abbrev PS (α:Type):=Ps->α×Ps
abbrev PI (α:Type):=Nat->Except Nat (α×Nat)
def bindS {α β:Type}(p:PS α) (k:α->PS β):PS β:= fun s=>k (p s).1 (p s).2
def pureS {α:Type}(a:α):PS α:= fun s=>(a,s)
def bindI {α β:Type}(p:PI α) (k:α->PI β):PI β:= fun i=>match p i with
 |.error j=> .error j
 |.ok r=>k r.1 r.2
def pureI {α:Type}(a:α):PI α:= fun i=> .ok (a,i)
section
variable (ws:List Wd)
def curW (i:Nat):Wd:=ws.getD i default
def txt (s:Ps):ByteArray:=if s.bad=true\/ws.length<=s.at_\/(curW ws s.at_).kind<3 then ⟨#[]⟩ else (curW ws s.at_).text
def seesS (s:Ps) (l:List UInt8):Bool:=(txt ws s).toList==l
def takeS (l:List UInt8):PS Unit:=fun s=>((),if seesS ws s l then s.next else s.fail)
def isNm (s:Ps):Bool:=!s.bad && (decide (s.at_<ws.length) && decide ((curW ws s.at_).kind=2))
def nameS:PS ByteArray:=fun s=>if isNm ws s then ((curW ws s.at_).text,s.next) else (⟨#[]⟩,s.fail)
def begins (w:Wd):Bool:=decide (w.kind=1) || (decide (w.kind=2) || ((w.text.toList==gOpen) || ((w.text.toList==kTrue) || ((w.text.toList==kFalse) || ((w.text.toList==kNil) || ((w.text.toList==kHandle) || (w.text.toList==kShallow)))))))
def startsS (s:Ps):Bool:=!s.bad && (decide (s.at_<ws.length) && begins (curW ws s.at_))
def seesI (i:Nat) (l:List UInt8):Bool:=decide (i<ws.length) && ((curW ws i).text.toList==l)
def takeI (l:List UInt8):PI Unit:=fun i=>if seesI ws i l then .ok ((),i+1) else .error i
def nameI:PI ByteArray:=fun i=>if i<ws.length/\(curW ws i).kind=2 then .ok ((curW ws i).text,i+1) else .error i
def startsI (i:Nat):Bool:=decide (i<ws.length) && begins (curW ws i)
def orS {α:Type}(l:List UInt8) (p q:PS α):PS α:= fun s=>if seesS ws s l then p s.next else q s
def orI {α:Type}(l:List UInt8) (p q:PI α):PI α:= fun i=>if seesI ws i l then p (i+1) else q i
end
def numZ (l:List UInt8):Nat:=l.foldl (fun n b=>10*n+(b.toNat-48)) 0
def nd0 (k:Int):Nd:=⟨k,0,⟨#[]⟩,⟨#[]⟩,⟨#[]⟩,0⟩
def nd1 (k:Int) (a:ByteArray):Nd:=⟨k,0,a,⟨#[]⟩,⟨#[]⟩,0⟩
def nd2 (k:Int) (a b:ByteArray):Nd:=⟨k,0,a,b,⟨#[]⟩,0⟩
def nd3 (k:Int) (a b c:ByteArray):Nd:=⟨k,0,a,b,c,0⟩
def ndN (k n:Int):Nd:=⟨k,n,⟨#[]⟩,⟨#[]⟩,⟨#[]⟩,0⟩
def Nd.with_ (n:Nd) (k:Nat):Nd:=⟨n.kind,n.num,n.a,n.b,n.c,(k:Int)⟩
def putN (n:Nd) (ks:List (List Nd)):List Nd:=n.with_ ks.length::ks.flatten
abbrev Tr:=Nd×Fo
def Tr.flat (t:Tr):List Nd:=t.1::t.2.flat
def foL:List Tr->Fo
 |[]=> .none
 |t::r=> .tree t.1 t.2 (foL r)
def mkT (n:Nd) (ks:List Tr):Tr:=(n.with_ ks.length,foL ks)
theorem foL_flat:∀(l:List Tr),(foL l).flat=(l.map Tr.flat).flatten
 |[]=>rfl
 |t::r=>by simp[foL,Fo.flat,foL_flat r,Tr.flat]
theorem mkT_flat (n:Nd) (ks:List Tr):Tr.flat (mkT n ks)=putN n (ks.map Tr.flat):=by
 show n.with_ ks.length::(foL ks).flat=n.with_ (ks.map Tr.flat).length::(ks.map Tr.flat).flatten;rw[foL_flat,List.length_map]
inductive Nt (α:Type)
 |expr|cons|comp|sum|prod|call|atom
 |sumL (a:α)|prodL (a:α)|callL (a:α)
 |hand (k:Int)
 |opsL (k:Int) (ks:List α)
section
variable (ws:List Wd) (go:Nt (List Nd)->PS (List Nd))
def letS':PS (List Nd):=bindS (nameS ws) fun x=>bindS (takeS ws gEq) fun _=>bindS (go .expr) fun a=>bindS (takeS ws kIn) fun _=>bindS (go .expr) fun b=>pureS (putN (nd1 8 x) [a,b])
def recS':PS (List Nd):=bindS (nameS ws) fun f=>bindS (nameS ws) fun x=>bindS (takeS ws gEq) fun _=>bindS (go .expr) fun a=>bindS (takeS ws kIn) fun _=>bindS (go .expr) fun b=>pureS (putN (nd2 9 f x) [a,b])
def condS:PS (List Nd):=bindS (go .expr) fun a=>bindS (takeS ws kThen) fun _=>bindS (go .expr) fun b=>bindS (takeS ws kElse) fun _=>bindS (go .expr) fun c=>pureS (putN (nd0 10) [a,b,c])
def fnS:PS (List Nd):=bindS (nameS ws) fun x=>bindS (takeS ws gTo) fun _=>bindS (go .expr) fun a=>pureS (putN (nd1 6 x) [a])
def caseS:PS (List Nd):=bindS (go .expr) fun a=>bindS (takeS ws kOf) fun _=>bindS (takeS ws kNil) fun _=>bindS (takeS ws gTo) fun _=>bindS (go .expr) fun b=>bindS (takeS ws gBar) fun _=>bindS (nameS ws) fun h=>bindS (takeS ws gCons) fun _=>bindS (nameS ws) fun t=>bindS (takeS ws gTo) fun _=>bindS (go .expr) fun c=>pureS (putN (nd2 20 h t) [a,b,c])
def exprS:PS (List Nd):=orS ws kLet (orS ws kRec (recS' ws go) (letS' ws go)) (orS ws kIf (condS ws go) (orS ws kFn (fnS ws go) (orS ws kCase (caseS ws go) (go .cons))))
def consS:PS (List Nd):=bindS (go .comp) fun a=>orS ws gCons (bindS (go .cons) fun b=>pureS (putN (nd0 19) [a,b])) (pureS a)
def compS:PS (List Nd):=bindS (go .sum) fun a=>orS ws gEq (bindS (go .sum) fun b=>pureS (putN (nd0 14) [a,b])) (orS ws gLt (bindS (go .sum) fun b=>pureS (putN (nd0 15) [a,b])) (pureS a))
def sumS:PS (List Nd):=bindS (go .prod) fun a=>go (.sumL a)
def sumLS (a:(List Nd)):PS (List Nd):=orS ws gPlus (bindS (go .prod) fun b=>go (.sumL (putN (nd0 11) [a,b]))) (orS ws gMinus (bindS (go .prod) fun b=>go (.sumL (putN (nd0 12) [a,b]))) (pureS a))
def prodS:PS (List Nd):=bindS (go .call) fun a=>go (.prodL a)
def prodLS (a:(List Nd)):PS (List Nd):=orS ws gStar (bindS (go .call) fun b=>go (.prodL (putN (nd0 13) [a,b]))) (pureS a)
def headS:PS (List Nd):=orS ws kFst (bindS (go .atom) fun a=>pureS (putN (nd0 17) [a])) (orS ws kSnd (bindS (go .atom) fun a=>pureS (putN (nd0 18) [a])) (orS ws kPrint (bindS (go .atom) fun a=>pureS (putN (nd0 21) [a])) (orS ws kDo (bindS (nameS ws) fun x=>bindS (go .atom) fun a=>pureS (putN (nd1 22 x) [a])) (go .atom))))
def callS:PS (List Nd):=bindS (headS ws go) fun a=>go (.callL a)
def brackS:PS (List Nd):=orS ws gShut (pureS (putN (nd0 3) [])) (bindS (go .expr) fun a=>orS ws gComma (bindS (go .expr) fun b=>bindS (takeS ws gShut) fun _=>pureS (putN (nd0 16) [a,b])) (bindS (takeS ws gShut) fun _=>pureS a))
def handS (k:Int):PS (List Nd):=bindS (go .expr) fun a=>bindS (takeS ws kWith) fun _=>bindS (takeS ws kRet) fun _=>bindS (nameS ws) fun x=>bindS (takeS ws gTo) fun _=>bindS (go .expr) fun b=>go (.opsL k [a,putN (nd1 25 x) [b]])
def opsLS (k:Int) (ks:List (List Nd)):PS (List Nd):=orS ws gBar (bindS (nameS ws) fun a=>bindS (nameS ws) fun b=>bindS (nameS ws) fun c=>bindS (takeS ws gTo) fun _=>bindS (go .expr) fun e=>go (.opsL k (ks++ [putN (nd3 26 a b c) [e]]))) (bindS (takeS ws kEnd) fun _=>pureS (putN (nd0 k) ks))
def wordS (w:Wd):PS (List Nd):=
 if w.kind=1 then pureS (putN (ndN 1 (numZ w.text.toList)) [])
 else if w.kind=2 then pureS (putN (nd1 5 w.text) [])
 else if (w.text.toList==kTrue)=true then pureS (putN (ndN 2 1) [])
 else if (w.text.toList==kFalse)=true then pureS (putN (nd0 2) [])
 else if (w.text.toList==kNil)=true then pureS (putN (nd0 4) [])
 else if (w.text.toList==kHandle)=true then go (.hand 23)
 else if (w.text.toList==kShallow)=true then go (.hand 24)
 else brackS ws go
def atomS:PS (List Nd):=fun s=>if startsS ws s then wordS ws go (curW ws s.at_) s.next else ([],s.fail)
def callLS (a:List Nd):PS (List Nd):=fun s=>if startsS ws s then bindS (go .atom) (fun b=>go (.callL (putN (nd0 7) [a,b]))) s else pureS a s
def stepS:Nt (List Nd)->PS (List Nd)
 |.expr=>exprS ws go
 |.cons=>consS ws go
 |.comp=>compS ws go
 |.sum=>sumS go
 |.prod=>prodS go
 |.call=>callS ws go
 |.atom=>atomS ws go
 |.sumL a=>sumLS ws go a
 |.prodL a=>prodLS ws go a
 |.callL a=>callLS ws go a
 |.hand k=>handS ws go k
 |.opsL k ks=>opsLS ws go k ks
end
def spz (ws:List Wd):Nat->Nt (List Nd)->PS (List Nd)
 |0,_=>fun s=>([],s.fail)
 |f+1,nt=>stepS ws (spz ws f) nt
section
variable (ws:List Wd) (go:Nt Tr->PI Tr)
def letI':PI Tr:=bindI (nameI ws) fun x=>bindI (takeI ws gEq) fun _=>bindI (go .expr) fun a=>bindI (takeI ws kIn) fun _=>bindI (go .expr) fun b=>pureI (mkT (nd1 8 x) [a,b])
def recI':PI Tr:=bindI (nameI ws) fun f=>bindI (nameI ws) fun x=>bindI (takeI ws gEq) fun _=>bindI (go .expr) fun a=>bindI (takeI ws kIn) fun _=>bindI (go .expr) fun b=>pureI (mkT (nd2 9 f x) [a,b])
def condI:PI Tr:=bindI (go .expr) fun a=>bindI (takeI ws kThen) fun _=>bindI (go .expr) fun b=>bindI (takeI ws kElse) fun _=>bindI (go .expr) fun c=>pureI (mkT (nd0 10) [a,b,c])
def fnI:PI Tr:=bindI (nameI ws) fun x=>bindI (takeI ws gTo) fun _=>bindI (go .expr) fun a=>pureI (mkT (nd1 6 x) [a])
def caseI:PI Tr:=bindI (go .expr) fun a=>bindI (takeI ws kOf) fun _=>bindI (takeI ws kNil) fun _=>bindI (takeI ws gTo) fun _=>bindI (go .expr) fun b=>bindI (takeI ws gBar) fun _=>bindI (nameI ws) fun h=>bindI (takeI ws gCons) fun _=>bindI (nameI ws) fun t=>bindI (takeI ws gTo) fun _=>bindI (go .expr) fun c=>pureI (mkT (nd2 20 h t) [a,b,c])
def exprI:PI Tr:=orI ws kLet (orI ws kRec (recI' ws go) (letI' ws go)) (orI ws kIf (condI ws go) (orI ws kFn (fnI ws go) (orI ws kCase (caseI ws go) (go .cons))))
def consI:PI Tr:=bindI (go .comp) fun a=>orI ws gCons (bindI (go .cons) fun b=>pureI (mkT (nd0 19) [a,b])) (pureI a)
def compI:PI Tr:=bindI (go .sum) fun a=>orI ws gEq (bindI (go .sum) fun b=>pureI (mkT (nd0 14) [a,b])) (orI ws gLt (bindI (go .sum) fun b=>pureI (mkT (nd0 15) [a,b])) (pureI a))
def sumI:PI Tr:=bindI (go .prod) fun a=>go (.sumL a)
def sumLI (a:Tr):PI Tr:=orI ws gPlus (bindI (go .prod) fun b=>go (.sumL (mkT (nd0 11) [a,b]))) (orI ws gMinus (bindI (go .prod) fun b=>go (.sumL (mkT (nd0 12) [a,b]))) (pureI a))
def prodI:PI Tr:=bindI (go .call) fun a=>go (.prodL a)
def prodLI (a:Tr):PI Tr:=orI ws gStar (bindI (go .call) fun b=>go (.prodL (mkT (nd0 13) [a,b]))) (pureI a)
def headI:PI Tr:=orI ws kFst (bindI (go .atom) fun a=>pureI (mkT (nd0 17) [a])) (orI ws kSnd (bindI (go .atom) fun a=>pureI (mkT (nd0 18) [a])) (orI ws kPrint (bindI (go .atom) fun a=>pureI (mkT (nd0 21) [a])) (orI ws kDo (bindI (nameI ws) fun x=>bindI (go .atom) fun a=>pureI (mkT (nd1 22 x) [a])) (go .atom))))
def callI:PI Tr:=bindI (headI ws go) fun a=>go (.callL a)
def brackI:PI Tr:=orI ws gShut (pureI (mkT (nd0 3) [])) (bindI (go .expr) fun a=>orI ws gComma (bindI (go .expr) fun b=>bindI (takeI ws gShut) fun _=>pureI (mkT (nd0 16) [a,b])) (bindI (takeI ws gShut) fun _=>pureI a))
def handI (k:Int):PI Tr:=bindI (go .expr) fun a=>bindI (takeI ws kWith) fun _=>bindI (takeI ws kRet) fun _=>bindI (nameI ws) fun x=>bindI (takeI ws gTo) fun _=>bindI (go .expr) fun b=>go (.opsL k [a,mkT (nd1 25 x) [b]])
def opsLI (k:Int) (ks:List Tr):PI Tr:=orI ws gBar (bindI (nameI ws) fun a=>bindI (nameI ws) fun b=>bindI (nameI ws) fun c=>bindI (takeI ws gTo) fun _=>bindI (go .expr) fun e=>go (.opsL k (ks++ [mkT (nd3 26 a b c) [e]]))) (bindI (takeI ws kEnd) fun _=>pureI (mkT (nd0 k) ks))
def wordI (w:Wd):PI Tr:=
 if w.kind=1 then pureI (mkT (ndN 1 (numZ w.text.toList)) [])
 else if w.kind=2 then pureI (mkT (nd1 5 w.text) [])
 else if (w.text.toList==kTrue)=true then pureI (mkT (ndN 2 1) [])
 else if (w.text.toList==kFalse)=true then pureI (mkT (nd0 2) [])
 else if (w.text.toList==kNil)=true then pureI (mkT (nd0 4) [])
 else if (w.text.toList==kHandle)=true then go (.hand 23)
 else if (w.text.toList==kShallow)=true then go (.hand 24)
 else brackI ws go
def atomI:PI Tr:=fun i=>if startsI ws i then wordI ws go (curW ws i) (i+1) else .error i
def callLI (a:Tr):PI Tr:=fun i=>if startsI ws i then bindI (go .atom) (fun b=>go (.callL (mkT (nd0 7) [a,b]))) i else pureI a i
def stepI:Nt Tr->PI Tr
 |.expr=>exprI ws go
 |.cons=>consI ws go
 |.comp=>compI ws go
 |.sum=>sumI go
 |.prod=>prodI go
 |.call=>callI ws go
 |.atom=>atomI ws go
 |.sumL a=>sumLI ws go a
 |.prodL a=>prodLI ws go a
 |.callL a=>callLI ws go a
 |.hand k=>handI ws go k
 |.opsL k ks=>opsLI ws go k ks
end
def ipz (ws:List Wd):Nat->Nt Tr->PI Tr
 |0,_=>fun i=> .error i
 |f+1,nt=>stepI ws (ipz ws f) nt
def StuckS {α:Type}(p:PS α):Prop:= ∀s,s.bad=true->(p s).2=s
structure Alike {α β:Type}(ρ:α->β->Prop) (p:PS α) (e:PI β):Prop where
 stuck:StuckS p
 same:∀i,match e i with
  |.ok r=> ∃a,p ⟨i,false⟩=(a,⟨r.2,false⟩)/\ρ a r.1
  |.error j=>(p ⟨i,false⟩).2=⟨j,true⟩
section
variable {α β γ δ:Type}{ρ:α->β->Prop}{σ:γ->δ->Prop}
theorem Alike.bind {p:PS α}{e:PI β}{k:α->PS γ}{k':β->PI δ}(h:Alike ρ p e) (hk:∀a b,ρ a b->Alike σ (k a) (k' b)) (hs:∀a,StuckS (k a)):Alike σ (bindS p k) (bindI e k'):=by
 refine⟨fun s hb=>?_,fun i=>?_⟩
 .unfold bindS;rw[h.stuck s hb];exact hs _ s hb
 .have h1:=h.same i;unfold bindI bindS
  cases he:e i with
  | error j=>
    rw[he]at h1;dsimp only at h1 |-;rw[h1];exact hs _ ⟨j,true⟩ rfl
  | ok r=>
    rw[he]at h1;obtain⟨a,h2,h3⟩:=h1;dsimp only;rw[h2];exact(hk a r.1 h3).same r.2
theorem z26 {p:PS α}{k:α->PS γ}(h:StuckS p) (hs:∀a,StuckS (k a)):StuckS (bindS p k):=fun s hb=>by
 unfold bindS;rw[h s hb];exact hs _ s hb
theorem z27 (a:α):StuckS (pureS a):=fun _ _=>rfl
theorem Alike.pure {a:α}{b:β}(h:ρ a b):Alike ρ (pureS a) (pureI b):=⟨z27 a,fun _=>⟨a,rfl,h⟩⟩
end
theorem no_bytes:(⟨#[]⟩:ByteArray).toList= []:=by
 rw[ByteArray.toList,ByteArray.toList.loop];rfl
def keysZ:List (List UInt8):= [kLet,kRec,kIn,kIf,kThen,kElse,kFn,kCase,kOf,kNil,kFst,kSnd,kPrint,kDo,kTrue,kFalse,kHandle,kShallow,kWith,kRet,kEnd,kEffect,kInt,kBool,kUnit,kList,gEq,gLt,gTo,gGives,gCons,gBar,gPlus,gMinus,gStar,gOpen,gShut,gComma,gColon,gSemi]
structure WordsOk (ws:List Wd):Prop where
 plain:∀w∈ws,w.kind<3-> ∀l∈keysZ,w.text.toList≠l
section
variable {ws:List Wd}
theorem sees_bad {s:Ps}(hb:s.bad=true) (hl:l≠ []):seesS ws s l=false:=by
 unfold seesS txt;rw[if_pos (Or.inl hb)];have:=no_bytes;rw[this]
 cases l with
 |nil=>exact absurd rfl hl
 |cons a l=>rfl
theorem sees_same (h:WordsOk ws) (hm:l∈keysZ) (hl:l≠ []):seesS ws ⟨i,false⟩ l=seesI ws i l:=by
 unfold seesS seesI txt;by_cases hi:ws.length<=i
 .rw[if_pos (Or.inr (Or.inl hi)),decide_eq_false yf,Bool.false_and];have:=no_bytes;rw[this]
  cases l with
  |nil=>exact absurd rfl hl
  |cons a l=>rfl
 .rw[decide_eq_true (by omega:i<ws.length),Bool.true_and];by_cases hk:(curW ws i).kind<3
  ·rw [if_pos (Or.inr (Or.inr hk))];have hmem:curW ws i∈ws:=by
    unfold curW;simp only[List.getD_eq_getElem?_getD];rw[List.getElem?_eq_getElem yf];exact List.getElem_mem _
   have hne:=h.plain _ hmem hk l hm;have:=no_bytes;rw[this];have e1:((curW ws i).text.toList==l)=false:=by simpa using hne
   rw[e1]
   cases l with
   |nil=>exact absurd rfl hl
   |cons a l=>rfl
  .rw[if_neg yk]
theorem take_alike (h:WordsOk ws) (hm:l∈keysZ) (hl:l≠ []):Alike (fun _ _=>True) (takeS ws l) (takeI ws l):=by
 refine⟨fun s hb=>?_,fun i=>?_⟩
 .unfold takeS;rw[sees_bad hb hl]
  cases s;simp only at hb;subst hb;rfl
 .unfold takeS takeI;rw[sees_same h hm hl]
  cases seesI ws i l
  .rfl
  .exact⟨(),rfl,trivial⟩
theorem name_alike:Alike (fun a b=>a=b) (nameS ws) (nameI ws):=by
 refine⟨fun s hb=>?_,fun i=>?_⟩
 .unfold nameS isNm;rw[hb]
  cases s;simp only at hb;subst hb;rfl
 .unfold nameS nameI isNm;by_cases hc:i<ws.length/\(curW ws i).kind=2
  .rw[if_pos hc];simp only[hc.1,hc.2,decide_true,Bool.not_false,Bool.and_self,if_true];exact⟨_,rfl,rfl⟩
  ·rw [if_neg hc];have:(!false && (decide (i<ws.length) && decide ((curW ws i).kind=2)))=false:=by
    simp only[Bool.not_false,Bool.true_and,Bool.and_eq_false_iff,decide_eq_false_iff_not];by_cases h1:i<ws.length
    .exact Or.inr (fun h2=>hc ⟨h1,h2⟩)
    .exact Or.inl h1
   rw[if_neg (by rw[this];exact Bool.false_ne_true)];rfl
theorem z41 {α β:Type}{ρ:α->β->Prop}(h:WordsOk ws) (hm:l∈keysZ) (hl:l≠ []) {p q:PS α}{p' q':PI β}(h1:Alike ρ p p') (h2:Alike ρ q q'):Alike ρ (orS ws l p q) (orI ws l p' q'):=by
 refine⟨fun s hb=>?_,fun i=>?_⟩
 .unfold orS;rw[sees_bad hb hl];exact h2.stuck s hb
 .unfold orS orI;rw[sees_same h hm hl]
  cases seesI ws i l
  .exact h2.same i
  .exact h1.same (i+1)
theorem or_stuck {α:Type}(hl:l≠ []) {p q:PS α}(h2:StuckS q):StuckS (orS ws l p q):=fun s hb=>by
 unfold orS;rw[sees_bad hb hl];exact h2 s hb
theorem z35 (hl:l≠ []):StuckS (takeS ws l):=fun s hb=>by
 unfold takeS;rw[sees_bad hb hl]
 cases s;simp only at hb;subst hb;rfl
theorem z55:StuckS (nameS ws):=(name_alike (ws:=ws)).stuck
theorem starts_bad {s:Ps}(hb:s.bad=true):startsS ws s=false:=by
 unfold startsS;rw[hb];rfl
theorem starts_same (i:Nat):startsS ws ⟨i,false⟩=startsI ws i:=rfl
theorem stuck_all:∀(f:Nat) (nt:Nt (List Nd)),StuckS (spz ws f nt)
 | 0,_=>fun s hb=>by
   cases s;simp only at hb;subst hb;rfl
 | f+1,nt=>by
   have hst:=stuck_all f
   cases nt;all_goals first
    | (refine fun s hb=>?_
       show((if startsS ws s then _ else _:List Nd×Ps)).2=s;rw[starts_bad hb];first
        |rfl
        |(cases s;simp only at hb;subst hb;rfl))
    |(repeat' (first|exact hst _|exact z27 _|exact z55|exact z35 yh|exact or_stuck yh (hst _)|exact or_stuck yh (z27 _)|refine or_stuck yh ?_|refine z26 ?_ (fun _=>?_)))
def Flat (l:List Nd) (t:Tr):Prop:=l=Tr.flat t
inductive NtR:Nt (List Nd)->Nt Tr->Prop
 |expr:NtR .expr .expr
 |cons:NtR .cons .cons
 |comp:NtR .comp .comp
 |sum:NtR .sum .sum
 |prod:NtR .prod .prod
 |call:NtR .call .call
 |atom:NtR .atom .atom
 |sumL {a:List Nd} {t:Tr} (h:Flat a t):NtR (.sumL a) (.sumL t)
 |prodL {a:List Nd} {t:Tr} (h:Flat a t):NtR (.prodL a) (.prodL t)
 |callL {a:List Nd} {t:Tr} (h:Flat a t):NtR (.callL a) (.callL t)
 |hand (k:Int):NtR (.hand k) (.hand k)
 |opsL (k:Int) {ks:List (List Nd)} {ts:List Tr} (h:ks=ts.map Tr.flat):NtR (.opsL k ks) (.opsL k ts)
theorem flat_mk (n:Nd) {ks:List (List Nd)}{ts:List Tr}(h:ks=ts.map Tr.flat):Flat (putN n ks) (mkT n ts):=by
 unfold Flat;rw[mkT_flat,h]
theorem flat1 (n:Nd) {t:Tr}(h:Flat a t):Flat (putN n [a]) (mkT n [t]):=flat_mk n (by rw[h];rfl)
theorem flat2 (n:Nd) {b:List Nd}{t u:Tr}(h:Flat a t) (h':Flat b u):Flat (putN n [a,b]) (mkT n [t,u]):=flat_mk n (by rw[h,h'];rfl)
theorem flat3 (n:Nd) {b c:List Nd}{t u v:Tr}(h:Flat a t) (h':Flat b u) (h'':Flat c v):Flat (putN n [a,b,c]) (mkT n [t,u,v]):=flat_mk n (by rw[h,h',h''];rfl)
section
variable {goS:Nt (List Nd)->PS (List Nd)}{goI:Nt Tr->PI Tr}
theorem brack_alike (h:WordsOk ws) (hgo:∀ {nt nt'},NtR nt nt'->Alike Flat (goS nt) (goI nt')):Alike Flat (brackS ws goS) (brackI ws goI):=by
 refine z41 h yh yh (.pure (flat_mk _ rfl)) (.bind (hgo .expr) (fun a t ha=>z41 h yh yh (.bind (hgo .expr) (fun b u hb=> .bind (take_alike h yh yh) (fun _ _ _=> .pure (flat2 _ ha hb)) ?_) ?_) (.bind (take_alike h yh yh) (fun _ _ _=> .pure ha) ?_)) ?_);all_goals intro _
 all_goals repeat' (first|exact z27 _|exact z55|exact z35 yh|exact or_stuck yh (z27 _)|refine or_stuck yh ?_|refine z26 ?_ (fun _=>?_))
theorem word_alike (h:WordsOk ws) (hgo:∀ {nt nt'},NtR nt nt'->Alike Flat (goS nt) (goI nt')) (w:Wd):Alike Flat (wordS ws goS w) (wordI ws goI w):=by
 unfold wordS wordI;split
 .exact .pure (flat_mk _ rfl)
 split
 .exact .pure (flat_mk _ rfl)
 split
 .exact .pure (flat_mk _ rfl)
 split
 .exact .pure (flat_mk _ rfl)
 split
 .exact .pure (flat_mk _ rfl)
 split
 .exact hgo (.hand 23)
 split
 .exact hgo (.hand 24)
 .exact brack_alike h hgo
theorem step_alike (h:WordsOk ws) (hst:∀nt,StuckS (goS nt)) (hgo:∀ {nt nt'},NtR nt nt'->Alike Flat (goS nt) (goI nt')) {nt:Nt (List Nd)}{nt':Nt Tr}(hn:NtR nt nt') (hstep:StuckS (stepS ws goS nt)):Alike Flat (stepS ws goS nt) (stepI ws goI nt'):=by
 have nm:=name_alike (ws:=ws);have tk:∀ {l:List UInt8},l∈keysZ->l≠ []->Alike (fun _ _=>True) (takeS ws l) (takeI ws l):=fun hm hl=>take_alike h hm hl
 have ex:=hgo .expr
 cases hn with
 | expr=>
   refine z41 h yh yh (z41 h yh yh ?_ ?_) (z41 h yh yh ?_ (z41 h yh yh ?_ (z41 h yh yh ?_ (hgo .cons))))
   .refine .bind nm (fun f f' hf=> .bind nm (fun x x' hx=> .bind (tk yh yh) (fun _ _ _=> .bind ex (fun a a' ha=> .bind (tk yh yh) (fun _ _ _=> .bind ex (fun b b' hb=> .pure ?_) ?_) ?_) ?_) ?_) ?_) ?_
    .subst hf hx;exact flat2 _ ha hb
    all_goals intro _
    all_goals repeat' (first|exact hst _|exact z27 _|exact z55|exact z35 yh|refine z26 ?_ (fun _=>?_))
   .refine .bind nm (fun x x' hx=> .bind (tk yh yh) (fun _ _ _=> .bind ex (fun a a' ha=> .bind (tk yh yh) (fun _ _ _=> .bind ex (fun b b' hb=> .pure ?_) ?_) ?_) ?_) ?_) ?_
    .subst hx;exact flat2 _ ha hb
    all_goals intro _
    all_goals repeat' (first|exact hst _|exact z27 _|exact z55|exact z35 yh|refine z26 ?_ (fun _=>?_))
   .refine .bind ex (fun a a' ha=> .bind (tk yh yh) (fun _ _ _=> .bind ex (fun b b' hb=> .bind (tk yh yh) (fun _ _ _=> .bind ex (fun c c' hc=> .pure (flat3 _ ha hb hc)) ?_) ?_) ?_) ?_) ?_;all_goals intro _
    all_goals repeat' (first|exact hst _|exact z27 _|exact z55|exact z35 yh|refine z26 ?_ (fun _=>?_))
   .refine .bind nm (fun x x' hx=> .bind (tk yh yh) (fun _ _ _=> .bind ex (fun a a' ha=> .pure ?_) ?_) ?_) ?_
    .subst hx;exact flat1 _ ha
    all_goals intro _
    all_goals repeat' (first|exact hst _|exact z27 _|exact z55|exact z35 yh|refine z26 ?_ (fun _=>?_))
   .refine .bind ex (fun a a' ha=> .bind (tk yh yh) (fun _ _ _=> .bind (tk yh yh) (fun _ _ _=> .bind (tk yh yh) (fun _ _ _=> .bind ex (fun b b' hb=> .bind (tk yh yh) (fun _ _ _=> .bind nm (fun x x' hx=> .bind (tk yh yh) (fun _ _ _=> .bind nm (fun y y' hy=> .bind (tk yh yh) (fun _ _ _=> .bind ex (fun c c' hc=> .pure ?_) ?_) ?_) ?_) ?_) ?_) ?_) ?_) ?_) ?_) ?_) ?_
    .subst hx hy;exact flat3 _ ha hb hc
    all_goals intro _
    all_goals repeat' (first|exact hst _|exact z27 _|exact z55|exact z35 yh|refine z26 ?_ (fun _=>?_))
 | cons=>
   refine .bind (hgo .comp) (fun a a' ha=>z41 h yh yh (.bind (hgo .cons) (fun b b' hb=> .pure (flat2 _ ha hb)) ?_) (.pure ha)) ?_;all_goals intro _
   all_goals repeat' (first|exact hst _|exact z27 _|exact or_stuck yh (z27 _)|refine z26 ?_ (fun _=>?_))
 | comp=>
   refine .bind (hgo .sum) (fun a a' ha=>z41 h yh yh (.bind (hgo .sum) (fun b b' hb=> .pure (flat2 _ ha hb)) ?_) (z41 h yh yh (.bind (hgo .sum) (fun b b' hb=> .pure (flat2 _ ha hb)) ?_) (.pure ha))) ?_;all_goals intro _
   all_goals repeat' (first|exact hst _|exact z27 _|exact or_stuck yh (z27 _)|refine or_stuck yh ?_|refine z26 ?_ (fun _=>?_))
 |sum=>exact .bind (hgo .prod) (fun a a' ha=>hgo (.sumL ha)) (fun _=>hst _)
 |prod=>exact .bind (hgo .call) (fun a a' ha=>hgo (.prodL ha)) (fun _=>hst _)
 | call=>
   refine .bind (?_:Alike Flat (headS ws goS) (headI ws goI)) (fun a a' ha=>hgo (.callL ha)) (fun _=>hst _);refine z41 h yh yh (.bind (hgo .atom) (fun a a' ha=> .pure (flat1 _ ha)) (fun _=>z27 _)) (z41 h yh yh (.bind (hgo .atom) (fun a a' ha=> .pure (flat1 _ ha)) (fun _=>z27 _)) (z41 h yh yh (.bind (hgo .atom) (fun a a' ha=> .pure (flat1 _ ha)) (fun _=>z27 _)) (z41 h yh yh (.bind nm (fun x x' hx=> .bind (hgo .atom) (fun a a' ha=> .pure ?_) (fun _=>z27 _)) (fun _=>z26 (hst _) (fun _=>z27 _))) (hgo .atom))));subst hx;exact flat1 _ ha
 | atom=>
   refine⟨hstep,fun i=>?_⟩;have e1:stepI ws goI .atom i=atomI ws goI i:=rfl;have e2:stepS ws goS .atom ⟨i,false⟩=atomS ws goS ⟨i,false⟩:=rfl;rw[e1,e2];unfold atomI atomS;rw[starts_same]
   cases startsI ws i
   .rfl
   .exact(word_alike h hgo (curW ws i)).same (i+1)
 | sumL ha=>
   refine z41 h yh yh ?_ (z41 h yh yh ?_ (.pure ha))
   .exact .bind (hgo .prod) (fun b b' hb=>hgo (.sumL (flat2 _ ha hb))) (fun _=>hst _)
   .exact .bind (hgo .prod) (fun b b' hb=>hgo (.sumL (flat2 _ ha hb))) (fun _=>hst _)
 | prodL ha=>
   refine z41 h yh yh ?_ (.pure ha);exact .bind (hgo .call) (fun b b' hb=>hgo (.prodL (flat2 _ ha hb))) (fun _=>hst _)
 | @callL a t ha=>
   refine⟨hstep,fun i=>?_⟩;have e1:stepI ws goI (.callL t) i=callLI ws goI t i:=rfl;have e2:stepS ws goS (.callL a) ⟨i,false⟩=callLS ws goS a ⟨i,false⟩:=rfl;rw[e1,e2];unfold callLI callLS;rw[starts_same]
   cases startsI ws i
   .exact⟨a,rfl,ha⟩
   .exact(Alike.bind (hgo .atom) (fun b b' hb=>hgo (.callL (flat2 _ ha hb))) (fun _=>hst _):Alike Flat _ _).same i
 | hand k=>
   show Alike Flat (handS ws goS k) (handI ws goI k);unfold handS handI;refine .bind ex (fun a a' ha=> .bind (tk yh yh) (fun _ _ _=> .bind (tk yh yh) (fun _ _ _=> .bind nm (fun x x' hx=> .bind (tk yh yh) (fun _ _ _=> .bind ex (fun b b' hb=>hgo (.opsL k ?_)) ?_) ?_) ?_) ?_) ?_) ?_
   .subst hx;have h2:=flat1 (nd1 25 x) hb;unfold Flat at ha h2;rw[ha,h2];rfl
   all_goals intro _
   all_goals repeat' (first|exact hst _|exact z27 _|exact z55|exact z35 yh|refine z26 ?_ (fun _=>?_))
 | @opsL k ks ts hks=>
   show Alike Flat (opsLS ws goS k ks) (opsLI ws goI k ts);unfold opsLS opsLI;refine z41 h yh yh (.bind nm (fun a a' ha=> .bind nm (fun b b' hb=> .bind nm (fun c c' hc=> .bind (tk yh yh) (fun _ _ _=> .bind ex (fun e e' he=>hgo (.opsL k ?_)) ?_) ?_) ?_) ?_) ?_) (.bind (tk yh yh) (fun _ _ _=> .pure (flat_mk _ hks)) (fun _=>z27 _))
   .subst ha hb hc;have h2:=flat1 (nd3 26 a b c) he;unfold Flat at h2;rw[h2,hks,List.map_append];rfl
   all_goals intro _
   all_goals repeat' (first|exact hst _|exact z27 _|exact z55|exact z35 yh|refine z26 ?_ (fun _=>?_))
end
theorem parse_alike (h:WordsOk ws):∀(f:Nat) {nt:Nt (List Nd)}{nt':Nt Tr},NtR nt nt'->Alike Flat (spz ws f nt) (ipz ws f nt')
 |0,nt,_,_=>⟨stuck_all 0 nt,fun _=>rfl⟩
 |f+1,nt,_,hn=>step_alike h (stuck_all f) (fun hn'=> parse_alike h f hn') hn (stuck_all (f+1) nt)
end
def lvK (k:Int):Int:=if k=8\/k=9\/k=10\/k=6\/k=20 then 0 else if k=19 then 1 else if k=14\/k=15 then 2 else if k=11\/k=12 then 3 else if k=13 then 4 else if k=7\/k=17\/k=18\/k=21\/k=22 then 5 else 6
def needZ (k:Int) (i:Nat):Int:=if k=7 then (if i=0 then 5 else 6) else if k=11\/k=12 then (if i=0 then 3 else 4) else if k=13 then (if i=0 then 4 else 5) else if k=14\/k=15 then 3 else if k=19 then (if i=0 then 2 else 1) else if k=17\/k=18\/k=21\/k=22 then 6 else 0
def ownB (k:Int):Nat:=if k=3\/k=16 then 1 else 0
def oF:Int->Nat->Fo->Nat
 |_,_,.none=>0
 |k,i,.tree n kk r=>(ownB n.kind+oF n.kind 0 kk)+(if lvK n.kind<needZ k i then 1 else 0)+oF k (i+1) r
def oB (t:Tr):Nat:=ownB t.1.kind+oF t.1.kind 0 t.2
def oS (t:Tr) (l:Int):Nat:=oB t+if lvK t.1.kind<l then 1 else 0
theorem oS_mono {t:Tr}{l l':Int}(h:l<=l'):oS t l<=oS t l':= by
 unfold oS;split<;>split<;>omega
theorem oS_le (t:Tr) (l:Int):oS t l<=oB t+1:=by
 unfold oS;split<;>omega
theorem lvK_pos (k:Int):0<=lvK k:=by
 unfold lvK;repeat' split
 all_goals omega
theorem oS_zero (t:Tr):oS t 0=oB t:=by
 unfold oS;rw[if_neg (by have:=lvK_pos t.1.kind;omega)];rfl
theorem oF_cons (k:Int) (i:Nat) (t:Tr) (r:List Tr):oF k i (foL (t::r))=oS t (needZ k i)+oF k (i+1) (foL r):=rfl
theorem oF_nil (k:Int) (i:Nat):oF k i (foL [])=0:=rfl
theorem oB_mk (n:Nd) (ks:List Tr):oB (mkT n ks)=ownB n.kind+oF n.kind 0 (foL ks):=rfl
theorem oS_mk (n:Nd) (ks:List Tr) (l:Int):oS (mkT n ks) l=ownB n.kind+oF n.kind 0 (foL ks)+if lvK n.kind<l then 1 else 0:=rfl
theorem oF_hand {k:Int}(hk:k=23\/k=24):∀(l:List Tr) (i:Nat),oF k i (foL l)=(l.map oB).sum
 |[],_=>rfl
 | t::r,i=>by
   have h0:needZ k i=0:=by
    unfold needZ;rcases hk with rfl|rfl<;>simp
   rw[oF_cons,oF_hand hk r,h0,oS_zero];rfl
section
variable (ws:List Wd)
def pc (i:Nat):Nat:=(ws.take i).countP (fun w=>w.text.toList==gOpen)
theorem pc_step (i:Nat):pc ws i<=pc ws (i+1):=by
 unfold pc;rw[List.take_add_one,List.countP_append];omega
theorem pc_open (hi:i<ws.length) (h:((curW ws i).text.toList==gOpen)=true):pc ws (i+1)=pc ws i+1:=by
 unfold pc;rw[List.take_add_one,List.countP_append,List.getElem?_eq_getElem hi];have e:curW ws i=ws[i]:=by
  unfold curW;rw[List.getD_eq_getElem?_getD,List.getElem?_eq_getElem hi];rfl
 rw[e]at h;simp[h]
def levelB:Nt Tr->Int
 |.expr=>0
 |.cons=>1
 |.comp=>2
 |.sum=>3
 |.prod=>4
 |.call=>5
 |.atom=>6
 |.sumL _=>3
 |.prodL _=>4
 |.callL _=>5
 |.hand _=>6
 |.opsL _ _=>6
def accB:Nt Tr->Nat
 |.sumL a=>oS a 3
 |.prodL a=>oS a 4
 |.callL a=>oS a 5
 |.opsL _ ks=>(ks.map oB).sum
 |_=>0
def okB:Nt Tr->Prop
 |.hand k=>k=23\/k=24
 |.opsL k _=>k=23\/k=24
 |_=>True
def TookB (l:Int) (a:Nat) (i:Nat) (t:Tr) (j:Nat):Prop:=i<=j/\pc ws i+oS t l<=pc ws j+a
variable {ws}
theorem z22 {α β:Type}{p:PI α}{k:α->PI β}{r:β×Nat}(h:bindI p k i=.ok r):∃a j,p i=.ok (a,j)/\k a j=.ok r:=by
 unfold bindI at h
 cases e:p i with
 |error x=>rw[e]at h;cases h
 |ok x=>rw[e]at h;exact⟨x.1,x.2,rfl,h⟩
theorem take_ok {r:Unit×Nat}(h:takeI ws l i=.ok r):r.2=i+1:=by
 unfold takeI at h;split at h
 .cases h;rfl
 .cases h
theorem name_ok {r:ByteArray×Nat}(h:nameI ws i=.ok r):r.2=i+1:=by
 unfold nameI at h;split at h
 .cases h;rfl
 .cases h
theorem or_ok {α:Type}{p q:PI α}{r:α×Nat}(h:orI ws l p q i=.ok r):p (i+1)=.ok r\/q i=.ok r:=by
 unfold orI at h;split at h
 .exact Or.inl h
 .exact Or.inr h
end
section
variable {ws:List Wd}{go:Nt Tr->PI Tr}
theorem z53 {r:Unit×Nat}(h:takeI ws l i=.ok r):r.2=i+1/\pc ws i<=pc ws r.2:=by
 have e:=take_ok h;rw[e];exact⟨rfl,pc_step ws i⟩
theorem name_pc {r:ByteArray×Nat}(h:nameI ws i=.ok r):r.2=i+1/\pc ws i<=pc ws r.2:=by
 have e:=name_ok h;rw[e];exact⟨rfl,pc_step ws i⟩
def PartsB (ws:List Wd) (go:Nt Tr->PI Tr):Prop:= ∀nt,okB nt-> ∀i r,go nt i=.ok r->TookB ws (levelB nt) (accB nt) i r.1 r.2
theorem let_took (H:PartsB ws go) {r:Tr×Nat}(h:letI' ws go i=.ok r):TookB ws 0 0 i r.1 r.2:=by
 unfold letI' at h;obtain⟨x1,j1,h1,h⟩:=z22 h;obtain⟨y2,j2,h2,h⟩:=z22 h;obtain⟨x3,j3,h3,h⟩:=z22 h;obtain⟨y4,j4,h4,h⟩:=z22 h;obtain⟨x5,j5,h5,h⟩:=z22 h
 cases h;have e1:=name_pc h1;have e2:=z53 h2;obtain⟨e3,f3⟩:=H (.expr) trivial _ _ h3;have e4:=z53 h4;obtain⟨e5,f5⟩:=H (.expr) trivial _ _ h5;simp only[levelB,accB]at f3 f5;dsimp only at e1 e2 e4;dsimp only at e3 f3 e5 f5;refine⟨zb,?_⟩;simp[oS_mk,oF_cons,oF_nil,nd1,needZ,lvK,ownB];omega
theorem rec_took (H:PartsB ws go) {r:Tr×Nat}(h:recI' ws go i=.ok r):TookB ws 0 0 i r.1 r.2:=by
 unfold recI' at h;obtain⟨x1,j1,h1,h⟩:=z22 h;obtain⟨x2,j2,h2,h⟩:=z22 h;obtain⟨y3,j3,h3,h⟩:=z22 h;obtain⟨x4,j4,h4,h⟩:=z22 h;obtain⟨y5,j5,h5,h⟩:=z22 h;obtain⟨x6,j6,h6,h⟩:=z22 h
 cases h;have e1:=name_pc h1;have e2:=name_pc h2;have e3:=z53 h3;obtain⟨e4,f4⟩:=H (.expr) trivial _ _ h4;have e5:=z53 h5;obtain⟨e6,f6⟩:=H (.expr) trivial _ _ h6;simp only[levelB,accB]at f4 f6;dsimp only at e1 e2 e3 e5;dsimp only at e4 f4 e6 f6;refine⟨zb,?_⟩;simp[oS_mk,oF_cons,oF_nil,nd2,needZ,lvK,ownB];omega
theorem cond_took (H:PartsB ws go) {r:Tr×Nat}(h:condI ws go i=.ok r):TookB ws 0 0 i r.1 r.2:=by
 unfold condI at h;obtain⟨x1,j1,h1,h⟩:=z22 h;obtain⟨y2,j2,h2,h⟩:=z22 h;obtain⟨x3,j3,h3,h⟩:=z22 h;obtain⟨y4,j4,h4,h⟩:=z22 h;obtain⟨x5,j5,h5,h⟩:=z22 h
 cases h;obtain⟨e1,f1⟩:=H (.expr) trivial _ _ h1;have e2:=z53 h2;obtain⟨e3,f3⟩:=H (.expr) trivial _ _ h3;have e4:=z53 h4;obtain⟨e5,f5⟩:=H (.expr) trivial _ _ h5;simp only[levelB,accB]at f1 f3 f5;dsimp only at e2 e4;dsimp only at e1 f1 e3 f3 e5 f5;refine zb86 ?_;omega
theorem fn_took (H:PartsB ws go) {r:Tr×Nat}(h:fnI ws go i=.ok r):TookB ws 0 0 i r.1 r.2:=by
 unfold fnI at h;obtain⟨x1,j1,h1,h⟩:=z22 h;obtain⟨y2,j2,h2,h⟩:=z22 h;obtain⟨x3,j3,h3,h⟩:=z22 h
 cases h;have e1:=name_pc h1;have e2:=z53 h2;obtain⟨e3,f3⟩:=H (.expr) trivial _ _ h3;simp only[levelB,accB]at f3;dsimp only at e1 e2;dsimp only at e3 f3;refine⟨zb,?_⟩;simp[oS_mk,oF_cons,oF_nil,nd1,needZ,lvK,ownB];omega
theorem case_took (H:PartsB ws go) {r:Tr×Nat}(h:caseI ws go i=.ok r):TookB ws 0 0 i r.1 r.2:=by
 unfold caseI at h;obtain⟨x1,j1,h1,h⟩:=z22 h;obtain⟨y2,j2,h2,h⟩:=z22 h;obtain⟨y3,j3,h3,h⟩:=z22 h;obtain⟨y4,j4,h4,h⟩:=z22 h;obtain⟨x5,j5,h5,h⟩:=z22 h;obtain⟨y6,j6,h6,h⟩:=z22 h;obtain⟨x7,j7,h7,h⟩:=z22 h;obtain⟨y8,j8,h8,h⟩:=z22 h;obtain⟨x9,j9,h9,h⟩:=z22 h;obtain⟨y10,j10,h10,h⟩:=z22 h;obtain⟨x11,j11,h11,h⟩:=z22 h
 cases h;obtain⟨e1,f1⟩:=H (.expr) trivial _ _ h1;have e2:=z53 h2;have e3:=z53 h3;have e4:=z53 h4;obtain⟨e5,f5⟩:=H (.expr) trivial _ _ h5;have e6:=z53 h6;have e7:=name_pc h7;have e8:=z53 h8;have e9:=name_pc h9;have e10:=z53 h10;obtain⟨e11,f11⟩:=H (.expr) trivial _ _ h11;simp only[levelB,accB]at f1 f5 f11;dsimp only at e2 e3 e4 e6 e7 e8 e9 e10;dsimp only at e1 f1 e5 f5 e11 f11;refine⟨zb,?_⟩;simp[oS_mk,oF_cons,oF_nil,nd2,needZ,lvK,ownB];omega
theorem expr_took (H:PartsB ws go) {r:Tr×Nat}(h:exprI ws go i=.ok r):TookB ws 0 0 i r.1 r.2:=by
 unfold exprI at h;have p1:=pc_step ws i;have p2:=pc_step ws (i+1);rcases or_ok h with h|h
 .rcases or_ok h with h|h
  .have:=rec_took H h;exact⟨qh,qi⟩
  .have:=let_took H h;exact⟨qh,qi⟩
 rcases or_ok h with h|h
 .have:=cond_took H h;exact⟨qh,qi⟩
 rcases or_ok h with h|h
 .have:=fn_took H h;exact⟨qh,qi⟩
 rcases or_ok h with h|h
 .have:=case_took H h;exact⟨qh,qi⟩
 obtain⟨e,f⟩:=H .cons trivial _ _ h;simp only[levelB,accB]at f;have:=oS_mono (t:=r.1) (show(0:Int)<=1 by decide);exact⟨e,yf⟩
theorem cons_took (H:PartsB ws go) {r:Tr×Nat}(h:consI ws go i=.ok r):TookB ws 1 0 i r.1 r.2:=by
 unfold consI at h;obtain⟨a,j,h1,h⟩:=z22 h;obtain⟨e1,f1⟩:=H .comp trivial _ _ h1;simp only[levelB,accB]at e1 f1;have p1:=pc_step ws j;rcases or_ok h with h|h
 .obtain⟨b,k,h2,h⟩:=z22 h;obtain⟨e2,f2⟩:=H .cons trivial _ _ h2;simp only[levelB,accB]at e2 f2
  cases h;refine zb86 ?_;omega
 .cases h;have:=oS_mono (t:=a) (show(1:Int)<=2 by decide);exact⟨e1,zb⟩
theorem comp_took (H:PartsB ws go) {r:Tr×Nat}(h:compI ws go i=.ok r):TookB ws 2 0 i r.1 r.2:=by
 unfold compI at h;obtain⟨a,j,h1,h⟩:=z22 h;obtain⟨e1,f1⟩:=H .sum trivial _ _ h1;simp only[levelB,accB]at e1 f1;have p1:=pc_step ws j;rcases or_ok h with h|h
 .obtain⟨b,k,h2,h⟩:=z22 h;obtain⟨e2,f2⟩:=H .sum trivial _ _ h2;simp only[levelB,accB]at e2 f2
  cases h;refine zb86 ?_;omega
 rcases or_ok h with h|h
 .obtain⟨b,k,h2,h⟩:=z22 h;obtain⟨e2,f2⟩:=H .sum trivial _ _ h2;simp only[levelB,accB]at e2 f2
  cases h;refine zb86 ?_;omega
 .cases h;have:=oS_mono (t:=a) (show(2:Int)<=3 by decide);exact⟨e1,zb⟩
theorem sum_took (H:PartsB ws go) {r:Tr×Nat}(h:sumI go i=.ok r):TookB ws 3 0 i r.1 r.2:=by
 unfold sumI at h;obtain⟨a,j,h1,h⟩:=z22 h;obtain⟨e1,f1⟩:=H .prod trivial _ _ h1;obtain⟨e2,f2⟩:=H (.sumL a) trivial _ _ h;simp only[levelB,accB]at e1 f1 e2 f2;have:=oS_mono (t:=a) (show(3:Int)<=4 by decide);exact⟨yf,yf⟩
theorem sumL_took (H:PartsB ws go) {a:Tr}{r:Tr×Nat}(h:sumLI ws go a i=.ok r):TookB ws 3 (oS a 3) i r.1 r.2:=by
 unfold sumLI at h;have p1:=pc_step ws i;rcases or_ok h with h|h
 .obtain⟨b,k,h2,h⟩:=z22 h;obtain⟨e2,f2⟩:=H .prod trivial _ _ h2;obtain⟨e3,f3⟩:=H (.sumL _) trivial _ _ h;simp only[levelB,accB]at e2 f2 e3 f3;have e:oS (mkT (nd0 11) [a,b]) 3=oS a 3+oS b 4:=qj;exact⟨yf,yf⟩
 rcases or_ok h with h|h
 .obtain⟨b,k,h2,h⟩:=z22 h;obtain⟨e2,f2⟩:=H .prod trivial _ _ h2;obtain⟨e3,f3⟩:=H (.sumL _) trivial _ _ h;simp only[levelB,accB]at e2 f2 e3 f3;have e:oS (mkT (nd0 12) [a,b]) 3=oS a 3+oS b 4:=qj;exact⟨yf,yf⟩
 .cases h;exact⟨La,La⟩
theorem prod_took (H:PartsB ws go) {r:Tr×Nat}(h:prodI go i=.ok r):TookB ws 4 0 i r.1 r.2:=by
 unfold prodI at h;obtain⟨a,j,h1,h⟩:=z22 h;obtain⟨e1,f1⟩:=H .call trivial _ _ h1;obtain⟨e2,f2⟩:=H (.prodL a) trivial _ _ h;simp only[levelB,accB]at e1 f1 e2 f2;have:=oS_mono (t:=a) (show(4:Int)<=5 by decide);exact⟨yf,yf⟩
theorem prodL_took (H:PartsB ws go) {a:Tr}{r:Tr×Nat}(h:prodLI ws go a i=.ok r):TookB ws 4 (oS a 4) i r.1 r.2:=by
 unfold prodLI at h;have p1:=pc_step ws i;rcases or_ok h with h|h
 .obtain⟨b,k,h2,h⟩:=z22 h;obtain⟨e2,f2⟩:=H .call trivial _ _ h2;obtain⟨e3,f3⟩:=H (.prodL _) trivial _ _ h;simp only[levelB,accB]at e2 f2 e3 f3;have e:oS (mkT (nd0 13) [a,b]) 4=oS a 4+oS b 5:=qj;exact⟨yf,yf⟩
 .cases h;exact⟨La,La⟩
theorem head_took (H:PartsB ws go) {r:Tr×Nat}(h:headI ws go i=.ok r):TookB ws 5 0 i r.1 r.2:=by
 unfold headI at h;have p1:=pc_step ws i;rcases or_ok h with h|h
 .obtain⟨b,k,h2,h⟩:=z22 h;obtain⟨e2,f2⟩:=H .atom trivial _ _ h2;simp only[levelB,accB]at e2 f2
  cases h;refine zb86 ?_;omega
 rcases or_ok h with h|h
 .obtain⟨b,k,h2,h⟩:=z22 h;obtain⟨e2,f2⟩:=H .atom trivial _ _ h2;simp only[levelB,accB]at e2 f2
  cases h;refine zb86 ?_;omega
 rcases or_ok h with h|h
 .obtain⟨b,k,h2,h⟩:=z22 h;obtain⟨e2,f2⟩:=H .atom trivial _ _ h2;simp only[levelB,accB]at e2 f2
  cases h;refine zb86 ?_;omega
 rcases or_ok h with h|h
 .obtain⟨x,j,h1,h⟩:=z22 h;obtain⟨b,k,h2,h⟩:=z22 h;have e1:=name_pc h1;obtain⟨e2,f2⟩:=H .atom trivial _ _ h2;simp only[levelB,accB]at e2 f2;dsimp only at e1
  cases h;refine⟨zb,?_⟩;simp[oS_mk,oF_cons,oF_nil,nd1,needZ,lvK,ownB];omega
 .obtain⟨e2,f2⟩:=H .atom trivial _ _ h;simp only[levelB,accB]at e2 f2;have:=oS_mono (t:=r.1) (show(5:Int)<=6 by decide);exact⟨e2,yf⟩
theorem call_took (H:PartsB ws go) {r:Tr×Nat}(h:callI ws go i=.ok r):TookB ws 5 0 i r.1 r.2:=by
 unfold callI at h;obtain⟨a,j,h1,h⟩:=z22 h;obtain⟨e1,f1⟩:=head_took H h1;obtain⟨e2,f2⟩:=H (.callL a) trivial _ _ h;simp only[levelB,accB]at e1 f1 e2 f2;exact⟨yf,yf⟩
theorem callL_took (H:PartsB ws go) {a:Tr}{r:Tr×Nat}(h:callLI ws go a i=.ok r):TookB ws 5 (oS a 5) i r.1 r.2:=by
 unfold callLI at h;split at h
 .obtain⟨b,k,h2,h⟩:=z22 h;obtain⟨e2,f2⟩:=H .atom trivial _ _ h2;obtain⟨e3,f3⟩:=H (.callL _) trivial _ _ h;simp only[levelB,accB]at e2 f2 e3 f3;have e:oS (mkT (nd0 7) [a,b]) 5=oS a 5+oS b 6:=qj;exact⟨yf,yf⟩
 .cases h;exact⟨La,La⟩
theorem brack_took (H:PartsB ws go) {r:Tr×Nat}(h:brackI ws go i=.ok r):i<=r.2/\pc ws i+oS r.1 6<=pc ws r.2+1:=by
 unfold brackI at h;have p1:=pc_step ws i;rcases or_ok h with h|h
 .cases h;refine⟨zb,?_⟩;simp[oS_mk,oF_nil,nd0,lvK,ownB];omega
 obtain⟨a,j,h1,h⟩:=z22 h;obtain⟨e1,f1⟩:=H .expr trivial _ _ h1;simp only[levelB,accB]at e1 f1;have p2:=pc_step ws j;rcases or_ok h with h|h
 .obtain⟨b,k,h2,h⟩:=z22 h;obtain⟨y,l,h3,h⟩:=z22 h;have e3:=z53 h3;obtain⟨e2,f2⟩:=H .expr trivial _ _ h2;simp only[levelB,accB]at e2 f2;dsimp only at e3
  cases h;refine zb86 ?_;omega
 .obtain⟨y,l,h3,h⟩:=z22 h;have e3:=z53 h3;dsimp only at e3
  cases h;rw[oS_zero]at f1;have:=oS_le a 6;exact⟨zb,zb⟩
theorem hand_took (H:PartsB ws go) {k:Int}(hk:k=23\/k=24) {r:Tr×Nat}(h:handI ws go k i=.ok r):TookB ws 6 0 i r.1 r.2:=by
 unfold handI at h;obtain⟨a,j1,h1,h⟩:=z22 h;obtain⟨y2,j2,h2,h⟩:=z22 h;obtain⟨y3,j3,h3,h⟩:=z22 h;obtain⟨x4,j4,h4,h⟩:=z22 h;obtain⟨y5,j5,h5,h⟩:=z22 h;obtain⟨b,j6,h6,h⟩:=z22 h;obtain⟨e1,f1⟩:=H .expr trivial _ _ h1;have e2:=z53 h2;have e3:=z53 h3;have e4:=name_pc h4;have e5:=z53 h5;obtain⟨e6,f6⟩:=H .expr trivial _ _ h6;obtain⟨e7,f7⟩:=H (.opsL k _) hk _ _ h;simp only[levelB,accB]at e1 f1 e6 f6 e7 f7;dsimp only at e2 e3 e4 e5;have e:oB (mkT (nd1 25 x4) [b])=oS b 0:=by simp[oB_mk,oF_cons,oF_nil,nd1,needZ,ownB]
 simp only[List.map_cons,List.map_nil,List.sum_cons,List.sum_nil,e]at f7;rw[oS_zero]at f1;exact⟨yf,yf⟩
theorem opsL_took (H:PartsB ws go) {k:Int}(hk:k=23\/k=24) {ks:List Tr}{r:Tr×Nat}(h:opsLI ws go k ks i=.ok r):TookB ws 6 (ks.map oB).sum i r.1 r.2:=by
 unfold opsLI at h;have p1:=pc_step ws i;rcases or_ok h with h|h
 .obtain⟨x1,j1,h1,h⟩:=z22 h;obtain⟨x2,j2,h2,h⟩:=z22 h;obtain⟨x3,j3,h3,h⟩:=z22 h;obtain⟨y4,j4,h4,h⟩:=z22 h;obtain⟨b,j5,h5,h⟩:=z22 h;have e1:=name_pc h1;have e2:=name_pc h2;have e3:=name_pc h3;have e4:=z53 h4;obtain⟨e6,f6⟩:=H .expr trivial _ _ h5;obtain⟨e7,f7⟩:=H (.opsL k _) hk _ _ h;simp only[levelB,accB]at e6 f6 e7 f7;dsimp only at e1 e2 e3 e4;have e:oB (mkT (nd3 26 x1 x2 x3) [b])=oS b 0:=by simp[oB_mk,oF_cons,oF_nil,nd3,needZ,ownB]
  simp only[List.map_append,List.sum_append,List.map_cons,List.map_nil,List.sum_cons,List.sum_nil,e]at f7;exact⟨yf,yf⟩
 .obtain⟨y,l,h3,h⟩:=z22 h;have e3:=z53 h3;dsimp only at e3
  cases h;refine⟨zb,?_⟩;have e:oS (mkT (nd0 k) ks) 6=(ks.map oB).sum:=by
   rw[oS_mk,show(nd0 k).kind=k from rfl,oF_hand hk];rcases hk with rfl|rfl<;>simp[ownB,lvK]
  dsimp only;omega
theorem atom_took (H:PartsB ws go) {r:Tr×Nat}(h:atomI ws go i=.ok r):TookB ws 6 0 i r.1 r.2:=by
 unfold atomI at h;split at h
 case isFalse=>cases h
 rename_i hs;have p1:=pc_step ws i;unfold wordI at h;split at h
 .cases h;refine⟨zb,?_⟩;simp[oS_mk,oF_nil,ndN,lvK,ownB];omega
 split at h
 .cases h;refine⟨zb,?_⟩;simp[oS_mk,oF_nil,nd1,lvK,ownB];omega
 split at h
 .cases h;refine⟨zb,?_⟩;simp[oS_mk,oF_nil,ndN,lvK,ownB];omega
 split at h
 .cases h;refine⟨zb,?_⟩;simp[oS_mk,oF_nil,nd0,lvK,ownB];omega
 split at h
 .cases h;refine⟨zb,?_⟩;simp[oS_mk,oF_nil,nd0,lvK,ownB];omega
 split at h
 .obtain⟨e,f⟩:=H (.hand 23) (Or.inl rfl) _ _ h;simp only[levelB,accB]at f;exact⟨yf,yf⟩
 split at h
 .obtain⟨e,f⟩:=H (.hand 24) (Or.inr rfl) _ _ h;simp only[levelB,accB]at f;exact⟨yf,yf⟩
 ·rename_i n1 n2 n3 n4 n5 n6 n7;obtain⟨e,f⟩:=brack_took H h;have hi:i<ws.length/\((curW ws i).text.toList==gOpen)=true:=by
   unfold startsI begins at hs;simp only[Bool.and_eq_true,decide_eq_true_eq,Bool.or_eq_true]at hs;refine⟨hs.1,?_⟩;rcases hs.2 with h|h|h|h|h|h|h|h
   .exact absurd h n1
   .exact absurd h n2
   .exact h
   .exact absurd h n3
   .exact absurd h n4
   .exact absurd h n5
   .exact absurd h n6
   .exact absurd h n7
  have:=pc_open ws hi.1 hi.2;exact⟨yf,yf⟩
end
theorem parts_all (ws:List Wd):∀F,PartsB ws (ipz ws F)
 |0=>fun _ _ _ _ h=>qk
 | F+1=>fun nt hk i r h=>by
   have H:=parts_all ws F
   cases nt with
   |expr=>exact expr_took H h
   |cons=>exact cons_took H h
   |comp=>exact comp_took H h
   |sum=>exact sum_took H h
   |prod=>exact prod_took H h
   |call=>exact call_took H h
   |atom=>exact atom_took H h
   |sumL a=>exact sumL_took H h
   |prodL a=>exact prodL_took H h
   |callL a=>exact callL_took H h
   |hand k=>exact hand_took H hk h
   |opsL k ks=>exact opsL_took H hk h
end
section
open Go.RowKit Go.Deep
theorem lv_same (k:Int):lvZ k=lvK k:=rfl
theorem clause_kind (h:Sk t) (hk:t.n.kind=23\/t.n.kind=24) {j:Nat}(hj:j<t.k.count) (h1:1<=j):(t.kid j).n.kind=25\/(t.kid j).n.kind=26:=by
 have h2:=(kids_role t.k t.n.kind 0 (t.at_+1) [] j h hj).1;rw[Nat.zero_add]at h2;unfold headOk at h2;simp only[Bool.and_eq_true]at h2;have hr:role t.n.kind j=1\/role t.n.kind j=2:=by
  unfold role;rw[if_pos hk];split<;>omega
 rcases hr with hr|hr
 .have:=h2.1.1;rw[hr]at this;exact Or.inl (by simpa[Tp.kid,Tp.kids]using this)
 .have:=h2.1.2;rw[hr]at this;exact Or.inr (by simpa[Tp.kid,Tp.kids]using this)
def FormT (B:Nat) (W:World) (t:Tp) (v:Value):Prop:= ∃us,Forms B W t.k us/\Shape B W t.n us v
theorem formsT_at {B:Nat}{W0:World}:∀(f:Fo) (vs:List Value) (q i:Nat),Forms B W0 f vs->i<f.count->FormT B W0 ((kidsAt f q).getD i default) (vs.getD i default)
 |.none,_,_,_,_,h=>by simp[Fo.count]at h
 | .tree n k r,_,q,0,⟨v,us,rest,e,h1,h2,h3⟩,_=>by
   subst e;simp only[kidsAt,List.getD_cons_zero];exact⟨us,h1,h2⟩
 | .tree n k r,_,q,i+1,⟨v,us,rest,e,h1,h2,h3⟩,hi=>by
   subst e;simp only[kidsAt,List.getD_cons_succ];exact formsT_at r rest _ i h3 (by simpa[Fo.count]using hi)
theorem lv_pos (k:Int):0<=lvZ k:=by
 unfold lvZ;repeat' split
 all_goals omega
theorem show0 (F:Nat) (t:Tp):showZ F t 0=bareZ F t:=by
 unfold showZ brZ;rw[if_neg];have:=lv_pos t.n.kind;omega
theorem z40 {W:World}{v:Value}{T:List UInt8}(Ty:TypeId) (pv:Value) (g:FuncId) (hv:v=.iface Ty pv) (hm:∀w,(method 344 Ty pv "loop.example/handrail/impl.text").run Tryz.prog w=.ok (g,pv) w)
 (hc:∀args w,(callFunc g args).run Tryz.prog w=.ok (.enter g args) w) (hK:∀w,Below W.heap.size W w->Calls Tryz.prog g #[pv] w (BareP w T)):TextOf W v T:=⟨Ty,pv,g,pv,hv,hm,hc,hK⟩
structure KidT (W:World) (F:Nat) (c:Tp) (u:Value):Prop where
 text:TextOf W u (bareZ F c)
 level:LevelOf u (lvZ c.n.kind)
 len:(bareZ F c).length<=18000
 face:∃T p,u=.iface T p
def TextR' (ns:List Nd) (B:Nat) (W:World) (F:Nat):Prop:= ∀(t:Tp) (v:Value),t.size<=F->Stands ns t->Ex t->FormT B W t v->KidT W F t v
def clT (F:Nat) (c:Tp):List UInt8:=if c.n.kind=25 then [114,101,116,32]++c.n.a.data.toList++ [32,45,62,32]++bareZ F (c.kid 0) else [124,32]++c.n.a.data.toList++ [32]++c.n.b.data.toList++ [32]++c.n.c.data.toList++ [32,45,62,32]++bareZ F (c.kid 0)
theorem getD_memT {l:List Tp}{k:Nat}(h:k<l.length):l.getD k default∈l:=by
 rw[show l.getD k default=l[k] by simp[List.getD,h]];exact List.getElem_mem h
theorem foldl_opT (go:Tp->Int->List UInt8):∀(l:List Tp) (T:List UInt8),l.foldl (fun T c=>T++opT c (go (c.kid 0) 0)) T=T++l.flatMap (fun c=>opT c (go (c.kid 0) 0))
 |[],T=>yn
 | c::l,T=>by
   rw[List.foldl_cons,foldl_opT go l,List.flatMap_cons,List.append_assoc]
theorem clausesT_eq (F:Nat):∀(l:List Tp),(∀c∈l,c.n.kind=26)->l.flatMap (fun c=>opT c (showZ F (c.kid 0) 0))=(l.map (clT F)).flatMap (fun T=>32::T)
 |[],_=>rfl
 | c::l,h=>by
   rw[List.flatMap_cons,List.map_cons,List.flatMap_cons,clausesT_eq F l (fun x hx=>h x (List.mem_cons_of_mem _ hx))];unfold clT opT;rw[if_neg (by rw[h c List.mem_cons_self];decide),show0];simp
theorem hand_eq (F:Nat) (t:Tp) (h2:2<=t.k.count) (h25:(t.kid 1).n.kind=25) (h26:∀c∈t.kids.drop 2,c.n.kind=26) :
 handT (showZ F) t=(if t.n.kind=24 then [115,104,97,108,108,111,119,32] else [104,97,110,100,108,101,32])++bareZ F (t.kid 0)++ [32,119,105,116,104]++((t.kids.drop 1).map (clT F)).flatMap (fun T=>32::T)++ [32,101,110,100]:=by
 have hd:t.kids.drop 1=t.kid 1::t.kids.drop 2:=by rw[(kidsM h2).1];rfl
 unfold handT;rw[foldl_opT,clausesT_eq F _ h26,hd,List.map_cons,List.flatMap_cons];unfold retT;rw[show0,show0,show clT F (t.kid 1)= [114,101,116,32]++(t.kid 1).n.a.data.toList++ [32,45,62,32]++bareZ F ((t.kid 1).kid 0) by unfold clT;rw[if_pos h25]];simp only[List.append_assoc,List.cons_append,List.nil_append]
theorem kidsAt_le:∀(f:Fo) (p:Nat) (c:Tp),c∈kidsAt f p->c.size<=f.flat.length
 |.none,_,_,h=>jl
 | .tree n k r,p,c,h=>by
   rw[kidsAt,List.mem_cons]at h;simp only[Fo.flat,List.length_cons,List.length_append];rcases h with rfl|h
   .show k.flat.length+1<=_;omega
   .have:=kidsAt_le r _ c h;omega
theorem kid_lt (h:i<t.k.count):(t.kid i).size<t.size:=by
 have:=kidsAt_le t.k (t.at_+1) _ (Tp.kid_mem h);unfold Tp.size at this |-;omega
section
variable {ns:List Nd}{B:Nat}{W:World}{F:Nat}
theorem clause_text (hnt:∀m∈ns,Neat m) (ih:TextR' ns B W F) {c:Tp}{u:Value}(hF:c.size<=F) (hs:Stands ns c) (hk:c.n.kind=25\/c.n.kind=26) (hx:Ex (c.kid 0)) (h1:c.k.count=1) (hFm:FormT B W c u):TextOf W u (clT F c)/\ ∃T p,u=.iface T p:=by
 obtain⟨us,hFo,hSh⟩:=hFm;have hne:=hs.neat hnt;have hfc:=hSh.iface;have hlt:=kid_lt (t:=c) (i:=0) yf;have k0:=ih (c.kid 0) (us.getD 0 default) yf (hs.kid yf) hx (formsT_at c.k us (c.at_+1) 0 hFo yf);refine⟨?_,hfc⟩;obtain⟨n,k,p⟩:=c;dsimp only at*
 cases hSh with
 | ret=>
   obtain⟨T0,p0,e0⟩:=k0.face;have t0:=k0.text;simp only[List.getD_cons_zero]at e0 t0;subst e0;refine z40 _ _ 258 rfl (fun w=>yb) (fun args w=>yb) (fun w hw=>?_);exact text_ret _ hne.a t0 k0.len w hw
 | op=>
   obtain⟨T0,p0,e0⟩:=k0.face;have t0:=k0.text;simp only[List.getD_cons_zero]at e0 t0;subst e0;refine z40 _ _ 261 rfl (fun w=>yb) (fun args w=>yb) (fun w hw=>?_);exact text_op _ hne.a _ hne.b _ hne.c t0 k0.len w hw
 |_=>exfalso;dsimp only at hk;omega
theorem text_step (hL:Laid W) (hl:ns.length<=300) (hnt:∀m∈ns,Neat m) (ih:TextR' ns B W F) {v:Value}(hF:t.size<=F+1) (hs:Stands ns t) (hx:Ex t) (hFm:FormT B W t v):TextOf W v (bareZ (F+1) t):=by
 obtain⟨us,hFo,hSh⟩:=hFm;have hne:=hs.neat hnt;have hct:us.length=t.k.count:=hFo.length;have kid:∀i,i<t.k.count->role t.n.kind i=0->KidT W F (t.kid i) (us.getD i default):=fun i hi hr=>ih (t.kid i) (us.getD i default) (by have:=kid_lt hi;omega) (hs.kid hi) (hx.1.ex hi hr) (formsT_at t.k us (t.at_+1) i hFo hi)
 have hlen:=(bare_len hnt (F+1)).2 t hF hs hx;have hs3:=hs.lt.2.2;have hcl:t.n.kind=23\/t.n.kind=24-> ∀i,1<=i->i<t.k.count->TextOf W (us.getD i default) (clT F (t.kid i))/\ ∃T p,us.getD i default=.iface T p:=fun hk i h1 hi=>by
  have hc1:(t.kid i).k.count=1:=(hs.head hk (t.kid i) (by
   have e:t.kid i∈t.kids.drop 1:=by
    have e2:t.kid i=(t.kids.drop 1).getD (i-1) default:=by
     show t.kids.getD i default=_;simp only[List.getD_eq_getElem?_getD,List.getElem?_drop];rw[show 1+(i-1)=i by omega]
    rw[e2];exact getD_memT jr
   exact e)).2
  exact clause_text hnt ih (by have:=kid_lt hi;omega) (hs.kid hi) (clause_kind hx.1 hk hi h1) (clause_ex hx.1 hi hc1) hc1 (formsT_at t.k us (t.at_+1) i hFo hi)
 have hk2:t.n.kind=23\/t.n.kind=24->2<=t.k.count/\t.k.count<=6:=fun hk=>(arity_at hs.toGood).2.1 (by rcases hk with e|e<;>rw[e]<;>rfl)
 have hcA:∀i,i<t.k.count->headOk (t.kid i).n (role t.n.kind i)=true:=fun i hi=>by
  have:=(kids_role t.k t.n.kind 0 (t.at_+1) [] i hx.1 hi).1;rw[Nat.zero_add]at this;exact this
 obtain⟨n,k,p⟩:=t;dsimp only at hct kid hlen hs3 hcl hk2 hcA hne hx
 cases hSh with
 | int=>
   rw[bare1 rfl];refine z40 _ _ 207 rfl (fun w=>yb) (fun args w=>yb) (fun w hw=>?_);exact text_int _ (by have:=hne.num rfl;dsimp only at this;unfold Long;omega) w (hL.stays hw)
 | bool=>
   rw[bare2 rfl];refine z40 _ _ 209 rfl (fun w=>yb) (fun args w=>yb) (fun w _=>?_);exact text_bool _ (hne.bit rfl) w
 | unit=>
   rw[bare3 rfl];refine z40 _ _ 213 rfl (fun w=>yb) (fun args w=>yb) (fun w _=>?_);exact text_unit w
 | nil=>
   rw[bare4 rfl];refine z40 _ _ 215 rfl (fun w=>yb) (fun args w=>yb) (fun w _=>?_);exact text_nil w
 | var=>
   rw[bare5 rfl];refine z40 _ _ 217 rfl (fun w=>yb) (fun args w=>yb) (fun w _=>?_);exact text_var _ w
 | fn=>
   refine zb70 ?_;intro k0 T0 p0 e0 t0;simp only[List.getD_cons_zero]at e0 t0;have l0:=k0.level;simp only[List.getD_cons_zero]at l0;subst e0;rw[bare6 rfl];simp only[text6,show0];refine z40 _ _ 203 rfl (fun w=>yb) (fun args w=>yb) (fun w hw=>?_);exact text_fn _ hne.a t0 (Lf k0.len yf) w hw
 | app=>
   refine zb70 ?_;intro k0 T0 p0 e0 t0;simp only[List.getD_cons_zero]at e0 t0;refine zb71 ?_;intro k1 T1 p1 e1 t1;simp only[List.getD_cons_zero,List.getD_cons_succ]at e1 t1;have l0:=k0.level;simp only[List.getD_cons_zero]at l0;subst e0;have l1:=k1.level;simp only[List.getD_cons_zero,List.getD_cons_succ]at l1;subst e1;rw[bare7 rfl];simp only[text7];refine z40 _ _ 221 rfl (fun w=>yb) (fun args w=>yb) (fun w hw=>?_);exact text_app l0 t0 k0.len l1 t1 k1.len w hw
 | bind=>
   refine zb70 ?_;intro k0 T0 p0 e0 t0;simp only[List.getD_cons_zero]at e0 t0;refine zb71 ?_;intro k1 T1 p1 e1 t1;simp only[List.getD_cons_zero,List.getD_cons_succ]at e1 t1;have l0:=k0.level;simp only[List.getD_cons_zero]at l0;subst e0;have l1:=k1.level;simp only[List.getD_cons_zero,List.getD_cons_succ]at l1;subst e1;rw[bare8 rfl];simp only[text8,show0];refine z40 _ _ 225 rfl (fun w=>yb) (fun args w=>yb) (fun w hw=>?_);exact text_let _ hne.a t0 k0.len t1 k1.len w hw
 | recur=>
   refine zb70 ?_;intro k0 T0 p0 e0 t0;simp only[List.getD_cons_zero]at e0 t0;refine zb71 ?_;intro k1 T1 p1 e1 t1;simp only[List.getD_cons_zero,List.getD_cons_succ]at e1 t1;have l0:=k0.level;simp only[List.getD_cons_zero]at l0;subst e0;have l1:=k1.level;simp only[List.getD_cons_zero,List.getD_cons_succ]at l1;subst e1;rw[bare9 rfl];simp only[text9,show0];refine z40 _ _ 228 rfl (fun w=>yb) (fun args w=>yb) (fun w hw=>?_);exact text_recur _ hne.a _ hne.b t0 k0.len t1 k1.len w hw
 | cond=>
   refine zb70 ?_;intro k0 T0 p0 e0 t0;simp only[List.getD_cons_zero]at e0 t0;refine zb71 ?_;intro k1 T1 p1 e1 t1;simp only[List.getD_cons_zero,List.getD_cons_succ]at e1 t1;have k2:=kid 2 za (z14 zb _);obtain⟨T2,p2,e2⟩:=k2.face;have t2:=k2.text;simp only[List.getD_cons_zero,List.getD_cons_succ]at e2 t2;have l0:=k0.level;simp only[List.getD_cons_zero]at l0;subst e0;have l1:=k1.level;simp only[List.getD_cons_zero,List.getD_cons_succ]at l1;subst e1;have l2:=k2.level;simp only[List.getD_cons_zero,List.getD_cons_succ]at l2;subst e2;rw[bare10 rfl];simp only[text10,show0]
   refine z40 _ _ 231 rfl (fun w=>yb) (fun args w=>yb) (fun w hw=>?_);exact text_cond t0 k0.len t1 k1.len t2 k2.len w hw
 | sign h=>
   rcases h with rfl|rfl|rfl|rfl|rfl
   all_goals
    refine zb70 ?_;intro k0 T0 p0 e0 t0;simp only[List.getD_cons_zero]at e0 t0;refine zb71 ?_;intro k1 T1 p1 e1 t1;simp only[List.getD_cons_zero,List.getD_cons_succ]at e1 t1;have l0:=k0.level;simp only[List.getD_cons_zero]at l0;subst e0;have l1:=k1.level;simp only[List.getD_cons_zero,List.getD_cons_succ]at l1;subst e1;first
     |(rw[bare11 rfl];simp only[text11])
     |(rw[bare12 rfl];simp only[text12])
     |(rw[bare13 rfl];simp only[text13])
     |(rw[bare14 rfl];simp only[text14])
     |(rw[bare15 rfl];simp only[text15])
    refine z40 _ _ 265 rfl (fun w=>yb) (fun args w=>yb) (fun w hw=>?_);first
     |exact text_sign yh rfl yh yh word11_calls l0 t0 k0.len l1 t1 k1.len w hw
     |exact text_sign yh rfl yh yh word12_calls l0 t0 k0.len l1 t1 k1.len w hw
     |exact text_sign yh rfl yh yh word13_calls l0 t0 k0.len l1 t1 k1.len w hw
     |exact text_sign yh rfl yh yh word14_calls l0 t0 k0.len l1 t1 k1.len w hw
     |exact text_sign yh rfl yh yh word15_calls l0 t0 k0.len l1 t1 k1.len w hw
 | pair=>
   refine zb70 ?_;intro k0 T0 p0 e0 t0;simp only[List.getD_cons_zero]at e0 t0;refine zb71 ?_;intro k1 T1 p1 e1 t1;simp only[List.getD_cons_zero,List.getD_cons_succ]at e1 t1;have l0:=k0.level;simp only[List.getD_cons_zero]at l0;subst e0;have l1:=k1.level;simp only[List.getD_cons_zero,List.getD_cons_succ]at l1;subst e1;rw[bare16 rfl];simp only[text16,show0];refine z40 _ _ 235 rfl (fun w=>yb) (fun args w=>yb) (fun w hw=>?_);exact text_pair t0 k0.len t1 k1.len w hw
 | take h=>
   rcases h with rfl|rfl|rfl
   all_goals
    refine zb70 ?_;intro k0 T0 p0 e0 t0;simp only[List.getD_cons_zero]at e0 t0;have l0:=k0.level;simp only[List.getD_cons_zero]at l0;subst e0;first
     |(rw[bare17 rfl];simp only[text17])
     |(rw[bare18 rfl];simp only[text18])
     |(rw[bare21 rfl];simp only[text21])
    refine z40 _ _ 239 rfl (fun w=>yb) (fun args w=>yb) (fun w hw=>?_);first
     |exact text_take yh word17_calls l0 t0 k0.len w hw
     |exact text_take yh word18_calls l0 t0 k0.len w hw
     |exact text_take yh word21_calls l0 t0 k0.len w hw
 | cons=>
   refine zb70 ?_;intro k0 T0 p0 e0 t0;simp only[List.getD_cons_zero]at e0 t0;refine zb71 ?_;intro k1 T1 p1 e1 t1;simp only[List.getD_cons_zero,List.getD_cons_succ]at e1 t1;have l0:=k0.level;simp only[List.getD_cons_zero]at l0;subst e0;have l1:=k1.level;simp only[List.getD_cons_zero,List.getD_cons_succ]at l1;subst e1;rw[bare19 rfl];simp only[text19];refine z40 _ _ 244 rfl (fun w=>yb) (fun args w=>yb) (fun w hw=>?_);have h:=text_cons l0 t0 k0.len l1 t1 k1.len w hw;simp only[List.append_assoc,List.cons_append,List.nil_append]at h |-;exact h
 | case=>
   refine zb70 ?_;intro k0 T0 p0 e0 t0;simp only[List.getD_cons_zero]at e0 t0;refine zb71 ?_;intro k1 T1 p1 e1 t1;simp only[List.getD_cons_zero,List.getD_cons_succ]at e1 t1;have k2:=kid 2 za (z14 zb _);obtain⟨T2,p2,e2⟩:=k2.face;have t2:=k2.text;simp only[List.getD_cons_zero,List.getD_cons_succ]at e2 t2;have l0:=k0.level;simp only[List.getD_cons_zero]at l0;subst e0;have l1:=k1.level;simp only[List.getD_cons_zero,List.getD_cons_succ]at l1;subst e1;have l2:=k2.level;simp only[List.getD_cons_zero,List.getD_cons_succ]at l2;subst e2;rw[bare20 rfl];simp only[text20,show0]
   refine z40 _ _ 247 rfl (fun w=>yb) (fun args w=>yb) (fun w hw=>?_);exact text_case _ hne.a _ hne.b t0 k0.len t1 k1.len t2 k2.len w hw
 | perform=>
   refine zb70 ?_;intro k0 T0 p0 e0 t0;simp only[List.getD_cons_zero]at e0 t0;have l0:=k0.level;simp only[List.getD_cons_zero]at l0;subst e0;rw[bare22 rfl];simp only[text22];refine z40 _ _ 251 rfl (fun w=>yb) (fun args w=>yb) (fun w hw=>?_);exact text_perform _ hne.a l0 t0 k0.len w hw
 | @handler kd num a b c kn u sl us h hrow hul=>
   have hk2':= hk2 h;rw[bareH h]at hlen |-;have h25:(Tp.kid ⟨⟨kd,num,a,b,c,kn⟩,k,p⟩ 1).n.kind=25:=by
    have:=hcA 1 yf;unfold headOk role at this;rw[if_pos h]at this;simp only[Bool.and_eq_true]at this;simpa using this.1.1
   have h26:∀x∈(Tp.kids ⟨⟨kd,num,a,b,c,kn⟩,k,p⟩).drop 2,x.n.kind=26:=by
    intro x hx';obtain⟨j,hj,e⟩:=List.mem_iff_getElem.1 hx';rw[List.length_drop,Tp.kids_len]at hj;have:=hcA (j+2) (by dsimp only at hj;omega);rw[show Tp.kid ⟨⟨kd,num,a,b,c,kn⟩,k,p⟩ (j+2)=x by
     rw[<-e,List.getElem_drop];show List.getD _ _ _=_;rw[List.getD_eq_getElem?_getD,List.getElem?_eq_getElem (by rw[Tp.kids_len];dsimp only at hj |-;omega),Option.getD_some];congr 1
     omega]at this
    unfold headOk role at this;rw[if_pos h]at this;simp only[Bool.and_eq_true]at this;have h2:=this.1.2;have e2:(if 2<j+2 then 2 else j+2)=2:=by split<;>omega
    rw[e2]at h2;simpa using h2
   rw[hand_eq F _ hk2'.1 h25 h26]at hlen |-;have k0:=kid 0 yf (role_first _);obtain⟨T0,p0,e0⟩:=k0.face;have t0:=k0.text;simp only[List.getD_cons_zero]at e0 t0;subst e0;have hm:((Tp.kids ⟨⟨kd,num,a,b,c,kn⟩,k,p⟩).drop 1).length=us.length:=by
    rw[List.length_drop,Tp.kids_len];simp at hct;dsimp only;omega
   refine z40 _ _ 255 rfl (fun w=>yb) (fun args w=>yb) (fun w hw=>?_);refine text_handler h t0 (hrow.kept (Li _) La (fun _ _ _=>rfl)) za (((Tp.kids ⟨⟨kd,num,a,b,c,kn⟩,k,p⟩).drop 1).map (clT F)) (by rw[List.length_map,hm]) (fun j hj=>?_) ?_ w hw
   ·have:=hcl h (j+1) yf za;simp only[List.getD_cons_succ]at this;refine⟨?_,this.2⟩;rw[show List.getD (((Tp.kids ⟨⟨kd,num,a,b,c,kn⟩,k,p⟩).drop 1).map (clT F)) j []=clT F (Tp.kid ⟨⟨kd,num,a,b,c,kn⟩,k,p⟩ (j+1)) by
     rw[List.getD_eq_getElem?_getD,List.getElem?_map,List.getElem?_drop,Nat.add_comm 1 j];show _=clT F (List.getD _ _ _);rw[List.getD_eq_getElem?_getD,List.getElem?_eq_getElem (by rw[Tp.kids_len];simp at hct;dsimp only;omega)];rfl]
    exact this.1
   .simp only[List.length_append]at hlen;omega
 |ret=>exact absurd rfl hx.2.1
 |op=>exact absurd rfl hx.2.2
end
theorem text_all {ns:List Nd}{B:Nat}{W:World}(hL:Laid W) (hl:ns.length<=300) (hnt:∀m∈ns,Neat m):∀F,TextR' ns B W F:=by
 intro F;induction F with
 |zero=>intro t v hF;have:=t.size_pos;omega
 | succ F ih=>
   intro t v hF hs hx hFm;have hT:=text_step hL hl hnt ih hF hs hx hFm;have hlen:=(bare_len hnt (F+1)).2 t hF hs hx;have h3:=hs.lt.2.2;obtain⟨us,hFo,hSh⟩:=hFm;exact⟨hT,levelOf hSh hFo.ifaces hx.2,yf,hSh.iface⟩
end
end Go.Proofs.YtfbojelpdccjaaaGreatDoor
