import Derived.Test.YtfbojelpdccjaaaGreatDoorPkB0
import Derived.Test.YtfbojelpdccjaaaGreatDoorPkB12
namespace Go.Proofs.YtfbojelpdccjaaaGreatDoor
open Go.RowKit
variable {a : List Nd} {l : List UInt8}
section
open Go.RowKit
structure Ps where
 at_ : Nat
 bad : Bool
def Ps.next (s : Ps) : Ps:=⟨s.at_+1,s.bad⟩
def Ps.fail (s : Ps) : Ps:=⟨s.at_,true⟩
def kLet : List UInt8:= [108,101,116]
def kRec : List UInt8:= [114,101,99]
def kIn : List UInt8:= [105,110]
def kIf : List UInt8:= [105,102]
def kThen : List UInt8:= [116,104,101,110]
def kElse : List UInt8:= [101,108,115,101]
def kFn : List UInt8:= [102,110]
def kCase : List UInt8:= [99,97,115,101]
def kOf : List UInt8:= [111,102]
def kNil : List UInt8:= [110,105,108]
def kFst : List UInt8:= [102,115,116]
def kSnd : List UInt8:= [115,110,100]
def kPrint : List UInt8:= [112,114,105,110,116]
def kDo : List UInt8:= [100,111]
def kTrue : List UInt8:= [116,114,117,101]
def kFalse : List UInt8:= [102,97,108,115,101]
def kHandle : List UInt8:= [104,97,110,100,108,101]
def kShallow : List UInt8:= [115,104,97,108,108,111,119]
def kWith : List UInt8:= [119,105,116,104]
def kRet : List UInt8:= [114,101,116]
def kEnd : List UInt8:= [101,110,100]
def kEffect : List UInt8:= [101,102,102,101,99,116]
def kInt : List UInt8:= [105,110,116]
def kBool : List UInt8:= [98,111,111,108]
def kUnit : List UInt8:= [117,110,105,116]
def kList : List UInt8:= [108,105,115,116]
def gEq : List UInt8:= [61]
def gLt : List UInt8:= [60]
def gTo : List UInt8:= [45,62]
def gGives : List UInt8:= [61,62]
def gCons : List UInt8:= [58,58]
def gBar : List UInt8:= [124]
def gPlus : List UInt8:= [43]
def gMinus : List UInt8:= [45]
def gStar : List UInt8:= [42]
def gOpen : List UInt8:= [40]
def gShut : List UInt8:= [41]
def gComma : List UInt8:= [44]
def gColon : List UInt8:= [58]
def gSemi : List UInt8:= [59]
abbrev PS (α : Type):=Ps→α×Ps
abbrev PI (α : Type):=Nat→Except Nat (α×Nat)
def bindS {α β : Type} (p : PS α) (k : α→PS β) : PS β:= fun s=>k (p s).1 (p s).2
def pureS {α : Type} (a : α) : PS α:= fun s=>(a,s)
def bindI {α β : Type} (p : PI α) (k : α→PI β) : PI β:= fun i=>match p i with
 | .error j=> .error j
 | .ok r=>k r.1 r.2
def pureI {α : Type} (a : α) : PI α:= fun i=> .ok (a,i)
section
variable (ws : List Wd)
def curW (i : Nat) : Wd:=ws.getD i default
def txt (s : Ps) : ByteArray:=if s.bad=true∨ws.length≤s.at_∨(curW ws s.at_).kind < 3 then ⟨#[]⟩ else (curW ws s.at_).text
def seesS (s : Ps) (l : List UInt8) : Bool:=(txt ws s).toList==l
def takeS (l : List UInt8) : PS Unit:=fun s=>((),if seesS ws s l then s.next else s.fail)
def isNm (s : Ps) : Bool:=!s.bad && (decide (s.at_ < ws.length) && decide ((curW ws s.at_).kind=2))
def nameS : PS ByteArray:=fun s=>if isNm ws s then ((curW ws s.at_).text,s.next) else (⟨#[]⟩,s.fail)
def begins (w : Wd) : Bool:=decide (w.kind=1) || (decide (w.kind=2) || ((w.text.toList==gOpen) || ((w.text.toList==kTrue) || ((w.text.toList==kFalse) || ((w.text.toList==kNil) || ((w.text.toList==kHandle) || (w.text.toList==kShallow)))))))
def startsS (s : Ps) : Bool:=!s.bad && (decide (s.at_ < ws.length) && begins (curW ws s.at_))
def seesI (i : Nat) (l : List UInt8) : Bool:=decide (i < ws.length) && ((curW ws i).text.toList==l)
def takeI (l : List UInt8) : PI Unit:=fun i=>if seesI ws i l then .ok ((),i+1) else .error i
def nameI : PI ByteArray:=fun i=>if i < ws.length∧(curW ws i).kind=2 then .ok ((curW ws i).text,i+1) else .error i
def startsI (i : Nat) : Bool:=decide (i < ws.length) && begins (curW ws i)
def orS {α : Type} (l : List UInt8) (p q : PS α) : PS α:= fun s=>if seesS ws s l then p s.next else q s
def orI {α : Type} (l : List UInt8) (p q : PI α) : PI α:= fun i=>if seesI ws i l then p (i+1) else q i
end
def numZ (l : List UInt8) : Nat:=l.foldl (fun n b=>10*n+(b.toNat - 48)) 0
def nd0 (k : Int) : Nd:=⟨k,0,⟨#[]⟩,⟨#[]⟩,⟨#[]⟩,0⟩
def nd1 (k : Int) (a : ByteArray) : Nd:=⟨k,0,a,⟨#[]⟩,⟨#[]⟩,0⟩
def nd2 (k : Int) (a b : ByteArray) : Nd:=⟨k,0,a,b,⟨#[]⟩,0⟩
def nd3 (k : Int) (a b c : ByteArray) : Nd:=⟨k,0,a,b,c,0⟩
def ndN (k n : Int) : Nd:=⟨k,n,⟨#[]⟩,⟨#[]⟩,⟨#[]⟩,0⟩
def Nd.with_ (n : Nd) (k : Nat) : Nd:=⟨n.kind,n.num,n.a,n.b,n.c,(k : Int)⟩
def putN (n : Nd) (ks : List (List Nd)) : List Nd:=n.with_ ks.length::ks.flatten
abbrev Tr:=Nd×Fo
def Tr.flat (t : Tr) : List Nd:=t.1::t.2.flat
def foL : List Tr→Fo
 | []=> .none
 | t::r=> .tree t.1 t.2 (foL r)
def mkT (n : Nd) (ks : List Tr) : Tr:=(n.with_ ks.length,foL ks)
theorem foL_flat : ∀ (l : List Tr),(foL l).flat=(l.map Tr.flat).flatten
 | []=>rfl
 | t::r=>by simp [foL,Fo.flat,foL_flat r,Tr.flat]
theorem mkT_flat (n : Nd) (ks : List Tr) : Tr.flat (mkT n ks)=putN n (ks.map Tr.flat):=by
 show n.with_ ks.length::(foL ks).flat=n.with_ (ks.map Tr.flat).length::(ks.map Tr.flat).flatten;rw [foL_flat,List.length_map]
inductive Nt (α : Type)
 | expr | cons | comp | sum | prod | call | atom
 | sumL (a : α) | prodL (a : α) | callL (a : α)
 | hand (k : Int)
 | opsL (k : Int) (ks : List α)
section
variable (ws : List Wd) (go : Nt (List Nd)→PS (List Nd))
def letS' : PS (List Nd):=bindS (nameS ws) fun x=>bindS (takeS ws gEq) fun _=>bindS (go .expr) fun a=>bindS (takeS ws kIn) fun _=>bindS (go .expr) fun b=>pureS (putN (nd1 8 x) [a,b])
def recS' : PS (List Nd):=bindS (nameS ws) fun f=>bindS (nameS ws) fun x=>bindS (takeS ws gEq) fun _=>bindS (go .expr) fun a=>bindS (takeS ws kIn) fun _=>bindS (go .expr) fun b=>pureS (putN (nd2 9 f x) [a,b])
def condS : PS (List Nd):=bindS (go .expr) fun a=>bindS (takeS ws kThen) fun _=>bindS (go .expr) fun b=>bindS (takeS ws kElse) fun _=>bindS (go .expr) fun c=>pureS (putN (nd0 10) [a,b,c])
def fnS : PS (List Nd):=bindS (nameS ws) fun x=>bindS (takeS ws gTo) fun _=>bindS (go .expr) fun a=>pureS (putN (nd1 6 x) [a])
def caseS : PS (List Nd):=bindS (go .expr) fun a=>bindS (takeS ws kOf) fun _=>bindS (takeS ws kNil) fun _=>bindS (takeS ws gTo) fun _=>bindS (go .expr) fun b=>bindS (takeS ws gBar) fun _=>bindS (nameS ws) fun h=>bindS (takeS ws gCons) fun _=>bindS (nameS ws) fun t=>bindS (takeS ws gTo) fun _=>bindS (go .expr) fun c=>pureS (putN (nd2 20 h t) [a,b,c])
def exprS : PS (List Nd):=orS ws kLet (orS ws kRec (recS' ws go) (letS' ws go)) (orS ws kIf (condS ws go) (orS ws kFn (fnS ws go) (orS ws kCase (caseS ws go) (go .cons))))
def consS : PS (List Nd):=bindS (go .comp) fun a=>orS ws gCons (bindS (go .cons) fun b=>pureS (putN (nd0 19) [a,b])) (pureS a)
def compS : PS (List Nd):=bindS (go .sum) fun a=>orS ws gEq (bindS (go .sum) fun b=>pureS (putN (nd0 14) [a,b])) (orS ws gLt (bindS (go .sum) fun b=>pureS (putN (nd0 15) [a,b])) (pureS a))
def sumS : PS (List Nd):=bindS (go .prod) fun a=>go (.sumL a)
def sumLS (a : (List Nd)) : PS (List Nd):=orS ws gPlus (bindS (go .prod) fun b=>go (.sumL (putN (nd0 11) [a,b]))) (orS ws gMinus (bindS (go .prod) fun b=>go (.sumL (putN (nd0 12) [a,b]))) (pureS a))
def prodS : PS (List Nd):=bindS (go .call) fun a=>go (.prodL a)
def prodLS (a : (List Nd)) : PS (List Nd):=orS ws gStar (bindS (go .call) fun b=>go (.prodL (putN (nd0 13) [a,b]))) (pureS a)
def headS : PS (List Nd):=orS ws kFst (bindS (go .atom) fun a=>pureS (putN (nd0 17) [a])) (orS ws kSnd (bindS (go .atom) fun a=>pureS (putN (nd0 18) [a])) (orS ws kPrint (bindS (go .atom) fun a=>pureS (putN (nd0 21) [a])) (orS ws kDo (bindS (nameS ws) fun x=>bindS (go .atom) fun a=>pureS (putN (nd1 22 x) [a])) (go .atom))))
def callS : PS (List Nd):=bindS (headS ws go) fun a=>go (.callL a)
def brackS : PS (List Nd):=orS ws gShut (pureS (putN (nd0 3) [])) (bindS (go .expr) fun a=>orS ws gComma (bindS (go .expr) fun b=>bindS (takeS ws gShut) fun _=>pureS (putN (nd0 16) [a,b])) (bindS (takeS ws gShut) fun _=>pureS a))
def handS (k : Int) : PS (List Nd):=bindS (go .expr) fun a=>bindS (takeS ws kWith) fun _=>bindS (takeS ws kRet) fun _=>bindS (nameS ws) fun x=>bindS (takeS ws gTo) fun _=>bindS (go .expr) fun b=>go (.opsL k [a,putN (nd1 25 x) [b]])
def opsLS (k : Int) (ks : List (List Nd)) : PS (List Nd):=orS ws gBar (bindS (nameS ws) fun a=>bindS (nameS ws) fun b=>bindS (nameS ws) fun c=>bindS (takeS ws gTo) fun _=>bindS (go .expr) fun e=>go (.opsL k (ks++ [putN (nd3 26 a b c) [e]]))) (bindS (takeS ws kEnd) fun _=>pureS (putN (nd0 k) ks))
def wordS (w : Wd) : PS (List Nd):=
 if w.kind=1 then pureS (putN (ndN 1 (numZ w.text.toList)) [])
 else if w.kind=2 then pureS (putN (nd1 5 w.text) [])
 else if (w.text.toList==kTrue)=true then pureS (putN (ndN 2 1) [])
 else if (w.text.toList==kFalse)=true then pureS (putN (nd0 2) [])
 else if (w.text.toList==kNil)=true then pureS (putN (nd0 4) [])
 else if (w.text.toList==kHandle)=true then go (.hand 23)
 else if (w.text.toList==kShallow)=true then go (.hand 24)
 else brackS ws go
def atomS : PS (List Nd):=fun s=>if startsS ws s then wordS ws go (curW ws s.at_) s.next else ([],s.fail)
def callLS (a : List Nd) : PS (List Nd):=fun s=>if startsS ws s then bindS (go .atom) (fun b=>go (.callL (putN (nd0 7) [a,b]))) s else pureS a s
def stepS : Nt (List Nd)→PS (List Nd)
 | .expr=>exprS ws go
 | .cons=>consS ws go
 | .comp=>compS ws go
 | .sum=>sumS go
 | .prod=>prodS go
 | .call=>callS ws go
 | .atom=>atomS ws go
 | .sumL a=>sumLS ws go a
 | .prodL a=>prodLS ws go a
 | .callL a=>callLS ws go a
 | .hand k=>handS ws go k
 | .opsL k ks=>opsLS ws go k ks
end
def spz (ws : List Wd) : Nat→Nt (List Nd)→PS (List Nd)
 | 0,_=>fun s=>([],s.fail)
 | f+1,nt=>stepS ws (spz ws f) nt
section
variable (ws : List Wd) (go : Nt Tr→PI Tr)
def letI' : PI Tr:=bindI (nameI ws) fun x=>bindI (takeI ws gEq) fun _=>bindI (go .expr) fun a=>bindI (takeI ws kIn) fun _=>bindI (go .expr) fun b=>pureI (mkT (nd1 8 x) [a,b])
def recI' : PI Tr:=bindI (nameI ws) fun f=>bindI (nameI ws) fun x=>bindI (takeI ws gEq) fun _=>bindI (go .expr) fun a=>bindI (takeI ws kIn) fun _=>bindI (go .expr) fun b=>pureI (mkT (nd2 9 f x) [a,b])
def condI : PI Tr:=bindI (go .expr) fun a=>bindI (takeI ws kThen) fun _=>bindI (go .expr) fun b=>bindI (takeI ws kElse) fun _=>bindI (go .expr) fun c=>pureI (mkT (nd0 10) [a,b,c])
def fnI : PI Tr:=bindI (nameI ws) fun x=>bindI (takeI ws gTo) fun _=>bindI (go .expr) fun a=>pureI (mkT (nd1 6 x) [a])
def caseI : PI Tr:=bindI (go .expr) fun a=>bindI (takeI ws kOf) fun _=>bindI (takeI ws kNil) fun _=>bindI (takeI ws gTo) fun _=>bindI (go .expr) fun b=>bindI (takeI ws gBar) fun _=>bindI (nameI ws) fun h=>bindI (takeI ws gCons) fun _=>bindI (nameI ws) fun t=>bindI (takeI ws gTo) fun _=>bindI (go .expr) fun c=>pureI (mkT (nd2 20 h t) [a,b,c])
def exprI : PI Tr:=orI ws kLet (orI ws kRec (recI' ws go) (letI' ws go)) (orI ws kIf (condI ws go) (orI ws kFn (fnI ws go) (orI ws kCase (caseI ws go) (go .cons))))
def consI : PI Tr:=bindI (go .comp) fun a=>orI ws gCons (bindI (go .cons) fun b=>pureI (mkT (nd0 19) [a,b])) (pureI a)
def compI : PI Tr:=bindI (go .sum) fun a=>orI ws gEq (bindI (go .sum) fun b=>pureI (mkT (nd0 14) [a,b])) (orI ws gLt (bindI (go .sum) fun b=>pureI (mkT (nd0 15) [a,b])) (pureI a))
def sumI : PI Tr:=bindI (go .prod) fun a=>go (.sumL a)
def sumLI (a : Tr) : PI Tr:=orI ws gPlus (bindI (go .prod) fun b=>go (.sumL (mkT (nd0 11) [a,b]))) (orI ws gMinus (bindI (go .prod) fun b=>go (.sumL (mkT (nd0 12) [a,b]))) (pureI a))
def prodI : PI Tr:=bindI (go .call) fun a=>go (.prodL a)
def prodLI (a : Tr) : PI Tr:=orI ws gStar (bindI (go .call) fun b=>go (.prodL (mkT (nd0 13) [a,b]))) (pureI a)
def headI : PI Tr:=orI ws kFst (bindI (go .atom) fun a=>pureI (mkT (nd0 17) [a])) (orI ws kSnd (bindI (go .atom) fun a=>pureI (mkT (nd0 18) [a])) (orI ws kPrint (bindI (go .atom) fun a=>pureI (mkT (nd0 21) [a])) (orI ws kDo (bindI (nameI ws) fun x=>bindI (go .atom) fun a=>pureI (mkT (nd1 22 x) [a])) (go .atom))))
def callI : PI Tr:=bindI (headI ws go) fun a=>go (.callL a)
def brackI : PI Tr:=orI ws gShut (pureI (mkT (nd0 3) [])) (bindI (go .expr) fun a=>orI ws gComma (bindI (go .expr) fun b=>bindI (takeI ws gShut) fun _=>pureI (mkT (nd0 16) [a,b])) (bindI (takeI ws gShut) fun _=>pureI a))
def handI (k : Int) : PI Tr:=bindI (go .expr) fun a=>bindI (takeI ws kWith) fun _=>bindI (takeI ws kRet) fun _=>bindI (nameI ws) fun x=>bindI (takeI ws gTo) fun _=>bindI (go .expr) fun b=>go (.opsL k [a,mkT (nd1 25 x) [b]])
def opsLI (k : Int) (ks : List Tr) : PI Tr:=orI ws gBar (bindI (nameI ws) fun a=>bindI (nameI ws) fun b=>bindI (nameI ws) fun c=>bindI (takeI ws gTo) fun _=>bindI (go .expr) fun e=>go (.opsL k (ks++ [mkT (nd3 26 a b c) [e]]))) (bindI (takeI ws kEnd) fun _=>pureI (mkT (nd0 k) ks))
def wordI (w : Wd) : PI Tr:=
 if w.kind=1 then pureI (mkT (ndN 1 (numZ w.text.toList)) [])
 else if w.kind=2 then pureI (mkT (nd1 5 w.text) [])
 else if (w.text.toList==kTrue)=true then pureI (mkT (ndN 2 1) [])
 else if (w.text.toList==kFalse)=true then pureI (mkT (nd0 2) [])
 else if (w.text.toList==kNil)=true then pureI (mkT (nd0 4) [])
 else if (w.text.toList==kHandle)=true then go (.hand 23)
 else if (w.text.toList==kShallow)=true then go (.hand 24)
 else brackI ws go
def atomI : PI Tr:=fun i=>if startsI ws i then wordI ws go (curW ws i) (i+1) else .error i
def callLI (a : Tr) : PI Tr:=fun i=>if startsI ws i then bindI (go .atom) (fun b=>go (.callL (mkT (nd0 7) [a,b]))) i else pureI a i
def stepI : Nt Tr→PI Tr
 | .expr=>exprI ws go
 | .cons=>consI ws go
 | .comp=>compI ws go
 | .sum=>sumI go
 | .prod=>prodI go
 | .call=>callI ws go
 | .atom=>atomI ws go
 | .sumL a=>sumLI ws go a
 | .prodL a=>prodLI ws go a
 | .callL a=>callLI ws go a
 | .hand k=>handI ws go k
 | .opsL k ks=>opsLI ws go k ks
end
def ipz (ws : List Wd) : Nat→Nt Tr→PI Tr
 | 0,_=>fun i=> .error i
 | f+1,nt=>stepI ws (ipz ws f) nt
def StuckS {α : Type} (p : PS α) : Prop:= ∀ s,s.bad=true→(p s).2=s
structure Alike {α β : Type} (ρ : α→β→Prop) (p : PS α) (e : PI β) : Prop where
 stuck : StuckS p
 same : ∀ i,match e i with
  | .ok r=> ∃ a,p ⟨i,false⟩=(a,⟨r.2,false⟩)∧ρ a r.1
  | .error j=>(p ⟨i,false⟩).2=⟨j,true⟩
section
variable {α β γ δ : Type} {ρ : α→β→Prop} {σ : γ→δ→Prop}
theorem Alike.bind {p : PS α} {e : PI β} {k : α→PS γ} {k' : β→PI δ} (h : Alike ρ p e) (hk : ∀ a b,ρ a b→Alike σ (k a) (k' b)) (hs : ∀ a,StuckS (k a)) : Alike σ (bindS p k) (bindI e k'):=by
 refine⟨fun s hb=>?_,fun i=>?_⟩
 ·unfold bindS;rw [h.stuck s hb];exact hs _ s hb
 ·have h1:=h.same i;unfold bindI bindS
  cases he : e i with
  | error j=>
    rw [he] at h1;dsimp only at h1 ⊢;rw [h1];exact hs _ ⟨j,true⟩ rfl
  | ok r=>
    rw [he] at h1;obtain⟨a,h2,h3⟩:=h1;dsimp only;rw [h2];exact (hk a r.1 h3).same r.2
theorem z47 {p : PS α} {k : α→PS γ} (h : StuckS p) (hs : ∀ a,StuckS (k a)) : StuckS (bindS p k):=fun s hb=>by
 unfold bindS;rw [h s hb];exact hs _ s hb
theorem z29 (a : α) : StuckS (pureS a):=fun _ _=>rfl
theorem Alike.pure {a : α} {b : β} (h : ρ a b) : Alike ρ (pureS a) (pureI b):=⟨z29 a,fun _=>⟨a,rfl,h⟩⟩
end
theorem no_bytes : (⟨#[]⟩ : ByteArray).toList= []:=by
 rw [ByteArray.toList,ByteArray.toList.loop];rfl
def keysZ : List (List UInt8):= [kLet,kRec,kIn,kIf,kThen,kElse,kFn,kCase,kOf,kNil,kFst,kSnd,kPrint,kDo,kTrue,kFalse,kHandle,kShallow,kWith,kRet,kEnd,kEffect,kInt,kBool,kUnit,kList,gEq,gLt,gTo,gGives,gCons,gBar,gPlus,gMinus,gStar,gOpen,gShut,gComma,gColon,gSemi]
structure WordsOk (ws : List Wd) : Prop where
 plain : ∀ w∈ws,w.kind < 3→ ∀ l∈keysZ,w.text.toList≠l
section
variable {ws : List Wd}
theorem sees_bad {s : Ps} (hb : s.bad=true) (hl : l≠ []) : seesS ws s l=false:=by
 unfold seesS txt;rw [if_pos (Or.inl hb)];have:=no_bytes;rw [this]
 cases l with
 | nil=>exact absurd rfl hl
 | cons a l=>rfl
theorem sees_same (h : WordsOk ws) {i : Nat} (hm : l∈keysZ) (hl : l≠ []) : seesS ws ⟨i,false⟩ l=seesI ws i l:=by
 unfold seesS seesI txt;by_cases hi : ws.length≤i
 ·rw [if_pos (Or.inr (Or.inl hi)),decide_eq_false (by omega),Bool.false_and];have:=no_bytes;rw [this]
  cases l with
  | nil=>exact absurd rfl hl
  | cons a l=>rfl
 ·rw [decide_eq_true (by omega : i < ws.length),Bool.true_and];by_cases hk : (curW ws i).kind < 3
  ·rw [if_pos (Or.inr (Or.inr hk))];have hmem : curW ws i∈ws:=by
    unfold curW;simp only [List.getD_eq_getElem?_getD];rw [List.getElem?_eq_getElem (by omega)];exact List.getElem_mem _
   have hne:=h.plain _ hmem hk l hm;have:=no_bytes;rw [this];have e1 : ((curW ws i).text.toList==l)=false:=by simpa using hne
   rw [e1]
   cases l with
   | nil=>exact absurd rfl hl
   | cons a l=>rfl
  ·rw [if_neg (by simp; omega)]
theorem take_alike (h : WordsOk ws) (hm : l∈keysZ) (hl : l≠ []) : Alike (fun _ _=>True) (takeS ws l) (takeI ws l):=by
 refine⟨fun s hb=>?_,fun i=>?_⟩
 ·unfold takeS;rw [sees_bad hb hl]
  cases s;simp only at hb;subst hb;rfl
 ·unfold takeS takeI;rw [sees_same h hm hl]
  cases seesI ws i l
  ·rfl
  ·exact⟨(),rfl,trivial⟩
theorem name_alike : Alike (fun a b=>a=b) (nameS ws) (nameI ws):=by
 refine⟨fun s hb=>?_,fun i=>?_⟩
 ·unfold nameS isNm;rw [hb]
  cases s;simp only at hb;subst hb;rfl
 ·unfold nameS nameI isNm;by_cases hc : i < ws.length∧(curW ws i).kind=2
  ·rw [if_pos hc];simp only [hc.1,hc.2,decide_true,Bool.not_false,Bool.and_self,if_true];exact⟨_,rfl,rfl⟩
  ·rw [if_neg hc];have : (!false && (decide (i < ws.length) && decide ((curW ws i).kind=2)))=false:=by
    simp only [Bool.not_false,Bool.true_and,Bool.and_eq_false_iff,decide_eq_false_iff_not];by_cases h1 : i < ws.length
    ·exact Or.inr (fun h2=>hc ⟨h1,h2⟩)
    ·exact Or.inl h1
   rw [if_neg (by rw [this]; exact Bool.false_ne_true)];rfl
theorem z46 {α β : Type} {ρ : α→β→Prop} (h : WordsOk ws) (hm : l∈keysZ) (hl : l≠ []) {p q : PS α} {p' q' : PI β} (h1 : Alike ρ p p') (h2 : Alike ρ q q') : Alike ρ (orS ws l p q) (orI ws l p' q'):=by
 refine⟨fun s hb=>?_,fun i=>?_⟩
 ·unfold orS;rw [sees_bad hb hl];exact h2.stuck s hb
 ·unfold orS orI;rw [sees_same h hm hl]
  cases seesI ws i l
  ·exact h2.same i
  ·exact h1.same (i+1)
theorem or_stuck {α : Type} (hl : l≠ []) {p q : PS α} (h2 : StuckS q) : StuckS (orS ws l p q):=fun s hb=>by
 unfold orS;rw [sees_bad hb hl];exact h2 s hb
theorem take_stuck (hl : l≠ []) : StuckS (takeS ws l):=fun s hb=>by
 unfold takeS;rw [sees_bad hb hl]
 cases s;simp only at hb;subst hb;rfl
theorem z70 : StuckS (nameS ws):=(name_alike (ws:=ws)).stuck
theorem starts_bad {s : Ps} (hb : s.bad=true) : startsS ws s=false:=by
 unfold startsS;rw [hb];rfl
theorem starts_same (i : Nat) : startsS ws ⟨i,false⟩=startsI ws i:=rfl
theorem stuck_all : ∀ (f : Nat) (nt : Nt (List Nd)),StuckS (spz ws f nt)
 | 0,_=>fun s hb=>by
   cases s;simp only at hb;subst hb;rfl
 | f+1,nt=>by
   have hst:=stuck_all f
   cases nt;all_goals first
    | (refine fun s hb=>?_
       show ((if startsS ws s then _ else _ : List Nd×Ps)).2=s;rw [starts_bad hb];first
        | rfl
        | (cases s; simp only at hb; subst hb; rfl))
    | (repeat' (first | exact hst _ | exact z29 _ | exact z70 | exact take_stuck (by decide) | exact or_stuck (by decide) (hst _) | exact or_stuck (by decide) (z29 _) | refine or_stuck (by decide) ?_ | refine z47 ?_ (fun _=>?_)))
def Flat (l : List Nd) (t : Tr) : Prop:=l=Tr.flat t
inductive NtR : Nt (List Nd)→Nt Tr→Prop
 | expr : NtR .expr .expr
 | cons : NtR .cons .cons
 | comp : NtR .comp .comp
 | sum : NtR .sum .sum
 | prod : NtR .prod .prod
 | call : NtR .call .call
 | atom : NtR .atom .atom
 | sumL {a : List Nd} {t : Tr} (h : Flat a t) : NtR (.sumL a) (.sumL t)
 | prodL {a : List Nd} {t : Tr} (h : Flat a t) : NtR (.prodL a) (.prodL t)
 | callL {a : List Nd} {t : Tr} (h : Flat a t) : NtR (.callL a) (.callL t)
 | hand (k : Int) : NtR (.hand k) (.hand k)
 | opsL (k : Int) {ks : List (List Nd)} {ts : List Tr} (h : ks=ts.map Tr.flat) : NtR (.opsL k ks) (.opsL k ts)
theorem flat_mk (n : Nd) {ks : List (List Nd)} {ts : List Tr} (h : ks=ts.map Tr.flat) : Flat (putN n ks) (mkT n ts):=by
 unfold Flat;rw [mkT_flat,h]
theorem flat1 (n : Nd) {t : Tr} (h : Flat a t) : Flat (putN n [a]) (mkT n [t]):=flat_mk n (by rw [h]; rfl)
theorem flat2 (n : Nd) {b : List Nd} {t u : Tr} (h : Flat a t) (h' : Flat b u) : Flat (putN n [a,b]) (mkT n [t,u]):=flat_mk n (by rw [h,h']; rfl)
theorem flat3 (n : Nd) {b c : List Nd} {t u v : Tr} (h : Flat a t) (h' : Flat b u) (h'' : Flat c v) : Flat (putN n [a,b,c]) (mkT n [t,u,v]):=flat_mk n (by rw [h,h',h'']; rfl)
section
variable {goS : Nt (List Nd)→PS (List Nd)} {goI : Nt Tr→PI Tr}
theorem brack_alike (h : WordsOk ws) (hgo : ∀ {nt nt'},NtR nt nt'→Alike Flat (goS nt) (goI nt')) : Alike Flat (brackS ws goS) (brackI ws goI):=by
 refine z46 h (by decide) (by decide) (.pure (flat_mk _ rfl)) (.bind (hgo .expr) (fun a t ha=>z46 h (by decide) (by decide) (.bind (hgo .expr) (fun b u hb=> .bind (take_alike h (by decide) (by decide)) (fun _ _ _=> .pure (flat2 _ ha hb)) ?_) ?_) (.bind (take_alike h (by decide) (by decide)) (fun _ _ _=> .pure ha) ?_)) ?_);all_goals intro _
 all_goals repeat' (first | exact z29 _ | exact z70 | exact take_stuck (by decide) | exact or_stuck (by decide) (z29 _) | refine or_stuck (by decide) ?_ | refine z47 ?_ (fun _=>?_))
theorem word_alike (h : WordsOk ws) (hgo : ∀ {nt nt'},NtR nt nt'→Alike Flat (goS nt) (goI nt')) (w : Wd) : Alike Flat (wordS ws goS w) (wordI ws goI w):=by
 unfold wordS wordI;split
 ·exact .pure (flat_mk _ rfl)
 split
 ·exact .pure (flat_mk _ rfl)
 split
 ·exact .pure (flat_mk _ rfl)
 split
 ·exact .pure (flat_mk _ rfl)
 split
 ·exact .pure (flat_mk _ rfl)
 split
 ·exact hgo (.hand 23)
 split
 ·exact hgo (.hand 24)
 ·exact brack_alike h hgo
theorem step_alike (h : WordsOk ws) (hst : ∀ nt,StuckS (goS nt)) (hgo : ∀ {nt nt'},NtR nt nt'→Alike Flat (goS nt) (goI nt')) {nt : Nt (List Nd)} {nt' : Nt Tr} (hn : NtR nt nt') (hstep : StuckS (stepS ws goS nt)) : Alike Flat (stepS ws goS nt) (stepI ws goI nt'):=by
 have nm:=name_alike (ws:=ws);have tk : ∀ {l : List UInt8},l∈keysZ→l≠ []→Alike (fun _ _=>True) (takeS ws l) (takeI ws l):=fun hm hl=>take_alike h hm hl
 have ex:=hgo .expr
 cases hn with
 | expr=>
   refine z46 h (by decide) (by decide) (z46 h (by decide) (by decide) ?_ ?_) (z46 h (by decide) (by decide) ?_ (z46 h (by decide) (by decide) ?_ (z46 h (by decide) (by decide) ?_ (hgo .cons))))
   ·refine .bind nm (fun f f' hf=> .bind nm (fun x x' hx=> .bind (tk (by decide) (by decide)) (fun _ _ _=> .bind ex (fun a a' ha=> .bind (tk (by decide) (by decide)) (fun _ _ _=> .bind ex (fun b b' hb=> .pure ?_) ?_) ?_) ?_) ?_) ?_) ?_
    ·subst hf hx;exact flat2 _ ha hb
    all_goals intro _
    all_goals repeat' (first | exact hst _ | exact z29 _ | exact z70 | exact take_stuck (by decide) | refine z47 ?_ (fun _=>?_))
   ·refine .bind nm (fun x x' hx=> .bind (tk (by decide) (by decide)) (fun _ _ _=> .bind ex (fun a a' ha=> .bind (tk (by decide) (by decide)) (fun _ _ _=> .bind ex (fun b b' hb=> .pure ?_) ?_) ?_) ?_) ?_) ?_
    ·subst hx;exact flat2 _ ha hb
    all_goals intro _
    all_goals repeat' (first | exact hst _ | exact z29 _ | exact z70 | exact take_stuck (by decide) | refine z47 ?_ (fun _=>?_))
   ·refine .bind ex (fun a a' ha=> .bind (tk (by decide) (by decide)) (fun _ _ _=> .bind ex (fun b b' hb=> .bind (tk (by decide) (by decide)) (fun _ _ _=> .bind ex (fun c c' hc=> .pure (flat3 _ ha hb hc)) ?_) ?_) ?_) ?_) ?_;all_goals intro _
    all_goals repeat' (first | exact hst _ | exact z29 _ | exact z70 | exact take_stuck (by decide) | refine z47 ?_ (fun _=>?_))
   ·refine .bind nm (fun x x' hx=> .bind (tk (by decide) (by decide)) (fun _ _ _=> .bind ex (fun a a' ha=> .pure ?_) ?_) ?_) ?_
    ·subst hx;exact flat1 _ ha
    all_goals intro _
    all_goals repeat' (first | exact hst _ | exact z29 _ | exact z70 | exact take_stuck (by decide) | refine z47 ?_ (fun _=>?_))
   ·refine .bind ex (fun a a' ha=> .bind (tk (by decide) (by decide)) (fun _ _ _=> .bind (tk (by decide) (by decide)) (fun _ _ _=> .bind (tk (by decide) (by decide)) (fun _ _ _=> .bind ex (fun b b' hb=> .bind (tk (by decide) (by decide)) (fun _ _ _=> .bind nm (fun x x' hx=> .bind (tk (by decide) (by decide)) (fun _ _ _=> .bind nm (fun y y' hy=> .bind (tk (by decide) (by decide)) (fun _ _ _=> .bind ex (fun c c' hc=> .pure ?_) ?_) ?_) ?_) ?_) ?_) ?_) ?_) ?_) ?_) ?_) ?_
    ·subst hx hy;exact flat3 _ ha hb hc
    all_goals intro _
    all_goals repeat' (first | exact hst _ | exact z29 _ | exact z70 | exact take_stuck (by decide) | refine z47 ?_ (fun _=>?_))
 | cons=>
   refine .bind (hgo .comp) (fun a a' ha=>z46 h (by decide) (by decide) (.bind (hgo .cons) (fun b b' hb=> .pure (flat2 _ ha hb)) ?_) (.pure ha)) ?_;all_goals intro _
   all_goals repeat' (first | exact hst _ | exact z29 _ | exact or_stuck (by decide) (z29 _) | refine z47 ?_ (fun _=>?_))
 | comp=>
   refine .bind (hgo .sum) (fun a a' ha=>z46 h (by decide) (by decide) (.bind (hgo .sum) (fun b b' hb=> .pure (flat2 _ ha hb)) ?_) (z46 h (by decide) (by decide) (.bind (hgo .sum) (fun b b' hb=> .pure (flat2 _ ha hb)) ?_) (.pure ha))) ?_;all_goals intro _
   all_goals repeat' (first | exact hst _ | exact z29 _ | exact or_stuck (by decide) (z29 _) | refine or_stuck (by decide) ?_ | refine z47 ?_ (fun _=>?_))
 | sum=>exact .bind (hgo .prod) (fun a a' ha=>hgo (.sumL ha)) (fun _=>hst _)
 | prod=>exact .bind (hgo .call) (fun a a' ha=>hgo (.prodL ha)) (fun _=>hst _)
 | call=>
   refine .bind (?_ : Alike Flat (headS ws goS) (headI ws goI)) (fun a a' ha=>hgo (.callL ha)) (fun _=>hst _);refine z46 h (by decide) (by decide) (.bind (hgo .atom) (fun a a' ha=> .pure (flat1 _ ha)) (fun _=>z29 _)) (z46 h (by decide) (by decide) (.bind (hgo .atom) (fun a a' ha=> .pure (flat1 _ ha)) (fun _=>z29 _)) (z46 h (by decide) (by decide) (.bind (hgo .atom) (fun a a' ha=> .pure (flat1 _ ha)) (fun _=>z29 _)) (z46 h (by decide) (by decide) (.bind nm (fun x x' hx=> .bind (hgo .atom) (fun a a' ha=> .pure ?_) (fun _=>z29 _)) (fun _=>z47 (hst _) (fun _=>z29 _))) (hgo .atom))));subst hx
   exact flat1 _ ha
 | atom=>
   refine⟨hstep,fun i=>?_⟩;have e1 : stepI ws goI .atom i=atomI ws goI i:=rfl;have e2 : stepS ws goS .atom ⟨i,false⟩=atomS ws goS ⟨i,false⟩:=rfl;rw [e1,e2];unfold atomI atomS;rw [starts_same]
   cases startsI ws i
   ·rfl
   ·exact (word_alike h hgo (curW ws i)).same (i+1)
 | sumL ha=>
   refine z46 h (by decide) (by decide) ?_ (z46 h (by decide) (by decide) ?_ (.pure ha))
   ·exact .bind (hgo .prod) (fun b b' hb=>hgo (.sumL (flat2 _ ha hb))) (fun _=>hst _)
   ·exact .bind (hgo .prod) (fun b b' hb=>hgo (.sumL (flat2 _ ha hb))) (fun _=>hst _)
 | prodL ha=>
   refine z46 h (by decide) (by decide) ?_ (.pure ha);exact .bind (hgo .call) (fun b b' hb=>hgo (.prodL (flat2 _ ha hb))) (fun _=>hst _)
 | @callL a t ha=>
   refine⟨hstep,fun i=>?_⟩;have e1 : stepI ws goI (.callL t) i=callLI ws goI t i:=rfl;have e2 : stepS ws goS (.callL a) ⟨i,false⟩=callLS ws goS a ⟨i,false⟩:=rfl;rw [e1,e2];unfold callLI callLS;rw [starts_same]
   cases startsI ws i
   ·exact⟨a,rfl,ha⟩
   ·exact (Alike.bind (hgo .atom) (fun b b' hb=>hgo (.callL (flat2 _ ha hb))) (fun _=>hst _) : Alike Flat _ _).same i
 | hand k=>
   show Alike Flat (handS ws goS k) (handI ws goI k);unfold handS handI;refine .bind ex (fun a a' ha=> .bind (tk (by decide) (by decide)) (fun _ _ _=> .bind (tk (by decide) (by decide)) (fun _ _ _=> .bind nm (fun x x' hx=> .bind (tk (by decide) (by decide)) (fun _ _ _=> .bind ex (fun b b' hb=>hgo (.opsL k ?_)) ?_) ?_) ?_) ?_) ?_) ?_
   ·subst hx;have h2:=flat1 (nd1 25 x) hb;unfold Flat at ha h2;rw [ha,h2];rfl
   all_goals intro _
   all_goals repeat' (first | exact hst _ | exact z29 _ | exact z70 | exact take_stuck (by decide) | refine z47 ?_ (fun _=>?_))
 | @opsL k ks ts hks=>
   show Alike Flat (opsLS ws goS k ks) (opsLI ws goI k ts);unfold opsLS opsLI;refine z46 h (by decide) (by decide) (.bind nm (fun a a' ha=> .bind nm (fun b b' hb=> .bind nm (fun c c' hc=> .bind (tk (by decide) (by decide)) (fun _ _ _=> .bind ex (fun e e' he=>hgo (.opsL k ?_)) ?_) ?_) ?_) ?_) ?_) (.bind (tk (by decide) (by decide)) (fun _ _ _=> .pure (flat_mk _ hks)) (fun _=>z29 _))
   ·subst ha hb hc;have h2:=flat1 (nd3 26 a b c) he;unfold Flat at h2;rw [h2,hks,List.map_append];rfl
   all_goals intro _
   all_goals repeat' (first | exact hst _ | exact z29 _ | exact z70 | exact take_stuck (by decide) | refine z47 ?_ (fun _=>?_))
end
theorem parse_alike (h : WordsOk ws) : ∀ (f : Nat) {nt : Nt (List Nd)} {nt' : Nt Tr},NtR nt nt'→Alike Flat (spz ws f nt) (ipz ws f nt')
 | 0,nt,_,_=>⟨stuck_all 0 nt,fun _=>rfl⟩
 | f+1,nt,_,hn=>step_alike h (stuck_all f) (fun hn'=> parse_alike h f hn') hn (stuck_all (f+1) nt)
end
end
end Go.Proofs.YtfbojelpdccjaaaGreatDoor
