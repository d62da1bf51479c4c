import Derived.Lib.ItoaLen
import Derived.Test.YtfbojelpdccjaaaGreatDoorPkB6
namespace Go.Proofs.YtfbojelpdccjaaaGreatDoor
open Go.RowKit Go.Deep
variable {f : Nat} {t : Tp}
section
open Go.RowKit Go.Deep
def lvZ (k : Int) : Int:=if k=8∨k=9∨k=10∨k=6∨k=20 then 0 else if k=19 then 1 else if k=14∨k=15 then 2 else if k=11∨k=12 then 3 else if k=13 then 4 else if k=7∨k=17∨k=18∨k=21∨k=22 then 5 else 6
def brZ (k least : Int) (T : List UInt8) : List UInt8:=if lvZ k < least then [40]++T++ [41] else T
def retT (c : Tp) (T : List UInt8) : List UInt8:= [32,114,101,116,32]++c.n.a.data.toList++ [32,45,62,32]++T
def opT (c : Tp) (T : List UInt8) : List UInt8:= [32,124,32]++c.n.a.data.toList++ [32]++c.n.b.data.toList++ [32]++c.n.c.data.toList++ [32,45,62,32]++T
def handT (go : Tp→Int→List UInt8) (t : Tp) : List UInt8:=
 (t.kids.drop 2).foldl (fun T c=>T++opT c (go (c.kid 0) 0)) ((if t.n.kind=24 then [115,104,97,108,108,111,119,32] else [104,97,110,100,108,101,32])++go (t.kid 0) 0++ [32,119,105,116,104]++retT (t.kid 1) (go ((t.kid 1).kid 0) 0))++ [32,101,110,100]
def text3 (_go : Tp→Int→List UInt8) (_t : Tp) : List UInt8:= [40,41]
def text4 (_go : Tp→Int→List UInt8) (_t : Tp) : List UInt8:= [110,105,108]
def text5 (_go : Tp→Int→List UInt8) (t : Tp) : List UInt8:=t.n.a.data.toList
def text6 (go : Tp→Int→List UInt8) (t : Tp) : List UInt8:= [102,110,32]++t.n.a.data.toList++ [32,45,62,32]++go (t.kid 0) 0
def text7 (go : Tp→Int→List UInt8) (t : Tp) : List UInt8:=go (t.kid 0) 5++ [32]++go (t.kid 1) 6
def text8 (go : Tp→Int→List UInt8) (t : Tp) : List UInt8:= [108,101,116,32]++t.n.a.data.toList++ [32,61,32]++go (t.kid 0) 0++ [32,105,110,32]++go (t.kid 1) 0
def text9 (go : Tp→Int→List UInt8) (t : Tp) : List UInt8:= [108,101,116,32,114,101,99,32]++t.n.a.data.toList++ [32]++t.n.b.data.toList++ [32,61,32]++go (t.kid 0) 0++ [32,105,110,32]++go (t.kid 1) 0
def text10 (go : Tp→Int→List UInt8) (t : Tp) : List UInt8:= [105,102,32]++go (t.kid 0) 0++ [32,116,104,101,110,32]++go (t.kid 1) 0++ [32,101,108,115,101,32]++go (t.kid 2) 0
def text11 (go : Tp→Int→List UInt8) (t : Tp) : List UInt8:=go (t.kid 0) 3++ [32]++ [43]++ [32]++go (t.kid 1) 4
def text12 (go : Tp→Int→List UInt8) (t : Tp) : List UInt8:=go (t.kid 0) 3++ [32]++ [45]++ [32]++go (t.kid 1) 4
def text13 (go : Tp→Int→List UInt8) (t : Tp) : List UInt8:=go (t.kid 0) 4++ [32]++ [42]++ [32]++go (t.kid 1) 5
def text14 (go : Tp→Int→List UInt8) (t : Tp) : List UInt8:=go (t.kid 0) 3++ [32]++ [61]++ [32]++go (t.kid 1) 3
def text15 (go : Tp→Int→List UInt8) (t : Tp) : List UInt8:=go (t.kid 0) 3++ [32]++ [60]++ [32]++go (t.kid 1) 3
def text19 (go : Tp→Int→List UInt8) (t : Tp) : List UInt8:=go (t.kid 0) 2++ [32]++ [58,58]++ [32]++go (t.kid 1) 1
def text16 (go : Tp→Int→List UInt8) (t : Tp) : List UInt8:= [40]++go (t.kid 0) 0++ [44,32]++go (t.kid 1) 0++ [41]
def text17 (go : Tp→Int→List UInt8) (t : Tp) : List UInt8:= [102,115,116,32]++go (t.kid 0) 6
def text18 (go : Tp→Int→List UInt8) (t : Tp) : List UInt8:= [115,110,100,32]++go (t.kid 0) 6
def text21 (go : Tp→Int→List UInt8) (t : Tp) : List UInt8:= [112,114,105,110,116,32]++go (t.kid 0) 6
def text22 (go : Tp→Int→List UInt8) (t : Tp) : List UInt8:= [100,111,32]++t.n.a.data.toList++ [32]++go (t.kid 0) 6
def text20 (go : Tp→Int→List UInt8) (t : Tp) : List UInt8:= [99,97,115,101,32]++go (t.kid 0) 0++ [32,111,102,32,110,105,108,32,45,62,32]++go (t.kid 1) 0++ [32,124,32]++t.n.a.data.toList++ [32,58,58,32]++t.n.b.data.toList++ [32,45,62,32]++go (t.kid 2) 0
def bareZ : Nat→Tp→List UInt8
 | 0,_=> []
 | f+1,t=>
   if t.n.kind=1 then Lib.itoa t.n.num else
   if t.n.kind=2 then (if t.n.num=0 then [102,97,108,115,101] else [116,114,117,101]) else
   if t.n.kind=3 then text3 (fun c least=>brZ c.n.kind least (bareZ f c)) t else
   if t.n.kind=4 then text4 (fun c least=>brZ c.n.kind least (bareZ f c)) t else
   if t.n.kind=5 then text5 (fun c least=>brZ c.n.kind least (bareZ f c)) t else
   if t.n.kind=6 then text6 (fun c least=>brZ c.n.kind least (bareZ f c)) t else
   if t.n.kind=7 then text7 (fun c least=>brZ c.n.kind least (bareZ f c)) t else
   if t.n.kind=8 then text8 (fun c least=>brZ c.n.kind least (bareZ f c)) t else
   if t.n.kind=9 then text9 (fun c least=>brZ c.n.kind least (bareZ f c)) t else
   if t.n.kind=10 then text10 (fun c least=>brZ c.n.kind least (bareZ f c)) t else
   if t.n.kind=11 then text11 (fun c least=>brZ c.n.kind least (bareZ f c)) t else
   if t.n.kind=12 then text12 (fun c least=>brZ c.n.kind least (bareZ f c)) t else
   if t.n.kind=13 then text13 (fun c least=>brZ c.n.kind least (bareZ f c)) t else
   if t.n.kind=14 then text14 (fun c least=>brZ c.n.kind least (bareZ f c)) t else
   if t.n.kind=15 then text15 (fun c least=>brZ c.n.kind least (bareZ f c)) t else
   if t.n.kind=19 then text19 (fun c least=>brZ c.n.kind least (bareZ f c)) t else
   if t.n.kind=16 then text16 (fun c least=>brZ c.n.kind least (bareZ f c)) t else
   if t.n.kind=17 then text17 (fun c least=>brZ c.n.kind least (bareZ f c)) t else
   if t.n.kind=18 then text18 (fun c least=>brZ c.n.kind least (bareZ f c)) t else
   if t.n.kind=21 then text21 (fun c least=>brZ c.n.kind least (bareZ f c)) t else
   if t.n.kind=22 then text22 (fun c least=>brZ c.n.kind least (bareZ f c)) t else
   if t.n.kind=20 then text20 (fun c least=>brZ c.n.kind least (bareZ f c)) t else
   handT (fun c least=>brZ c.n.kind least (bareZ f c)) t
def showZ (f : Nat) (t : Tp) (least : Int) : List UInt8:=brZ t.n.kind least (bareZ f t)
theorem bare1 (h : t.n.kind=1) : bareZ (f+1) t=Lib.itoa t.n.num:=by
 rw [bareZ,if_pos h]
theorem bare2 (h : t.n.kind=2) : bareZ (f+1) t=(if t.n.num=0 then [102,97,108,115,101] else [116,114,117,101]):=by
 rw [bareZ,if_neg (by omega),if_pos h]
theorem bare3 (h : t.n.kind=3) : bareZ (f+1) t=text3 (showZ f) t:=by
 rw [bareZ,if_neg (by omega),if_neg (by omega),if_pos h];rfl
theorem bare4 (h : t.n.kind=4) : bareZ (f+1) t=text4 (showZ f) t:=by
 rw [bareZ,if_neg (by omega),if_neg (by omega),if_neg (by omega),if_pos h];rfl
theorem bare5 (h : t.n.kind=5) : bareZ (f+1) t=text5 (showZ f) t:=by
 rw [bareZ,if_neg (by omega),if_neg (by omega),if_neg (by omega),if_neg (by omega),if_pos h];rfl
theorem bare6 (h : t.n.kind=6) : bareZ (f+1) t=text6 (showZ f) t:=by
 rw [bareZ,if_neg (by omega),if_neg (by omega),if_neg (by omega),if_neg (by omega),if_neg (by omega),if_pos h];rfl
theorem bare7 (h : t.n.kind=7) : bareZ (f+1) t=text7 (showZ f) t:=by
 rw [bareZ,if_neg (by omega),if_neg (by omega),if_neg (by omega),if_neg (by omega),if_neg (by omega),if_neg (by omega),if_pos h];rfl
theorem bare8 (h : t.n.kind=8) : bareZ (f+1) t=text8 (showZ f) t:=by
 rw [bareZ,if_neg (by omega),if_neg (by omega),if_neg (by omega),if_neg (by omega),if_neg (by omega),if_neg (by omega),if_neg (by omega),if_pos h];rfl
theorem bare9 (h : t.n.kind=9) : bareZ (f+1) t=text9 (showZ f) t:=by
 rw [bareZ,if_neg (by omega),if_neg (by omega),if_neg (by omega),if_neg (by omega),if_neg (by omega),if_neg (by omega),if_neg (by omega),if_neg (by omega),if_pos h];rfl
theorem bare10 (h : t.n.kind=10) : bareZ (f+1) t=text10 (showZ f) t:=by
 rw [bareZ,if_neg (by omega),if_neg (by omega),if_neg (by omega),if_neg (by omega),if_neg (by omega),if_neg (by omega),if_neg (by omega),if_neg (by omega),if_neg (by omega),if_pos h];rfl
theorem bare11 (h : t.n.kind=11) : bareZ (f+1) t=text11 (showZ f) t:=by
 rw [bareZ,if_neg (by omega),if_neg (by omega),if_neg (by omega),if_neg (by omega),if_neg (by omega),if_neg (by omega),if_neg (by omega),if_neg (by omega),if_neg (by omega),if_neg (by omega),if_pos h];rfl
theorem bare12 (h : t.n.kind=12) : bareZ (f+1) t=text12 (showZ f) t:=by
 rw [bareZ,if_neg (by omega),if_neg (by omega),if_neg (by omega),if_neg (by omega),if_neg (by omega),if_neg (by omega),if_neg (by omega),if_neg (by omega),if_neg (by omega),if_neg (by omega),if_neg (by omega),if_pos h];rfl
theorem bare13 (h : t.n.kind=13) : bareZ (f+1) t=text13 (showZ f) t:=by
 rw [bareZ,if_neg (by omega),if_neg (by omega),if_neg (by omega),if_neg (by omega),if_neg (by omega),if_neg (by omega),if_neg (by omega),if_neg (by omega),if_neg (by omega),if_neg (by omega),if_neg (by omega),if_neg (by omega),if_pos h];rfl
theorem bare14 (h : t.n.kind=14) : bareZ (f+1) t=text14 (showZ f) t:=by
 rw [bareZ,if_neg (by omega),if_neg (by omega),if_neg (by omega),if_neg (by omega),if_neg (by omega),if_neg (by omega),if_neg (by omega),if_neg (by omega),if_neg (by omega),if_neg (by omega),if_neg (by omega),if_neg (by omega),if_neg (by omega),if_pos h];rfl
theorem bare15 (h : t.n.kind=15) : bareZ (f+1) t=text15 (showZ f) t:=by
 rw [bareZ,if_neg (by omega),if_neg (by omega),if_neg (by omega),if_neg (by omega),if_neg (by omega),if_neg (by omega),if_neg (by omega),if_neg (by omega),if_neg (by omega),if_neg (by omega),if_neg (by omega),if_neg (by omega),if_neg (by omega),if_neg (by omega),if_pos h];rfl
theorem bare19 (h : t.n.kind=19) : bareZ (f+1) t=text19 (showZ f) t:=by
 rw [bareZ,if_neg (by omega),if_neg (by omega),if_neg (by omega),if_neg (by omega),if_neg (by omega),if_neg (by omega),if_neg (by omega),if_neg (by omega),if_neg (by omega),if_neg (by omega),if_neg (by omega),if_neg (by omega),if_neg (by omega),if_neg (by omega),if_neg (by omega),if_pos h];rfl
theorem bare16 (h : t.n.kind=16) : bareZ (f+1) t=text16 (showZ f) t:=by
 rw [bareZ,if_neg (by omega),if_neg (by omega),if_neg (by omega),if_neg (by omega),if_neg (by omega),if_neg (by omega),if_neg (by omega),if_neg (by omega),if_neg (by omega),if_neg (by omega),if_neg (by omega),if_neg (by omega),if_neg (by omega),if_neg (by omega),if_neg (by omega),if_neg (by omega),if_pos h];rfl
theorem bare17 (h : t.n.kind=17) : bareZ (f+1) t=text17 (showZ f) t:=by
 rw [bareZ,if_neg (by omega),if_neg (by omega),if_neg (by omega),if_neg (by omega),if_neg (by omega),if_neg (by omega),if_neg (by omega),if_neg (by omega),if_neg (by omega),if_neg (by omega),if_neg (by omega),if_neg (by omega),if_neg (by omega),if_neg (by omega),if_neg (by omega),if_neg (by omega),if_neg (by omega),if_pos h];rfl
theorem bare18 (h : t.n.kind=18) : bareZ (f+1) t=text18 (showZ f) t:=by
 rw [bareZ,if_neg (by omega),if_neg (by omega),if_neg (by omega),if_neg (by omega),if_neg (by omega),if_neg (by omega),if_neg (by omega),if_neg (by omega),if_neg (by omega),if_neg (by omega),if_neg (by omega),if_neg (by omega),if_neg (by omega),if_neg (by omega),if_neg (by omega),if_neg (by omega),if_neg (by omega),if_neg (by omega),if_pos h];rfl
theorem bare21 (h : t.n.kind=21) : bareZ (f+1) t=text21 (showZ f) t:=by
 rw [bareZ,if_neg (by omega),if_neg (by omega),if_neg (by omega),if_neg (by omega),if_neg (by omega),if_neg (by omega),if_neg (by omega),if_neg (by omega),if_neg (by omega),if_neg (by omega),if_neg (by omega),if_neg (by omega),if_neg (by omega),if_neg (by omega),if_neg (by omega),if_neg (by omega),if_neg (by omega),if_neg (by omega),if_neg (by omega),if_pos h];rfl
theorem bare22 (h : t.n.kind=22) : bareZ (f+1) t=text22 (showZ f) t:=by
 rw [bareZ,if_neg (by omega),if_neg (by omega),if_neg (by omega),if_neg (by omega),if_neg (by omega),if_neg (by omega),if_neg (by omega),if_neg (by omega),if_neg (by omega),if_neg (by omega),if_neg (by omega),if_neg (by omega),if_neg (by omega),if_neg (by omega),if_neg (by omega),if_neg (by omega),if_neg (by omega),if_neg (by omega),if_neg (by omega),if_neg (by omega),if_pos h];rfl
theorem bare20 (h : t.n.kind=20) : bareZ (f+1) t=text20 (showZ f) t:=by
 rw [bareZ,if_neg (by omega),if_neg (by omega),if_neg (by omega),if_neg (by omega),if_neg (by omega),if_neg (by omega),if_neg (by omega),if_neg (by omega),if_neg (by omega),if_neg (by omega),if_neg (by omega),if_neg (by omega),if_neg (by omega),if_neg (by omega),if_neg (by omega),if_neg (by omega),if_neg (by omega),if_neg (by omega),if_neg (by omega),if_neg (by omega),if_neg (by omega),if_pos h];rfl
theorem bareH (h : t.n.kind=23∨t.n.kind=24) : bareZ (f+1) t=handT (showZ f) t:=by
 rw [bareZ,if_neg (by omega),if_neg (by omega),if_neg (by omega),if_neg (by omega),if_neg (by omega),if_neg (by omega),if_neg (by omega),if_neg (by omega),if_neg (by omega),if_neg (by omega),if_neg (by omega),if_neg (by omega),if_neg (by omega),if_neg (by omega),if_neg (by omega),if_neg (by omega),if_neg (by omega),if_neg (by omega),if_neg (by omega),if_neg (by omega),if_neg (by omega),if_neg (by omega)];rfl
structure Neat (m : Nd) : Prop where
 a : m.a.size≤8
 b : m.b.size≤8
 c : m.c.size≤8
 num : m.kind=1→0≤m.num∧m.num≤999999999
 bit : m.kind=2→m.num=0∨m.num=1
theorem br_len (k least : Int) (T : List UInt8) : (brZ k least T).length≤T.length+2:=by
 unfold brZ;split
 ·simp only [List.length_append,List.length_cons,List.length_nil]; omega
 ·omega
theorem name_len {s : ByteArray} (h : s.size≤8) : s.data.toList.length≤8:=by simpa using h
def Sk (t : Tp) : Prop:=specKids t.k t.n.kind 0 []=true
def Ex (t : Tp) : Prop:=Sk t∧t.n.kind≠25∧t.n.kind≠26
theorem kids_role : ∀ (f : Fo) (pk : Int) (i p : Nat) (ops : List ByteArray) (j : Nat),specKids f pk i ops=true→j < f.count→headOk ((kidsAt f p).getD j default).n (role pk (i+j))=true∧Sk ((kidsAt f p).getD j default)
 | .none,pk,i,p,ops,j,_,hj=>by simp [Fo.count] at hj
 | .tree n k r,pk,i,p,ops,0,hs,_=>by
   simp only [specKids,Bool.and_eq_true] at hs;exact⟨hs.1,hs.2.1⟩
 | .tree n k r,pk,i,p,ops,j+1,hs,hj=>by
   simp only [specKids,Bool.and_eq_true] at hs;have h2:=hs.2.2;simp only [Fo.count] at hj;rw [show i+(j+1)=i+1+j by omega];simp only [kidsAt,List.getD_cons_succ];split at h2
   ·rw [Bool.and_eq_true] at h2;exact kids_role r pk (i+1) _ _ j h2.2 (by omega)
   ·exact kids_role r pk (i+1) _ _ j h2 (by omega)
theorem head_none {m : Nd} (h : headOk m 0=true) : m.kind≠25∧m.kind≠26:=by
 unfold headOk at h;simp only [Bool.and_eq_true] at h;refine⟨fun e=>?_,fun e=>?_⟩
 ·have:=h.1.1;rw [e] at this;exact absurd this (by decide)
 ·have:=h.1.2;rw [e] at this;exact absurd this (by decide)
theorem Sk.ex (h : Sk t) {j : Nat} (hj : j < t.k.count) (hr : role t.n.kind j=0) : Ex (t.kid j):=by
 have h1:=kids_role t.k t.n.kind 0 (t.at_+1) [] j h hj;rw [Nat.zero_add,hr] at h1;exact⟨h1.2,head_none h1.1⟩
theorem z15 {k : Int} (h : ¬ (k=23∨k=24)) (j : Nat) : role k j=0:=by unfold role; rw [if_neg h]
theorem role_first (k : Int) : role k 0=0:=by unfold role; split <;> simp
theorem clause_ex (h : Sk t) {j : Nat} (hj : j < t.k.count) (hc : (t.kid j).k.count=1) : Ex ((t.kid j).kid 0):=by
 have h2:=kids_role t.k t.n.kind 0 (t.at_+1) [] j h hj;refine Sk.ex h2.2 (by show 0 < (t.kid j).k.count; omega) ?_;exact role_first _
def TextR (ns : List Nd) (go : Tp→Int→List UInt8) (F : Nat) : Prop:= ∀ t least,t.size≤F→Stands ns t→Ex t→(go t least).length≤60*t.size
theorem Stands.neat {ns : List Nd} (h : Stands ns t) (hn : ∀ m∈ns,Neat m) : Neat t.n:=by
 obtain⟨suf,hd⟩:=h.drop;refine hn _ (List.mem_of_mem_drop (i:=t.at_) ?_);rw [hd];exact List.mem_cons_self
theorem ops_len {ns : List Nd} {go : Tp→Int→List UInt8} {F : Nat} (hn : ∀ m∈ns,Neat m) (hgo : TextR ns go F) : ∀ (l : List Tp) (T : List UInt8),(∀ c∈l,c.size≤F∧c.k.count=1∧Stands ns c∧Ex (c.kid 0))→(l.foldl (fun T c=>T++opT c (go (c.kid 0) 0)) T).length≤T.length+60*(l.map Tp.size).sum
 | [],T,_=>by simp
 | c::l,T,h=>by
   obtain⟨h1,h2,h3,h4⟩:=h c List.mem_cons_self;have e:=(kids1 h2).2;have g:=hgo (c.kid 0) 0 (by omega) (h3.kid (by omega)) h4;have nt:=h3.neat hn;have a:=name_len nt.a;have b:=name_len nt.b;have cc:=name_len nt.c;refine Nat.le_trans (ops_len hn hgo l _ (fun x hx=>h x (List.mem_cons_of_mem _ hx))) ?_;simp only [opT,List.length_append,List.length_cons,List.length_nil,List.map_cons,List.sum_cons];omega
theorem z69 {ns : List Nd} (hn : ∀ m∈ns,Neat m) : ∀ F,TextR ns (showZ F) F∧ ∀ t,t.size≤F→Stands ns t→Ex t→(bareZ F t).length+2≤60*t.size:=by
 intro F;induction F with
 | zero=>exact⟨fun t _ h=>by have:=t.size_pos; omega,fun t h=>by have:=t.size_pos; omega⟩
 | succ F ih=>
   have key : ∀ t,t.size≤F+1→Stands ns t→Ex t→(bareZ (F+1) t).length+2≤60*t.size:=by
    intro t hF hs hx;have hg:=hs.toGood;have nt:=hs.neat hn;have na:=name_len nt.a;have nb:=name_len nt.b;have hp:=t.size_pos;by_cases k1 : t.n.kind=1
    ·rw [bare1 k1];have:=nt.num k1;have:=Lib.itoa_length_le t.n.num (by omega) (by omega);omega
    by_cases k2 : t.n.kind=2
    ·rw [bare2 k2];split <;> simp <;> omega
    by_cases k3 : t.n.kind=3
    ·rw [bare3 k3];simp only [text3,List.length_cons,List.length_nil];omega
    by_cases k4 : t.n.kind=4
    ·rw [bare4 k4];simp only [text4,List.length_cons,List.length_nil];omega
    by_cases k5 : t.n.kind=5
    ·rw [bare5 k5];simp only [text5];omega
    by_cases k6 : t.n.kind=6
    ·rw [bare6 k6];have hc:=z20 hg k6 (c:=1) rfl;have e1:=(kids1 hc).2;have g0:=ih.1 (t.kid 0) 0 (by omega) (hs.kid (by omega)) (hx.1.ex (by omega) (z15 (by omega) _));have p0:=(t.kid 0).size_pos;simp only [text6,List.length_append,List.length_cons,List.length_nil];omega
    by_cases k7 : t.n.kind=7
    ·rw [bare7 k7];have hc:=z20 hg k7 (c:=2) rfl;have e1:=(kids2 hc).2;have g0:=ih.1 (t.kid 0) 5 (by omega) (hs.kid (by omega)) (hx.1.ex (by omega) (z15 (by omega) _));have g1:=ih.1 (t.kid 1) 6 (by omega) (hs.kid (by omega)) (hx.1.ex (by omega) (z15 (by omega) _));have p0:=(t.kid 0).size_pos;have p1:=(t.kid 1).size_pos;simp only [text7,List.length_append,List.length_cons,List.length_nil];omega
    by_cases k8 : t.n.kind=8
    ·rw [bare8 k8];have hc:=z20 hg k8 (c:=2) rfl;have e1:=(kids2 hc).2;have g0:=ih.1 (t.kid 0) 0 (by omega) (hs.kid (by omega)) (hx.1.ex (by omega) (z15 (by omega) _));have g1:=ih.1 (t.kid 1) 0 (by omega) (hs.kid (by omega)) (hx.1.ex (by omega) (z15 (by omega) _));have p0:=(t.kid 0).size_pos;have p1:=(t.kid 1).size_pos;simp only [text8,List.length_append,List.length_cons,List.length_nil];omega
    by_cases k9 : t.n.kind=9
    ·rw [bare9 k9];have hc:=z20 hg k9 (c:=2) rfl;have e1:=(kids2 hc).2;have g0:=ih.1 (t.kid 0) 0 (by omega) (hs.kid (by omega)) (hx.1.ex (by omega) (z15 (by omega) _));have g1:=ih.1 (t.kid 1) 0 (by omega) (hs.kid (by omega)) (hx.1.ex (by omega) (z15 (by omega) _));have p0:=(t.kid 0).size_pos;have p1:=(t.kid 1).size_pos;simp only [text9,List.length_append,List.length_cons,List.length_nil];omega
    by_cases k10 : t.n.kind=10
    ·rw [bare10 k10];have hc:=z20 hg k10 (c:=3) rfl;have e1:=(kids3 hc).2;have g0:=ih.1 (t.kid 0) 0 (by omega) (hs.kid (by omega)) (hx.1.ex (by omega) (z15 (by omega) _));have g1:=ih.1 (t.kid 1) 0 (by omega) (hs.kid (by omega)) (hx.1.ex (by omega) (z15 (by omega) _));have g2:=ih.1 (t.kid 2) 0 (by omega) (hs.kid (by omega)) (hx.1.ex (by omega) (z15 (by omega) _));have p0:=(t.kid 0).size_pos;have p1:=(t.kid 1).size_pos;have p2:=(t.kid 2).size_pos;simp only [text10,List.length_append,List.length_cons,List.length_nil];omega
    by_cases k11 : t.n.kind=11
    ·rw [bare11 k11];have hc:=z20 hg k11 (c:=2) rfl;have e1:=(kids2 hc).2;have g0:=ih.1 (t.kid 0) 3 (by omega) (hs.kid (by omega)) (hx.1.ex (by omega) (z15 (by omega) _));have g1:=ih.1 (t.kid 1) 4 (by omega) (hs.kid (by omega)) (hx.1.ex (by omega) (z15 (by omega) _));have p0:=(t.kid 0).size_pos;have p1:=(t.kid 1).size_pos;simp only [text11,List.length_append,List.length_cons,List.length_nil];omega
    by_cases k12 : t.n.kind=12
    ·rw [bare12 k12];have hc:=z20 hg k12 (c:=2) rfl;have e1:=(kids2 hc).2;have g0:=ih.1 (t.kid 0) 3 (by omega) (hs.kid (by omega)) (hx.1.ex (by omega) (z15 (by omega) _));have g1:=ih.1 (t.kid 1) 4 (by omega) (hs.kid (by omega)) (hx.1.ex (by omega) (z15 (by omega) _));have p0:=(t.kid 0).size_pos;have p1:=(t.kid 1).size_pos;simp only [text12,List.length_append,List.length_cons,List.length_nil];omega
    by_cases k13 : t.n.kind=13
    ·rw [bare13 k13];have hc:=z20 hg k13 (c:=2) rfl;have e1:=(kids2 hc).2;have g0:=ih.1 (t.kid 0) 4 (by omega) (hs.kid (by omega)) (hx.1.ex (by omega) (z15 (by omega) _));have g1:=ih.1 (t.kid 1) 5 (by omega) (hs.kid (by omega)) (hx.1.ex (by omega) (z15 (by omega) _));have p0:=(t.kid 0).size_pos;have p1:=(t.kid 1).size_pos;simp only [text13,List.length_append,List.length_cons,List.length_nil];omega
    by_cases k14 : t.n.kind=14
    ·rw [bare14 k14];have hc:=z20 hg k14 (c:=2) rfl;have e1:=(kids2 hc).2;have g0:=ih.1 (t.kid 0) 3 (by omega) (hs.kid (by omega)) (hx.1.ex (by omega) (z15 (by omega) _));have g1:=ih.1 (t.kid 1) 3 (by omega) (hs.kid (by omega)) (hx.1.ex (by omega) (z15 (by omega) _));have p0:=(t.kid 0).size_pos;have p1:=(t.kid 1).size_pos;simp only [text14,List.length_append,List.length_cons,List.length_nil];omega
    by_cases k15 : t.n.kind=15
    ·rw [bare15 k15];have hc:=z20 hg k15 (c:=2) rfl;have e1:=(kids2 hc).2;have g0:=ih.1 (t.kid 0) 3 (by omega) (hs.kid (by omega)) (hx.1.ex (by omega) (z15 (by omega) _));have g1:=ih.1 (t.kid 1) 3 (by omega) (hs.kid (by omega)) (hx.1.ex (by omega) (z15 (by omega) _));have p0:=(t.kid 0).size_pos;have p1:=(t.kid 1).size_pos;simp only [text15,List.length_append,List.length_cons,List.length_nil];omega
    by_cases k19 : t.n.kind=19
    ·rw [bare19 k19];have hc:=z20 hg k19 (c:=2) rfl;have e1:=(kids2 hc).2;have g0:=ih.1 (t.kid 0) 2 (by omega) (hs.kid (by omega)) (hx.1.ex (by omega) (z15 (by omega) _));have g1:=ih.1 (t.kid 1) 1 (by omega) (hs.kid (by omega)) (hx.1.ex (by omega) (z15 (by omega) _));have p0:=(t.kid 0).size_pos;have p1:=(t.kid 1).size_pos;simp only [text19,List.length_append,List.length_cons,List.length_nil];omega
    by_cases k16 : t.n.kind=16
    ·rw [bare16 k16];have hc:=z20 hg k16 (c:=2) rfl;have e1:=(kids2 hc).2;have g0:=ih.1 (t.kid 0) 0 (by omega) (hs.kid (by omega)) (hx.1.ex (by omega) (z15 (by omega) _));have g1:=ih.1 (t.kid 1) 0 (by omega) (hs.kid (by omega)) (hx.1.ex (by omega) (z15 (by omega) _));have p0:=(t.kid 0).size_pos;have p1:=(t.kid 1).size_pos;simp only [text16,List.length_append,List.length_cons,List.length_nil];omega
    by_cases k17 : t.n.kind=17
    ·rw [bare17 k17];have hc:=z20 hg k17 (c:=1) rfl;have e1:=(kids1 hc).2;have g0:=ih.1 (t.kid 0) 6 (by omega) (hs.kid (by omega)) (hx.1.ex (by omega) (z15 (by omega) _));have p0:=(t.kid 0).size_pos;simp only [text17,List.length_append,List.length_cons,List.length_nil];omega
    by_cases k18 : t.n.kind=18
    ·rw [bare18 k18];have hc:=z20 hg k18 (c:=1) rfl;have e1:=(kids1 hc).2;have g0:=ih.1 (t.kid 0) 6 (by omega) (hs.kid (by omega)) (hx.1.ex (by omega) (z15 (by omega) _));have p0:=(t.kid 0).size_pos;simp only [text18,List.length_append,List.length_cons,List.length_nil];omega
    by_cases k21 : t.n.kind=21
    ·rw [bare21 k21];have hc:=z20 hg k21 (c:=1) rfl;have e1:=(kids1 hc).2;have g0:=ih.1 (t.kid 0) 6 (by omega) (hs.kid (by omega)) (hx.1.ex (by omega) (z15 (by omega) _));have p0:=(t.kid 0).size_pos;simp only [text21,List.length_append,List.length_cons,List.length_nil];omega
    by_cases k22 : t.n.kind=22
    ·rw [bare22 k22];have hc:=z20 hg k22 (c:=1) rfl;have e1:=(kids1 hc).2;have g0:=ih.1 (t.kid 0) 6 (by omega) (hs.kid (by omega)) (hx.1.ex (by omega) (z15 (by omega) _));have p0:=(t.kid 0).size_pos;simp only [text22,List.length_append,List.length_cons,List.length_nil];omega
    by_cases k20 : t.n.kind=20
    ·rw [bare20 k20];have hc:=z20 hg k20 (c:=3) rfl;have e1:=(kids3 hc).2;have g0:=ih.1 (t.kid 0) 0 (by omega) (hs.kid (by omega)) (hx.1.ex (by omega) (z15 (by omega) _));have g1:=ih.1 (t.kid 1) 0 (by omega) (hs.kid (by omega)) (hx.1.ex (by omega) (z15 (by omega) _));have g2:=ih.1 (t.kid 2) 0 (by omega) (hs.kid (by omega)) (hx.1.ex (by omega) (z15 (by omega) _));have p0:=(t.kid 0).size_pos;have p1:=(t.kid 1).size_pos;have p2:=(t.kid 2).size_pos;simp only [text20,List.length_append,List.length_cons,List.length_nil];omega
    have hh : t.n.kind=23∨t.n.kind=24:=by
     have h1:=(arity_at hg).1;have h2:=kinds t.n.kind;have h3:=hx.2;by_cases h4 : t.n.kind < 1∨26 < t.n.kind
     ·exact absurd (tab_other h4) h1
     ·omega
    have hc:=((arity_at hg).2.1 (by rcases hh with e | e <;> rw [e] <;> rfl)).1
    have hm:=kidsM hc;have hd:=hs.head hh;have hd1:=(hd (t.kid 1) (by rw [hm.1]; simp)).2;have e1:=(kids1 hd1).2;have g0:=ih.1 (t.kid 0) 0 (by omega) (hs.kid (by omega)) (hx.1.ex (by omega) (role_first _));have g1:=ih.1 ((t.kid 1).kid 0) 0 (by omega) ((hs.kid (by omega)).kid (by omega)) (clause_ex hx.1 (by omega) hd1);have nt1:=(hs.kid (i:=1) (by omega)).neat hn;have na1:=name_len nt1.a
    have hol:=ops_len hn ih.1 (t.kids.drop 2) ((if t.n.kind=24 then [115,104,97,108,108,111,119,32] else [104,97,110,100,108,101,32])++showZ F (t.kid 0) 0++ [32,119,105,116,104]++retT (t.kid 1) (showZ F ((t.kid 1).kid 0) 0)) (fun c hc2=>by
     have hs4:=sum_mem _ c hc2;have hc3 : c∈t.kids.drop 1:=by
      rw [show (2 : Nat)=1+1 from rfl,← List.drop_drop] at hc2;exact List.mem_of_mem_drop hc2
     obtain⟨j,hj,rfl⟩:=List.getElem_of_mem hc2;have hlen : (t.kids.drop 2).length=t.k.count - 2:=by rw [List.length_drop,t.kids_len]
     have hjk : (t.kids.drop 2)[j]=t.kid (2+j):=by
      unfold Tp.kid;simp [List.getD,show 2+j < t.kids.length by rw [t.kids_len]; omega]
     rw [hjk] at hs4 hc3 ⊢;have h7:=(hd _ hc3).2;exact⟨by omega,h7,hs.kid (by omega),clause_ex hx.1 (by omega) h7⟩)
    rw [bareH hh];have hif : (if t.n.kind=24 then [115,104,97,108,108,111,119,32] else [104,97,110,100,108,101,32] : List UInt8).length≤8:=by split <;> simp
    simp only [List.length_append,retT,List.length_cons,List.length_nil] at hol;simp only [handT,List.length_append,List.length_cons,List.length_nil];simp only [retT] at*;omega
   exact⟨fun t least hF hs hx=>Nat.le_trans (br_len _ _ _) (key t hF hs hx),key⟩
end
end Go.Proofs.YtfbojelpdccjaaaGreatDoor
