import Derived.Test.YtfbojelpdccjaaaGreatDoorPkB13
import Derived.Test.YtfbojelpdccjaaaGreatDoorPkB7
set_option maxRecDepth 100000
namespace Go.Proofs.YtfbojelpdccjaaaGreatDoor
open Go.RowKit
variable {l : List UInt8} {c i : Nat} {a : Tr} {r : Tr×Nat}
section
open Go.RowKit
def lvK (k : Int) : Int:=if k=8∨k=9∨k=10∨k=6∨k=20 then 0 else if k=19 then 1 else if k=14∨k=15 then 2 else if k=11∨k=12 then 3 else if k=13 then 4 else if k=7∨k=17∨k=18∨k=21∨k=22 then 5 else 6
def needZ (k : Int) (i : Nat) : Int:=if k=7 then (if i=0 then 5 else 6) else if k=11∨k=12 then (if i=0 then 3 else 4) else if k=13 then (if i=0 then 4 else 5) else if k=14∨k=15 then 3 else if k=19 then (if i=0 then 2 else 1) else if k=17∨k=18∨k=21∨k=22 then 6 else 0
def ownB (k : Int) : Nat:=if k=3∨k=16 then 1 else 0
def oF : Int→Nat→Fo→Nat
 | _,_,.none=>0
 | k,i,.tree n kk r=>(ownB n.kind+oF n.kind 0 kk)+(if lvK n.kind < needZ k i then 1 else 0)+oF k (i+1) r
def oB (t : Tr) : Nat:=ownB t.1.kind+oF t.1.kind 0 t.2
def oS (t : Tr) (l : Int) : Nat:=oB t+if lvK t.1.kind < l then 1 else 0
theorem oS_mono {t : Tr} {l l' : Int} (h : l≤l') : oS t l≤oS t l':= by
 unfold oS;split <;> split <;> omega
theorem oS_le (t : Tr) (l : Int) : oS t l≤oB t+1:=by
 unfold oS;split <;> omega
theorem lvK_pos (k : Int) : 0≤lvK k:=by
 unfold lvK;repeat' split
 all_goals omega
theorem oS_zero (t : Tr) : oS t 0=oB t:=by
 unfold oS;rw [if_neg (by have:=lvK_pos t.1.kind; omega)];rfl
theorem z55 (k : Int) (i : Nat) (t : Tr) (r : List Tr) : oF k i (foL (t::r))=oS t (needZ k i)+oF k (i+1) (foL r):=rfl
theorem z62 (k : Int) (i : Nat) : oF k i (foL [])=0:=rfl
theorem oB_mk (n : Nd) (ks : List Tr) : oB (mkT n ks)=ownB n.kind+oF n.kind 0 (foL ks):=rfl
theorem oS_mk (n : Nd) (ks : List Tr) (l : Int) : oS (mkT n ks) l=ownB n.kind+oF n.kind 0 (foL ks)+if lvK n.kind < l then 1 else 0:=rfl
theorem oF_hand {k : Int} (hk : k=23∨k=24) : ∀ (l : List Tr) (i : Nat),oF k i (foL l)=(l.map oB).sum
 | [],_=>rfl
 | t::r,i=>by
   have h0 : needZ k i=0:=by
    unfold needZ;rcases hk with rfl | rfl <;> simp
   rw [z55,oF_hand hk r,h0,oS_zero];rfl
section
variable (ws : List Wd)
def pc (i : Nat) : Nat:=(ws.take i).countP (fun w=>w.text.toList==gOpen)
theorem pc_step (i : Nat) : pc ws i≤pc ws (i+1):=by
 unfold pc;rw [List.take_add_one,List.countP_append];omega
theorem pc_open (hi : i < ws.length) (h : ((curW ws i).text.toList==gOpen)=true) : pc ws (i+1)=pc ws i+1:=by
 unfold pc;rw [List.take_add_one,List.countP_append,List.getElem?_eq_getElem hi];have e : curW ws i=ws[i]:=by
  unfold curW;rw [List.getD_eq_getElem?_getD,List.getElem?_eq_getElem hi];rfl
 rw [e] at h;simp [h]
def levelB : Nt Tr→Int
 | .expr=>0
 | .cons=>1
 | .comp=>2
 | .sum=>3
 | .prod=>4
 | .call=>5
 | .atom=>6
 | .sumL _=>3
 | .prodL _=>4
 | .callL _=>5
 | .hand _=>6
 | .opsL _ _=>6
def accB : Nt Tr→Nat
 | .sumL a=>oS a 3
 | .prodL a=>oS a 4
 | .callL a=>oS a 5
 | .opsL _ ks=>(ks.map oB).sum
 | _=>0
def okB : Nt Tr→Prop
 | .hand k=>k=23∨k=24
 | .opsL k _=>k=23∨k=24
 | _=>True
def TookB (l : Int) (a : Nat) (i : Nat) (t : Tr) (j : Nat) : Prop:=i≤j∧pc ws i+oS t l≤pc ws j+a
variable {ws}
theorem z19 {α β : Type} {p : PI α} {k : α→PI β} {r : β×Nat} (h : bindI p k i= .ok r) : ∃ a j,p i= .ok (a,j)∧k a j= .ok r:=by
 unfold bindI at h
 cases e : p i with
 | error x=>rw [e] at h; cases h
 | ok x=>rw [e] at h; exact⟨x.1,x.2,rfl,h⟩
theorem take_ok {r : Unit×Nat} (h : takeI ws l i= .ok r) : r.2=i+1:=by
 unfold takeI at h;split at h
 ·cases h;rfl
 ·cases h
theorem name_ok {r : ByteArray×Nat} (h : nameI ws i= .ok r) : r.2=i+1:=by
 unfold nameI at h;split at h
 ·cases h;rfl
 ·cases h
theorem or_ok {α : Type} {p q : PI α} {r : α×Nat} (h : orI ws l p q i= .ok r) : p (i+1)= .ok r∨q i= .ok r:=by
 unfold orI at h;split at h
 ·exact Or.inl h
 ·exact Or.inr h
end
section
variable {ws : List Wd} {go : Nt Tr→PI Tr}
theorem z53 {r : Unit×Nat} (h : takeI ws l i= .ok r) : r.2=i+1∧pc ws i≤pc ws r.2:=by
 have e:=take_ok h;rw [e];exact⟨rfl,pc_step ws i⟩
theorem name_pc {r : ByteArray×Nat} (h : nameI ws i= .ok r) : r.2=i+1∧pc ws i≤pc ws r.2:=by
 have e:=name_ok h;rw [e];exact⟨rfl,pc_step ws i⟩
def PartsB (ws : List Wd) (go : Nt Tr→PI Tr) : Prop:= ∀ nt,okB nt→ ∀ i r,go nt i= .ok r→TookB ws (levelB nt) (accB nt) i r.1 r.2
theorem let_took (H : PartsB ws go) (h : letI' ws go i= .ok r) : TookB ws 0 0 i r.1 r.2:=by
 unfold letI' at h;obtain⟨x1,j1,h1,h⟩:=z19 h;obtain⟨y2,j2,h2,h⟩:=z19 h;obtain⟨x3,j3,h3,h⟩:=z19 h;obtain⟨y4,j4,h4,h⟩:=z19 h;obtain⟨x5,j5,h5,h⟩:=z19 h
 cases h;have e1:=name_pc h1;have e2:=z53 h2;obtain⟨e3,f3⟩:=H (.expr) trivial _ _ h3;have e4:=z53 h4;obtain⟨e5,f5⟩:=H (.expr) trivial _ _ h5;simp only [levelB,accB] at f3 f5;dsimp only at e1 e2 e4;dsimp only at e3 f3 e5 f5;refine⟨by dsimp only; omega,?_⟩;simp [oS_mk,z55,z62,nd1,needZ,lvK,ownB];omega
theorem rec_took (H : PartsB ws go) (h : recI' ws go i= .ok r) : TookB ws 0 0 i r.1 r.2:=by
 unfold recI' at h;obtain⟨x1,j1,h1,h⟩:=z19 h;obtain⟨x2,j2,h2,h⟩:=z19 h;obtain⟨y3,j3,h3,h⟩:=z19 h;obtain⟨x4,j4,h4,h⟩:=z19 h;obtain⟨y5,j5,h5,h⟩:=z19 h;obtain⟨x6,j6,h6,h⟩:=z19 h
 cases h;have e1:=name_pc h1;have e2:=name_pc h2;have e3:=z53 h3;obtain⟨e4,f4⟩:=H (.expr) trivial _ _ h4;have e5:=z53 h5;obtain⟨e6,f6⟩:=H (.expr) trivial _ _ h6;simp only [levelB,accB] at f4 f6;dsimp only at e1 e2 e3 e5;dsimp only at e4 f4 e6 f6;refine⟨by dsimp only; omega,?_⟩;simp [oS_mk,z55,z62,nd2,needZ,lvK,ownB];omega
theorem cond_took (H : PartsB ws go) (h : condI ws go i= .ok r) : TookB ws 0 0 i r.1 r.2:=by
 unfold condI at h;obtain⟨x1,j1,h1,h⟩:=z19 h;obtain⟨y2,j2,h2,h⟩:=z19 h;obtain⟨x3,j3,h3,h⟩:=z19 h;obtain⟨y4,j4,h4,h⟩:=z19 h;obtain⟨x5,j5,h5,h⟩:=z19 h
 cases h;obtain⟨e1,f1⟩:=H (.expr) trivial _ _ h1;have e2:=z53 h2;obtain⟨e3,f3⟩:=H (.expr) trivial _ _ h3;have e4:=z53 h4;obtain⟨e5,f5⟩:=H (.expr) trivial _ _ h5;simp only [levelB,accB] at f1 f3 f5;dsimp only at e2 e4;dsimp only at e1 f1 e3 f3 e5 f5;refine⟨by dsimp only; omega,?_⟩;simp [oS_mk,z55,z62,nd0,needZ,lvK,ownB];omega
theorem fn_took (H : PartsB ws go) (h : fnI ws go i= .ok r) : TookB ws 0 0 i r.1 r.2:=by
 unfold fnI at h;obtain⟨x1,j1,h1,h⟩:=z19 h;obtain⟨y2,j2,h2,h⟩:=z19 h;obtain⟨x3,j3,h3,h⟩:=z19 h
 cases h;have e1:=name_pc h1;have e2:=z53 h2;obtain⟨e3,f3⟩:=H (.expr) trivial _ _ h3;simp only [levelB,accB] at f3;dsimp only at e1 e2;dsimp only at e3 f3;refine⟨by dsimp only; omega,?_⟩;simp [oS_mk,z55,z62,nd1,needZ,lvK,ownB];omega
theorem case_took (H : PartsB ws go) (h : caseI ws go i= .ok r) : TookB ws 0 0 i r.1 r.2:=by
 unfold caseI at h;obtain⟨x1,j1,h1,h⟩:=z19 h;obtain⟨y2,j2,h2,h⟩:=z19 h;obtain⟨y3,j3,h3,h⟩:=z19 h;obtain⟨y4,j4,h4,h⟩:=z19 h;obtain⟨x5,j5,h5,h⟩:=z19 h;obtain⟨y6,j6,h6,h⟩:=z19 h;obtain⟨x7,j7,h7,h⟩:=z19 h;obtain⟨y8,j8,h8,h⟩:=z19 h;obtain⟨x9,j9,h9,h⟩:=z19 h;obtain⟨y10,j10,h10,h⟩:=z19 h;obtain⟨x11,j11,h11,h⟩:=z19 h
 cases h;obtain⟨e1,f1⟩:=H (.expr) trivial _ _ h1;have e2:=z53 h2;have e3:=z53 h3;have e4:=z53 h4;obtain⟨e5,f5⟩:=H (.expr) trivial _ _ h5;have e6:=z53 h6;have e7:=name_pc h7;have e8:=z53 h8;have e9:=name_pc h9;have e10:=z53 h10;obtain⟨e11,f11⟩:=H (.expr) trivial _ _ h11;simp only [levelB,accB] at f1 f5 f11;dsimp only at e2 e3 e4 e6 e7 e8 e9 e10;dsimp only at e1 f1 e5 f5 e11 f11;refine⟨by dsimp only; omega,?_⟩;simp [oS_mk,z55,z62,nd2,needZ,lvK,ownB];omega
theorem expr_took (H : PartsB ws go) (h : exprI ws go i= .ok r) : TookB ws 0 0 i r.1 r.2:=by
 unfold exprI at h;have p1:=pc_step ws i;have p2:=pc_step ws (i+1);rcases or_ok h with h | h
 ·rcases or_ok h with h | h
  ·have:=rec_took H h;exact⟨by have:=this.1; omega,by have:=this.2; omega⟩
  ·have:=let_took H h;exact⟨by have:=this.1; omega,by have:=this.2; omega⟩
 rcases or_ok h with h | h
 ·have:=cond_took H h;exact⟨by have:=this.1; omega,by have:=this.2; omega⟩
 rcases or_ok h with h | h
 ·have:=fn_took H h;exact⟨by have:=this.1; omega,by have:=this.2; omega⟩
 rcases or_ok h with h | h
 ·have:=case_took H h;exact⟨by have:=this.1; omega,by have:=this.2; omega⟩
 obtain⟨e,f⟩:=H .cons trivial _ _ h;simp only [levelB,accB] at f;have:=oS_mono (t:=r.1) (show (0 : Int)≤1 by decide);exact⟨e,by omega⟩
theorem cons_took (H : PartsB ws go) (h : consI ws go i= .ok r) : TookB ws 1 0 i r.1 r.2:=by
 unfold consI at h;obtain⟨a,j,h1,h⟩:=z19 h;obtain⟨e1,f1⟩:=H .comp trivial _ _ h1;simp only [levelB,accB] at e1 f1;have p1:=pc_step ws j;rcases or_ok h with h | h
 ·obtain⟨b,k,h2,h⟩:=z19 h;obtain⟨e2,f2⟩:=H .cons trivial _ _ h2;simp only [levelB,accB] at e2 f2
  cases h;refine⟨by dsimp only; omega,?_⟩;simp [oS_mk,z55,z62,nd0,needZ,lvK,ownB];omega
 ·cases h;have:=oS_mono (t:=a) (show (1 : Int)≤2 by decide);exact⟨e1,by dsimp only; omega⟩
theorem comp_took (H : PartsB ws go) (h : compI ws go i= .ok r) : TookB ws 2 0 i r.1 r.2:=by
 unfold compI at h;obtain⟨a,j,h1,h⟩:=z19 h;obtain⟨e1,f1⟩:=H .sum trivial _ _ h1;simp only [levelB,accB] at e1 f1;have p1:=pc_step ws j;rcases or_ok h with h | h
 ·obtain⟨b,k,h2,h⟩:=z19 h;obtain⟨e2,f2⟩:=H .sum trivial _ _ h2;simp only [levelB,accB] at e2 f2
  cases h;refine⟨by dsimp only; omega,?_⟩;simp [oS_mk,z55,z62,nd0,needZ,lvK,ownB];omega
 rcases or_ok h with h | h
 ·obtain⟨b,k,h2,h⟩:=z19 h;obtain⟨e2,f2⟩:=H .sum trivial _ _ h2;simp only [levelB,accB] at e2 f2
  cases h;refine⟨by dsimp only; omega,?_⟩;simp [oS_mk,z55,z62,nd0,needZ,lvK,ownB];omega
 ·cases h;have:=oS_mono (t:=a) (show (2 : Int)≤3 by decide);exact⟨e1,by dsimp only; omega⟩
theorem sum_took (H : PartsB ws go) (h : sumI go i= .ok r) : TookB ws 3 0 i r.1 r.2:=by
 unfold sumI at h;obtain⟨a,j,h1,h⟩:=z19 h;obtain⟨e1,f1⟩:=H .prod trivial _ _ h1;obtain⟨e2,f2⟩:=H (.sumL a) trivial _ _ h;simp only [levelB,accB] at e1 f1 e2 f2;have:=oS_mono (t:=a) (show (3 : Int)≤4 by decide);exact⟨by omega,by omega⟩
theorem sumL_took (H : PartsB ws go) (h : sumLI ws go a i= .ok r) : TookB ws 3 (oS a 3) i r.1 r.2:=by
 unfold sumLI at h;have p1:=pc_step ws i;rcases or_ok h with h | h
 ·obtain⟨b,k,h2,h⟩:=z19 h;obtain⟨e2,f2⟩:=H .prod trivial _ _ h2;obtain⟨e3,f3⟩:=H (.sumL _) trivial _ _ h;simp only [levelB,accB] at e2 f2 e3 f3;have e : oS (mkT (nd0 11) [a,b]) 3=oS a 3+oS b 4:=by simp [oS_mk,z55,z62,nd0,needZ,lvK,ownB]
  exact⟨by omega,by omega⟩
 rcases or_ok h with h | h
 ·obtain⟨b,k,h2,h⟩:=z19 h;obtain⟨e2,f2⟩:=H .prod trivial _ _ h2;obtain⟨e3,f3⟩:=H (.sumL _) trivial _ _ h;simp only [levelB,accB] at e2 f2 e3 f3;have e : oS (mkT (nd0 12) [a,b]) 3=oS a 3+oS b 4:=by simp [oS_mk,z55,z62,nd0,needZ,lvK,ownB]
  exact⟨by omega,by omega⟩
 ·cases h;exact⟨Nat.le_refl _,Nat.le_refl _⟩
theorem prod_took (H : PartsB ws go) (h : prodI go i= .ok r) : TookB ws 4 0 i r.1 r.2:=by
 unfold prodI at h;obtain⟨a,j,h1,h⟩:=z19 h;obtain⟨e1,f1⟩:=H .call trivial _ _ h1;obtain⟨e2,f2⟩:=H (.prodL a) trivial _ _ h;simp only [levelB,accB] at e1 f1 e2 f2;have:=oS_mono (t:=a) (show (4 : Int)≤5 by decide);exact⟨by omega,by omega⟩
theorem prodL_took (H : PartsB ws go) (h : prodLI ws go a i= .ok r) : TookB ws 4 (oS a 4) i r.1 r.2:=by
 unfold prodLI at h;have p1:=pc_step ws i;rcases or_ok h with h | h
 ·obtain⟨b,k,h2,h⟩:=z19 h;obtain⟨e2,f2⟩:=H .call trivial _ _ h2;obtain⟨e3,f3⟩:=H (.prodL _) trivial _ _ h;simp only [levelB,accB] at e2 f2 e3 f3;have e : oS (mkT (nd0 13) [a,b]) 4=oS a 4+oS b 5:=by simp [oS_mk,z55,z62,nd0,needZ,lvK,ownB]
  exact⟨by omega,by omega⟩
 ·cases h;exact⟨Nat.le_refl _,Nat.le_refl _⟩
theorem head_took (H : PartsB ws go) (h : headI ws go i= .ok r) : TookB ws 5 0 i r.1 r.2:=by
 unfold headI at h;have p1:=pc_step ws i;rcases or_ok h with h | h
 ·obtain⟨b,k,h2,h⟩:=z19 h;obtain⟨e2,f2⟩:=H .atom trivial _ _ h2;simp only [levelB,accB] at e2 f2
  cases h;refine⟨by dsimp only; omega,?_⟩;simp [oS_mk,z55,z62,nd0,needZ,lvK,ownB];omega
 rcases or_ok h with h | h
 ·obtain⟨b,k,h2,h⟩:=z19 h;obtain⟨e2,f2⟩:=H .atom trivial _ _ h2;simp only [levelB,accB] at e2 f2
  cases h;refine⟨by dsimp only; omega,?_⟩;simp [oS_mk,z55,z62,nd0,needZ,lvK,ownB];omega
 rcases or_ok h with h | h
 ·obtain⟨b,k,h2,h⟩:=z19 h;obtain⟨e2,f2⟩:=H .atom trivial _ _ h2;simp only [levelB,accB] at e2 f2
  cases h;refine⟨by dsimp only; omega,?_⟩;simp [oS_mk,z55,z62,nd0,needZ,lvK,ownB];omega
 rcases or_ok h with h | h
 ·obtain⟨x,j,h1,h⟩:=z19 h;obtain⟨b,k,h2,h⟩:=z19 h;have e1:=name_pc h1;obtain⟨e2,f2⟩:=H .atom trivial _ _ h2;simp only [levelB,accB] at e2 f2;dsimp only at e1
  cases h;refine⟨by dsimp only; omega,?_⟩;simp [oS_mk,z55,z62,nd1,needZ,lvK,ownB];omega
 ·obtain⟨e2,f2⟩:=H .atom trivial _ _ h;simp only [levelB,accB] at e2 f2;have:=oS_mono (t:=r.1) (show (5 : Int)≤6 by decide);exact⟨e2,by omega⟩
theorem call_took (H : PartsB ws go) (h : callI ws go i= .ok r) : TookB ws 5 0 i r.1 r.2:=by
 unfold callI at h;obtain⟨a,j,h1,h⟩:=z19 h;obtain⟨e1,f1⟩:=head_took H h1;obtain⟨e2,f2⟩:=H (.callL a) trivial _ _ h;simp only [levelB,accB] at e1 f1 e2 f2;exact⟨by omega,by omega⟩
theorem callL_took (H : PartsB ws go) (h : callLI ws go a i= .ok r) : TookB ws 5 (oS a 5) i r.1 r.2:=by
 unfold callLI at h;split at h
 ·obtain⟨b,k,h2,h⟩:=z19 h;obtain⟨e2,f2⟩:=H .atom trivial _ _ h2;obtain⟨e3,f3⟩:=H (.callL _) trivial _ _ h;simp only [levelB,accB] at e2 f2 e3 f3;have e : oS (mkT (nd0 7) [a,b]) 5=oS a 5+oS b 6:=by simp [oS_mk,z55,z62,nd0,needZ,lvK,ownB]
  exact⟨by omega,by omega⟩
 ·cases h;exact⟨Nat.le_refl _,Nat.le_refl _⟩
theorem brack_took (H : PartsB ws go) (h : brackI ws go i= .ok r) : i≤r.2∧pc ws i+oS r.1 6≤pc ws r.2+1:=by
 unfold brackI at h;have p1:=pc_step ws i;rcases or_ok h with h | h
 ·cases h;refine⟨by dsimp only; omega,?_⟩;simp [oS_mk,z62,nd0,lvK,ownB];omega
 obtain⟨a,j,h1,h⟩:=z19 h;obtain⟨e1,f1⟩:=H .expr trivial _ _ h1;simp only [levelB,accB] at e1 f1;have p2:=pc_step ws j;rcases or_ok h with h | h
 ·obtain⟨b,k,h2,h⟩:=z19 h;obtain⟨y,l,h3,h⟩:=z19 h;have e3:=z53 h3;obtain⟨e2,f2⟩:=H .expr trivial _ _ h2;simp only [levelB,accB] at e2 f2;dsimp only at e3
  cases h;refine⟨by dsimp only; omega,?_⟩;simp [oS_mk,z55,z62,nd0,needZ,lvK,ownB];omega
 ·obtain⟨y,l,h3,h⟩:=z19 h;have e3:=z53 h3;dsimp only at e3
  cases h;rw [oS_zero] at f1;have:=oS_le a 6;exact⟨by dsimp only; omega,by dsimp only; omega⟩
theorem hand_took (H : PartsB ws go) {k : Int} (hk : k=23∨k=24) (h : handI ws go k i= .ok r) : TookB ws 6 0 i r.1 r.2:=by
 unfold handI at h;obtain⟨a,j1,h1,h⟩:=z19 h;obtain⟨y2,j2,h2,h⟩:=z19 h;obtain⟨y3,j3,h3,h⟩:=z19 h;obtain⟨x4,j4,h4,h⟩:=z19 h;obtain⟨y5,j5,h5,h⟩:=z19 h;obtain⟨b,j6,h6,h⟩:=z19 h;obtain⟨e1,f1⟩:=H .expr trivial _ _ h1;have e2:=z53 h2;have e3:=z53 h3;have e4:=name_pc h4;have e5:=z53 h5;obtain⟨e6,f6⟩:=H .expr trivial _ _ h6;obtain⟨e7,f7⟩:=H (.opsL k _) hk _ _ h;simp only [levelB,accB] at e1 f1 e6 f6 e7 f7;dsimp only at e2 e3 e4 e5;have e : oB (mkT (nd1 25 x4) [b])=oS b 0:=by simp [oB_mk,z55,z62,nd1,needZ,ownB]
 simp only [List.map_cons,List.map_nil,List.sum_cons,List.sum_nil,e] at f7;rw [oS_zero] at f1;exact⟨by omega,by omega⟩
theorem opsL_took (H : PartsB ws go) {k : Int} (hk : k=23∨k=24) {ks : List Tr} (h : opsLI ws go k ks i= .ok r) : TookB ws 6 (ks.map oB).sum i r.1 r.2:=by
 unfold opsLI at h;have p1:=pc_step ws i;rcases or_ok h with h | h
 ·obtain⟨x1,j1,h1,h⟩:=z19 h;obtain⟨x2,j2,h2,h⟩:=z19 h;obtain⟨x3,j3,h3,h⟩:=z19 h;obtain⟨y4,j4,h4,h⟩:=z19 h;obtain⟨b,j5,h5,h⟩:=z19 h;have e1:=name_pc h1;have e2:=name_pc h2;have e3:=name_pc h3;have e4:=z53 h4;obtain⟨e6,f6⟩:=H .expr trivial _ _ h5;obtain⟨e7,f7⟩:=H (.opsL k _) hk _ _ h;simp only [levelB,accB] at e6 f6 e7 f7;dsimp only at e1 e2 e3 e4;have e : oB (mkT (nd3 26 x1 x2 x3) [b])=oS b 0:=by simp [oB_mk,z55,z62,nd3,needZ,ownB]
  simp only [List.map_append,List.sum_append,List.map_cons,List.map_nil,List.sum_cons,List.sum_nil,e] at f7;exact⟨by omega,by omega⟩
 ·obtain⟨y,l,h3,h⟩:=z19 h;have e3:=z53 h3;dsimp only at e3
  cases h;refine⟨by dsimp only; omega,?_⟩;have e : oS (mkT (nd0 k) ks) 6=(ks.map oB).sum:=by
   rw [oS_mk,show (nd0 k).kind=k from rfl,oF_hand hk];rcases hk with rfl | rfl <;> simp [ownB,lvK]
  dsimp only;omega
theorem atom_took (H : PartsB ws go) (h : atomI ws go i= .ok r) : TookB ws 6 0 i r.1 r.2:=by
 unfold atomI at h;split at h
 case isFalse=>cases h
 rename_i hs;have p1:=pc_step ws i;unfold wordI at h;split at h
 ·cases h;refine⟨by dsimp only; omega,?_⟩;simp [oS_mk,z62,ndN,lvK,ownB];omega
 split at h
 ·cases h;refine⟨by dsimp only; omega,?_⟩;simp [oS_mk,z62,nd1,lvK,ownB];omega
 split at h
 ·cases h;refine⟨by dsimp only; omega,?_⟩;simp [oS_mk,z62,ndN,lvK,ownB];omega
 split at h
 ·cases h;refine⟨by dsimp only; omega,?_⟩;simp [oS_mk,z62,nd0,lvK,ownB];omega
 split at h
 ·cases h;refine⟨by dsimp only; omega,?_⟩;simp [oS_mk,z62,nd0,lvK,ownB];omega
 split at h
 ·obtain⟨e,f⟩:=H (.hand 23) (Or.inl rfl) _ _ h;simp only [levelB,accB] at f;exact⟨by omega,by omega⟩
 split at h
 ·obtain⟨e,f⟩:=H (.hand 24) (Or.inr rfl) _ _ h;simp only [levelB,accB] at f;exact⟨by omega,by omega⟩
 ·rename_i n1 n2 n3 n4 n5 n6 n7;obtain⟨e,f⟩:=brack_took H h;have hi : i < ws.length∧((curW ws i).text.toList==gOpen)=true:=by
   unfold startsI begins at hs;simp only [Bool.and_eq_true,decide_eq_true_eq,Bool.or_eq_true] at hs;refine⟨hs.1,?_⟩;rcases hs.2 with h | h | h | h | h | h | h | h
   ·exact absurd h n1
   ·exact absurd h n2
   ·exact h
   ·exact absurd h n3
   ·exact absurd h n4
   ·exact absurd h n5
   ·exact absurd h n6
   ·exact absurd h n7
  have:=pc_open ws hi.1 hi.2;exact⟨by omega,by omega⟩
end
theorem parts_all (ws : List Wd) : ∀ F,PartsB ws (ipz ws F)
 | 0=>fun _ _ _ _ h=>by cases h
 | F+1=>fun nt hk i r h=>by
   have H:=parts_all ws F
   cases nt with
   | expr=>exact expr_took H h
   | cons=>exact cons_took H h
   | comp=>exact comp_took H h
   | sum=>exact sum_took H h
   | prod=>exact prod_took H h
   | call=>exact call_took H h
   | atom=>exact atom_took H h
   | sumL a=>exact sumL_took H h
   | prodL a=>exact prodL_took H h
   | callL a=>exact callL_took H h
   | hand k=>exact hand_took H hk h
   | opsL k ks=>exact opsL_took H hk h
theorem read_brackets {ws : List Wd} {F j : Nat} {t : Tr} (h : ipz ws F .expr i= .ok (t,j)) : i≤j∧pc ws i+oB t≤pc ws j:=by
 obtain⟨e,f⟩:=parts_all ws F .expr trivial i (t,j) h;simp only [levelB,accB,oS_zero] at f;exact⟨e,by omega⟩
end
section
open Go.RowKit Go.Deep
theorem lv_same (k : Int) : lvZ k=lvK k:=rfl
def dpB (l : List UInt8) : Int:=(l.count 40 : Int) - (l.count 41 : Int)
theorem dpB_app (a b : List UInt8) : dpB (a++b)=dpB a+dpB b:=by
 unfold dpB;rw [List.count_append,List.count_append];omega
structure GB (l : List UInt8) (c : Nat) : Prop where
 cnt : l.count 40=c
 zero : dpB l=0
 low : ∀ i,0≤dpB (l.take i)
theorem GB.app {a b : List UInt8} {d : Nat} (h : GB a c) (h' : GB b d) : GB (a++b) (c+d):=by
 refine⟨by rw [List.count_append,h.cnt,h'.cnt],by rw [dpB_app,h.zero,h'.zero]; rfl,fun i=>?_⟩;rw [List.take_append,dpB_app];have:=h.low i;have:=h'.low (i - a.length);omega
theorem dp_free (h : ∀ b∈l,b≠40∧b≠41) : l.count 40=0∧dpB l=0:=by
 have h1 : l.count 40=0:=List.count_eq_zero.2 (fun hm=>(h _ hm).1 rfl);have h2 : l.count 41=0:=List.count_eq_zero.2 (fun hm=>(h _ hm).2 rfl);refine⟨h1,?_⟩;unfold dpB;rw [h1,h2];rfl
theorem GB.free (h : ∀ b∈l,b≠40∧b≠41) : GB l 0:=
 ⟨(dp_free h).1,(dp_free h).2,fun i=>by rw [(dp_free (l:=l.take i) (fun b hb=>h b (List.mem_of_mem_take hb))).2]; decide⟩
theorem GB.br (h : GB l c) : GB ([40]++l++ [41]) (c+1):=by
 have e0 : dpB [40]=1:=by decide
 have e1 : dpB [41]= -1:=by decide
 refine⟨?_,by rw [dpB_app,dpB_app,h.zero,e0,e1]; rfl,fun i=>?_⟩
 ·rw [List.count_append,List.count_append,h.cnt,show List.count (40 : UInt8) [40]=1 by decide,show List.count (40 : UInt8) [41]=0 by decide];omega
 ·rw [List.take_append,List.take_append,dpB_app,dpB_app]
  cases i with
  | zero=>simp [dpB]
  | succ i=>
    have e2 : ([40] : List UInt8).take (i+1)= [40]:=by simp
    have h3 : ∀ j,-1≤dpB (([41] : List UInt8).take j):=fun j=>by
     cases j with
     | zero=>simp [dpB]
     | succ j=>rw [show ([41] : List UInt8).take (j+1)= [41] by simp,e1]; decide
    have:=h.low (i+1 - [40].length);have:=h3 (i+1 - ([40]++l).length);rw [e2,e0];omega
theorem GB.eq {d : Nat} (h : GB l c) (e : c=d) : GB l d:=e ▸ h
theorem digits_free : ∀ (n : Nat),∀ b∈Lib.decDigits n,b≠40∧b≠41
 | n=>fun b hb=>by
   have hd : ∀ d : Nat,d < 10→UInt8.ofNat (48+d)≠40∧UInt8.ofNat (48+d)≠41:=by decide
   rw [Lib.decDigits] at hb;split at hb
   ·rename_i h;rw [List.mem_singleton] at hb;rw [hb];exact hd n h
   ·rcases List.mem_append.1 hb with hb | hb
    ·exact digits_free (n / 10) b hb
    ·rw [List.mem_singleton] at hb;rw [hb];exact hd (n % 10) (by omega)
termination_by n=>n
decreasing_by omega
theorem itoa_free (n : Int) : ∀ b∈Lib.itoa n,b≠40∧b≠41:=fun b hb=>by
 unfold Lib.itoa at hb;split at hb
 ·rcases List.mem_cons.1 hb with rfl | hb
  ·decide
  ·exact digits_free _ b hb
 ·exact digits_free _ b hb
def oK (k : Int) : Nat→List Tp→Nat
 | _,[]=>0
 | i,c::r=>oS (c.n,c.k) (needZ k i)+oK k (i+1) r
theorem oF_kids : ∀ (f : Fo) (k : Int) (i p : Nat),oF k i f=oK k i (kidsAt f p)
 | .none,_,_,_=>rfl
 | .tree n kk r,k,i,p=>by
   rw [kidsAt,oK,oF,oF_kids r k (i+1) (p+1+kk.flat.length)];rfl
def oT (t : Tp) : Nat:=oB (t.n,t.k)
def oL (t : Tp) (l : Int) : Nat:=oS (t.n,t.k) l
theorem z44 (t : Tp) : oT t=ownB t.n.kind+oK t.n.kind 0 t.kids:=by
 unfold oT oB Tp.kids;rw [oF_kids _ _ _ (t.at_+1)]
theorem z59 (k : Int) (i : Nat) (c : Tp) (r : List Tp) : oK k i (c::r)=oL c (needZ k i)+oK k (i+1) r:=rfl
theorem oK_nil (k : Int) (i : Nat) : oK k i []=0:=rfl
theorem oL_zero (t : Tp) : oL t 0=oT t:=oS_zero _
structure NoBr (m : Nd) : Prop where
 a : ∀ b∈m.a.data.toList,b≠40∧b≠41
 b : ∀ b∈m.b.data.toList,b≠40∧b≠41
 c : ∀ b∈m.c.data.toList,b≠40∧b≠41
theorem Stands.noBr {ns : List Nd} {t : Tp} (h : Stands ns t) (hn : ∀ m∈ns,NoBr m) : NoBr t.n:=by
 obtain⟨suf,hd⟩:=h.drop;refine hn _ (List.mem_of_mem_drop (i:=t.at_) ?_);rw [hd];exact List.mem_cons_self
theorem GB.brZ {k least : Int} {l : List UInt8} {c : Nat} (h : GB l c) : GB (brZ k least l) (c+if lvK k < least then 1 else 0):=by
 unfold Go.Proofs.YtfbojelpdccjaaaGreatDoor.brZ;rw [lv_same];split
 ·exact h.br
 ·exact h
theorem clause_kind {t : Tp} (h : Sk t) (hk : t.n.kind=23∨t.n.kind=24) {j : Nat} (hj : j < t.k.count) (h1 : 1≤j) : (t.kid j).n.kind=25∨(t.kid j).n.kind=26:=by
 have h2:=(kids_role t.k t.n.kind 0 (t.at_+1) [] j h hj).1;rw [Nat.zero_add] at h2;unfold headOk at h2;simp only [Bool.and_eq_true] at h2;have hr : role t.n.kind j=1∨role t.n.kind j=2:=by
  unfold role;rw [if_pos hk];split <;> omega
 rcases hr with hr | hr
 ·have:=h2.1.1;rw [hr] at this;exact Or.inl (by simpa [Tp.kid,Tp.kids] using this)
 ·have:=h2.1.2;rw [hr] at this;exact Or.inr (by simpa [Tp.kid,Tp.kids] using this)
theorem clause_oT {c : Tp} (hk : c.n.kind=25∨c.n.kind=26) (hc : c.k.count=1) : oT c=oT (c.kid 0):=by
 rw [z44,(kids1 hc).1];rcases hk with e | e <;> rw [e] <;> simp [ownB,z59,oK_nil,needZ,oL_zero]
theorem hand_oK {k : Int} (hk : k=23∨k=24) : ∀ (l : List Tp) (i : Nat),oK k i l=(l.map oT).sum
 | [],_=>rfl
 | c::r,i=>by
   have h0 : needZ k i=0:=by
    unfold needZ;rcases hk with rfl | rfl <;> simp
   rw [z59,hand_oK hk r,h0,oL_zero];rfl
theorem ops_G {ns : List Nd} {go : Tp→Int→List UInt8} {F : Nat} (hn : ∀ m∈ns,NoBr m) (hgo : ∀ t least,t.size≤F→Stands ns t→Ex t→GB (go t least) (oL t least)) : ∀ (l : List Tp) (T : List UInt8) (c : Nat),GB T c→(∀ c∈l,c.size≤F∧c.k.count=1∧Stands ns c∧Ex (c.kid 0)∧oT c=oT (c.kid 0))→GB (l.foldl (fun T c=>T++opT c (go (c.kid 0) 0)) T) (c+(l.map oT).sum)
 | [],T,c,h,_=>h
 | x::l,T,c,h,hl=>by
   obtain⟨h1,h2,h3,h4,h5⟩:=hl x List.mem_cons_self;have e:=(kids1 h2).2;have g:=hgo (x.kid 0) 0 (by omega) (h3.kid (by omega)) h4;rw [oL_zero,← h5] at g;have nt:=h3.noBr hn;have hop : GB (opT x (go (x.kid 0) 0)) (oT x):=GB.eq (GB.app (GB.app (GB.app (GB.app (GB.app (GB.app (GB.app (GB.free (by decide)) (GB.free nt.a)) (GB.free (by decide))) (GB.free nt.b)) (GB.free (by decide))) (GB.free nt.c)) (GB.free (by decide))) g) (by omega);refine (ops_G hn hgo l _ _ (h.app hop) (fun y hy=>hl y (List.mem_cons_of_mem _ hy))).eq ?_;rw [List.map_cons,List.sum_cons];omega
theorem show_G {ns : List Nd} (hn : ∀ m∈ns,NoBr m) : ∀ F,(∀ t least,t.size≤F→Stands ns t→Ex t→GB (showZ F t least) (oL t least))∧ ∀ t,t.size≤F→Stands ns t→Ex t→GB (bareZ F t) (oT t):=by
 intro F;induction F with
 | zero=>exact⟨fun t _ h=>by have:=t.size_pos; omega,fun t h=>by have:=t.size_pos; omega⟩
 | succ F ih=>
   have key : ∀ t,t.size≤F+1→Stands ns t→Ex t→GB (bareZ (F+1) t) (oT t):=by
    intro t hF hs hx;have hg:=hs.toGood;have nt:=hs.noBr hn;by_cases k1 : t.n.kind=1
    ·rw [bare1 k1];have hc:=z20 hg k1 (c:=0) rfl;have e1 : t.kids= []:=List.eq_nil_of_length_eq_zero (kids_of t hc);have ho : oT t=0:=by rw [z44,e1,k1]; rfl
     rw [ho];exact GB.free (itoa_free _)
    by_cases k2 : t.n.kind=2
    ·rw [bare2 k2];have hc:=z20 hg k2 (c:=0) rfl;have e1 : t.kids= []:=List.eq_nil_of_length_eq_zero (kids_of t hc);have ho : oT t=0:=by rw [z44,e1,k2]; rfl
     rw [ho];split <;> exact GB.free (by decide)
    by_cases k3 : t.n.kind=3
    ·rw [bare3 k3];have hc:=z20 hg k3 (c:=0) rfl;have e1 : t.kids= []:=List.eq_nil_of_length_eq_zero (kids_of t hc);have ho : oT t=1:=by rw [z44,e1,k3]; rfl
     rw [ho];exact (GB.free (l:= []) (by decide)).br
    by_cases k4 : t.n.kind=4
    ·rw [bare4 k4];have hc:=z20 hg k4 (c:=0) rfl;have e1 : t.kids= []:=List.eq_nil_of_length_eq_zero (kids_of t hc);have ho : oT t=0:=by rw [z44,e1,k4]; rfl
     rw [ho];exact GB.free (l:= [110,105,108]) (by decide)
    by_cases k5 : t.n.kind=5
    ·rw [bare5 k5];have hc:=z20 hg k5 (c:=0) rfl;have e1 : t.kids= []:=List.eq_nil_of_length_eq_zero (kids_of t hc);have ho : oT t=0:=by rw [z44,e1,k5]; rfl
     rw [ho];exact GB.free nt.a
    by_cases k6 : t.n.kind=6
    ·rw [bare6 k6];have hc:=z20 hg k6 (c:=1) rfl;have e1:=(kids1 hc).2;have g0:=ih.1 (t.kid 0) 0 (by omega) (hs.kid (by omega)) (hx.1.ex (by omega) (z15 (by omega) _));have ho : oT t=oL (t.kid 0) 0:=by rw [z44,(kids1 hc).1,k6]; simp [ownB,z59,oK_nil,needZ]
     rw [ho];exact GB.eq (GB.app (GB.app (GB.app (GB.free (by decide)) (GB.free nt.a)) (GB.free (by decide))) g0) (by omega)
    by_cases k7 : t.n.kind=7
    ·rw [bare7 k7];have hc:=z20 hg k7 (c:=2) rfl;have e1:=(kids2 hc).2;have g0:=ih.1 (t.kid 0) 5 (by omega) (hs.kid (by omega)) (hx.1.ex (by omega) (z15 (by omega) _));have g1:=ih.1 (t.kid 1) 6 (by omega) (hs.kid (by omega)) (hx.1.ex (by omega) (z15 (by omega) _));have ho : oT t=oL (t.kid 0) 5+oL (t.kid 1) 6:=by rw [z44,(kids2 hc).1,k7]; simp [ownB,z59,oK_nil,needZ]
     rw [ho];exact GB.eq (GB.app (GB.app g0 (GB.free (by decide))) g1) (by omega)
    by_cases k8 : t.n.kind=8
    ·rw [bare8 k8];have hc:=z20 hg k8 (c:=2) rfl;have e1:=(kids2 hc).2;have g0:=ih.1 (t.kid 0) 0 (by omega) (hs.kid (by omega)) (hx.1.ex (by omega) (z15 (by omega) _));have g1:=ih.1 (t.kid 1) 0 (by omega) (hs.kid (by omega)) (hx.1.ex (by omega) (z15 (by omega) _));have ho : oT t=oL (t.kid 0) 0+oL (t.kid 1) 0:=by rw [z44,(kids2 hc).1,k8]; simp [ownB,z59,oK_nil,needZ]
     rw [ho];exact GB.eq (GB.app (GB.app (GB.app (GB.app (GB.app (GB.free (by decide)) (GB.free nt.a)) (GB.free (by decide))) g0) (GB.free (by decide))) g1) (by omega)
    by_cases k9 : t.n.kind=9
    ·rw [bare9 k9];have hc:=z20 hg k9 (c:=2) rfl;have e1:=(kids2 hc).2;have g0:=ih.1 (t.kid 0) 0 (by omega) (hs.kid (by omega)) (hx.1.ex (by omega) (z15 (by omega) _));have g1:=ih.1 (t.kid 1) 0 (by omega) (hs.kid (by omega)) (hx.1.ex (by omega) (z15 (by omega) _));have ho : oT t=oL (t.kid 0) 0+oL (t.kid 1) 0:=by rw [z44,(kids2 hc).1,k9]; simp [ownB,z59,oK_nil,needZ]
     rw [ho];exact GB.eq (GB.app (GB.app (GB.app (GB.app (GB.app (GB.app (GB.app (GB.free (by decide)) (GB.free nt.a)) (GB.free (by decide))) (GB.free nt.b)) (GB.free (by decide))) g0) (GB.free (by decide))) g1) (by omega)
    by_cases k10 : t.n.kind=10
    ·rw [bare10 k10];have hc:=z20 hg k10 (c:=3) rfl;have e1:=(kids3 hc).2;have g0:=ih.1 (t.kid 0) 0 (by omega) (hs.kid (by omega)) (hx.1.ex (by omega) (z15 (by omega) _));have g1:=ih.1 (t.kid 1) 0 (by omega) (hs.kid (by omega)) (hx.1.ex (by omega) (z15 (by omega) _));have g2:=ih.1 (t.kid 2) 0 (by omega) (hs.kid (by omega)) (hx.1.ex (by omega) (z15 (by omega) _));have ho : oT t=oL (t.kid 0) 0+oL (t.kid 1) 0+oL (t.kid 2) 0:=by rw [z44,(kids3 hc).1,k10]; simp [ownB,z59,oK_nil,needZ,Nat.add_assoc]
     rw [ho];exact GB.eq (GB.app (GB.app (GB.app (GB.app (GB.app (GB.free (by decide)) g0) (GB.free (by decide))) g1) (GB.free (by decide))) g2) (by omega)
    by_cases k11 : t.n.kind=11
    ·rw [bare11 k11];have hc:=z20 hg k11 (c:=2) rfl;have e1:=(kids2 hc).2;have g0:=ih.1 (t.kid 0) 3 (by omega) (hs.kid (by omega)) (hx.1.ex (by omega) (z15 (by omega) _));have g1:=ih.1 (t.kid 1) 4 (by omega) (hs.kid (by omega)) (hx.1.ex (by omega) (z15 (by omega) _));have ho : oT t=oL (t.kid 0) 3+oL (t.kid 1) 4:=by rw [z44,(kids2 hc).1,k11]; simp [ownB,z59,oK_nil,needZ]
     rw [ho];exact GB.eq (GB.app (GB.app (GB.app (GB.app g0 (GB.free (by decide))) (GB.free (by decide))) (GB.free (by decide))) g1) (by omega)
    by_cases k12 : t.n.kind=12
    ·rw [bare12 k12];have hc:=z20 hg k12 (c:=2) rfl;have e1:=(kids2 hc).2;have g0:=ih.1 (t.kid 0) 3 (by omega) (hs.kid (by omega)) (hx.1.ex (by omega) (z15 (by omega) _));have g1:=ih.1 (t.kid 1) 4 (by omega) (hs.kid (by omega)) (hx.1.ex (by omega) (z15 (by omega) _));have ho : oT t=oL (t.kid 0) 3+oL (t.kid 1) 4:=by rw [z44,(kids2 hc).1,k12]; simp [ownB,z59,oK_nil,needZ]
     rw [ho];exact GB.eq (GB.app (GB.app (GB.app (GB.app g0 (GB.free (by decide))) (GB.free (by decide))) (GB.free (by decide))) g1) (by omega)
    by_cases k13 : t.n.kind=13
    ·rw [bare13 k13];have hc:=z20 hg k13 (c:=2) rfl;have e1:=(kids2 hc).2;have g0:=ih.1 (t.kid 0) 4 (by omega) (hs.kid (by omega)) (hx.1.ex (by omega) (z15 (by omega) _));have g1:=ih.1 (t.kid 1) 5 (by omega) (hs.kid (by omega)) (hx.1.ex (by omega) (z15 (by omega) _));have ho : oT t=oL (t.kid 0) 4+oL (t.kid 1) 5:=by rw [z44,(kids2 hc).1,k13]; simp [ownB,z59,oK_nil,needZ]
     rw [ho];exact GB.eq (GB.app (GB.app (GB.app (GB.app g0 (GB.free (by decide))) (GB.free (by decide))) (GB.free (by decide))) g1) (by omega)
    by_cases k14 : t.n.kind=14
    ·rw [bare14 k14];have hc:=z20 hg k14 (c:=2) rfl;have e1:=(kids2 hc).2;have g0:=ih.1 (t.kid 0) 3 (by omega) (hs.kid (by omega)) (hx.1.ex (by omega) (z15 (by omega) _));have g1:=ih.1 (t.kid 1) 3 (by omega) (hs.kid (by omega)) (hx.1.ex (by omega) (z15 (by omega) _));have ho : oT t=oL (t.kid 0) 3+oL (t.kid 1) 3:=by rw [z44,(kids2 hc).1,k14]; simp [ownB,z59,oK_nil,needZ]
     rw [ho];exact GB.eq (GB.app (GB.app (GB.app (GB.app g0 (GB.free (by decide))) (GB.free (by decide))) (GB.free (by decide))) g1) (by omega)
    by_cases k15 : t.n.kind=15
    ·rw [bare15 k15];have hc:=z20 hg k15 (c:=2) rfl;have e1:=(kids2 hc).2;have g0:=ih.1 (t.kid 0) 3 (by omega) (hs.kid (by omega)) (hx.1.ex (by omega) (z15 (by omega) _));have g1:=ih.1 (t.kid 1) 3 (by omega) (hs.kid (by omega)) (hx.1.ex (by omega) (z15 (by omega) _));have ho : oT t=oL (t.kid 0) 3+oL (t.kid 1) 3:=by rw [z44,(kids2 hc).1,k15]; simp [ownB,z59,oK_nil,needZ]
     rw [ho];exact GB.eq (GB.app (GB.app (GB.app (GB.app g0 (GB.free (by decide))) (GB.free (by decide))) (GB.free (by decide))) g1) (by omega)
    by_cases k19 : t.n.kind=19
    ·rw [bare19 k19];have hc:=z20 hg k19 (c:=2) rfl;have e1:=(kids2 hc).2;have g0:=ih.1 (t.kid 0) 2 (by omega) (hs.kid (by omega)) (hx.1.ex (by omega) (z15 (by omega) _));have g1:=ih.1 (t.kid 1) 1 (by omega) (hs.kid (by omega)) (hx.1.ex (by omega) (z15 (by omega) _));have ho : oT t=oL (t.kid 0) 2+oL (t.kid 1) 1:=by rw [z44,(kids2 hc).1,k19]; simp [ownB,z59,oK_nil,needZ]
     rw [ho];exact GB.eq (GB.app (GB.app (GB.app (GB.app g0 (GB.free (by decide))) (GB.free (by decide))) (GB.free (by decide))) g1) (by omega)
    by_cases k16 : t.n.kind=16
    ·rw [bare16 k16];have hc:=z20 hg k16 (c:=2) rfl;have e1:=(kids2 hc).2;have g0:=ih.1 (t.kid 0) 0 (by omega) (hs.kid (by omega)) (hx.1.ex (by omega) (z15 (by omega) _));have g1:=ih.1 (t.kid 1) 0 (by omega) (hs.kid (by omega)) (hx.1.ex (by omega) (z15 (by omega) _));have ho : oT t=1+(oL (t.kid 0) 0+oL (t.kid 1) 0):=by rw [z44,(kids2 hc).1,k16]; simp [ownB,z59,oK_nil,needZ]
     rw [ho];have e : text16 (showZ F) t= [40]++(showZ F (t.kid 0) 0++ [44,32]++showZ F (t.kid 1) 0)++ [41]:=by simp [text16]
     rw [e];exact GB.eq (GB.br (GB.app (GB.app g0 (GB.free (by decide))) g1)) (by omega)
    by_cases k17 : t.n.kind=17
    ·rw [bare17 k17];have hc:=z20 hg k17 (c:=1) rfl;have e1:=(kids1 hc).2;have g0:=ih.1 (t.kid 0) 6 (by omega) (hs.kid (by omega)) (hx.1.ex (by omega) (z15 (by omega) _));have ho : oT t=oL (t.kid 0) 6:=by rw [z44,(kids1 hc).1,k17]; simp [ownB,z59,oK_nil,needZ]
     rw [ho];exact GB.eq (GB.app (GB.free (by decide)) g0) (by omega)
    by_cases k18 : t.n.kind=18
    ·rw [bare18 k18];have hc:=z20 hg k18 (c:=1) rfl;have e1:=(kids1 hc).2;have g0:=ih.1 (t.kid 0) 6 (by omega) (hs.kid (by omega)) (hx.1.ex (by omega) (z15 (by omega) _));have ho : oT t=oL (t.kid 0) 6:=by rw [z44,(kids1 hc).1,k18]; simp [ownB,z59,oK_nil,needZ]
     rw [ho];exact GB.eq (GB.app (GB.free (by decide)) g0) (by omega)
    by_cases k21 : t.n.kind=21
    ·rw [bare21 k21];have hc:=z20 hg k21 (c:=1) rfl;have e1:=(kids1 hc).2;have g0:=ih.1 (t.kid 0) 6 (by omega) (hs.kid (by omega)) (hx.1.ex (by omega) (z15 (by omega) _));have ho : oT t=oL (t.kid 0) 6:=by rw [z44,(kids1 hc).1,k21]; simp [ownB,z59,oK_nil,needZ]
     rw [ho];exact GB.eq (GB.app (GB.free (by decide)) g0) (by omega)
    by_cases k22 : t.n.kind=22
    ·rw [bare22 k22];have hc:=z20 hg k22 (c:=1) rfl;have e1:=(kids1 hc).2;have g0:=ih.1 (t.kid 0) 6 (by omega) (hs.kid (by omega)) (hx.1.ex (by omega) (z15 (by omega) _));have ho : oT t=oL (t.kid 0) 6:=by rw [z44,(kids1 hc).1,k22]; simp [ownB,z59,oK_nil,needZ]
     rw [ho];exact GB.eq (GB.app (GB.app (GB.app (GB.free (by decide)) (GB.free nt.a)) (GB.free (by decide))) g0) (by omega)
    by_cases k20 : t.n.kind=20
    ·rw [bare20 k20];have hc:=z20 hg k20 (c:=3) rfl;have e1:=(kids3 hc).2;have g0:=ih.1 (t.kid 0) 0 (by omega) (hs.kid (by omega)) (hx.1.ex (by omega) (z15 (by omega) _));have g1:=ih.1 (t.kid 1) 0 (by omega) (hs.kid (by omega)) (hx.1.ex (by omega) (z15 (by omega) _));have g2:=ih.1 (t.kid 2) 0 (by omega) (hs.kid (by omega)) (hx.1.ex (by omega) (z15 (by omega) _));have ho : oT t=oL (t.kid 0) 0+oL (t.kid 1) 0+oL (t.kid 2) 0:=by rw [z44,(kids3 hc).1,k20]; simp [ownB,z59,oK_nil,needZ,Nat.add_assoc]
     rw [ho];exact GB.eq (GB.app (GB.app (GB.app (GB.app (GB.app (GB.app (GB.app (GB.app (GB.app (GB.free (by decide)) g0) (GB.free (by decide))) g1) (GB.free (by decide))) (GB.free nt.a)) (GB.free (by decide))) (GB.free nt.b)) (GB.free (by decide))) g2) (by omega)
    have hh : t.n.kind=23∨t.n.kind=24:=by
     have h1:=(arity_at hg).1;have h2:=kinds t.n.kind;have h3:=hx.2;by_cases h4 : t.n.kind < 1∨26 < t.n.kind
     ·exact absurd (tab_other h4) h1
     ·omega
    have hc:=((arity_at hg).2.1 (by rcases hh with e | e <;> rw [e] <;> rfl)).1
    have hm:=kidsM hc;have hd:=hs.head hh;have hd1:=(hd (t.kid 1) (by rw [hm.1]; simp)).2;have e1:=(kids1 hd1).2;have g0:=ih.1 (t.kid 0) 0 (by omega) (hs.kid (by omega)) (hx.1.ex (by omega) (role_first _));have g1:=ih.1 ((t.kid 1).kid 0) 0 (by omega) ((hs.kid (by omega)).kid (by omega)) (clause_ex hx.1 (by omega) hd1);have c1:=clause_oT (clause_kind hx.1 hh (j:=1) (by omega) (Nat.le_refl _)) hd1;rw [oL_zero] at g0 g1;have nt1:=(hs.kid (i:=1) (by omega)).noBr hn
    have hret : GB (retT (t.kid 1) (showZ F ((t.kid 1).kid 0) 0)) (oT (t.kid 1)):=GB.eq (GB.app (GB.app (GB.app (GB.free (by decide)) (GB.free nt1.a)) (GB.free (by decide))) g1) (by omega);have hfst : GB (if t.n.kind=24 then [115,104,97,108,108,111,119,32] else [104,97,110,100,108,101,32]) 0:=by split <;> exact GB.free (by decide)
    have hol:=ops_G hn ih.1 (t.kids.drop 2) _ _ (GB.app (GB.app (GB.app hfst g0) (GB.free (l:= [32,119,105,116,104]) (by decide))) hret) (fun c hc2=>by
     have hs4:=sum_mem _ c hc2;have hc3 : c∈t.kids.drop 1:=by
      rw [show (2 : Nat)=1+1 from rfl,← List.drop_drop] at hc2;exact List.mem_of_mem_drop hc2
     obtain⟨j,hj,rfl⟩:=List.getElem_of_mem hc2;have hlen : (t.kids.drop 2).length=t.k.count - 2:=by rw [List.length_drop,t.kids_len]
     have hjk : (t.kids.drop 2)[j]=t.kid (2+j):=by
      unfold Tp.kid;simp [List.getD,show 2+j < t.kids.length by rw [t.kids_len]; omega]
     rw [hjk] at hs4 hc3 ⊢;have h7:=(hd _ hc3).2;exact⟨by omega,h7,hs.kid (by omega),clause_ex hx.1 (by omega) h7,clause_oT (clause_kind hx.1 hh (by omega) (by omega)) h7⟩)
    rw [bareH hh];have ho : oT t=oT (t.kid 0)+oT (t.kid 1)+((t.kids.drop 2).map oT).sum:=by
     have e3 : (t.kids.map oT).sum=oT (t.kid 0)+(oT (t.kid 1)+((t.kids.drop 2).map oT).sum):=by
      conv=>lhs; rw [hm.1]
      rw [List.map_cons,List.sum_cons,List.map_cons,List.sum_cons]
     have h0 : ownB t.n.kind=0:=by rcases hh with e | e <;> rw [e] <;> rfl
     rw [z44,hand_oK hh,h0,e3];omega
    rw [ho];exact GB.eq (GB.app hol (GB.free (by decide))) (by omega)
   exact⟨fun t least hF hs hx=>GB.brZ (key t hF hs hx),key⟩
end
end Go.Proofs.YtfbojelpdccjaaaGreatDoor
