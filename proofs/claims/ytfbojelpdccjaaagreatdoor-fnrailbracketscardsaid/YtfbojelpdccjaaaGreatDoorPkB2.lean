import Derived.Deep.OwnRows
import Derived.Test.YtfbojelpdccjaaaGreatDoorPkB1
import Derived.Test.YtfbojelpdccjaaaGreatDoorPkB0
import Derived.Laws.OwnMore
set_option maxHeartbeats 4000000
set_option maxRecDepth 100000
namespace Go.Proofs.YtfbojelpdccjaaaGreatDoor
open Go.RowKit Go.Deep
variable {B : Nat} {w : World}
section
open Go.RowKit Go.Deep
theorem Shape.iface {n : Nd} {us : List Value} {v : Value} (h : Shape B w n us v) : ∃ T p,v= .iface T p:=by
 cases h <;> exact⟨_,_,rfl⟩
theorem Forms.ifaces : ∀ {f : Fo} {vs : List Value},Forms B w f vs→ ∀ u∈vs,∃ T p,u= .iface T p
 | .none,_,h,u,hu=>by rw [show _= [] from h] at hu; cases hu
 | .tree _ _ _,_,⟨v,_,rest,e,_,h2,h3⟩,u,hu=>by
   rw [e] at hu;rcases List.mem_cons.1 hu with rfl | hu
   ·exact h2.iface
   ·exact Forms.ifaces h3 u hu
theorem Forms.app {g : Fo} {vs : List Value} (hg : Forms B w g vs) : ∀ {f : Fo} {us : List Value},Forms B w f us→Forms B w (f.app g) (us++vs)
 | .none,_,h=>by rw [show _= [] from h]; exact hg
 | .tree _ _ _,_,⟨v,us,rest,e,h1,h2,h3⟩=>⟨v,us,rest++vs,by rw [e]; rfl,h1,h2,Forms.app hg h3⟩
theorem Fo.app_snoc (n : Nd) (k r : Fo) : ∀ g : Fo,g.app (.tree n k r)=(g.app (.tree n k .none)).app r
 | .none=>rfl
 | .tree n' k' r'=> by simp only [Fo.app,app_snoc n k r r']
theorem Fo.app_none : ∀ g : Fo,g.app .none=g
 | .none=>rfl
 | .tree n' k' r'=> by simp only [Fo.app,app_none r']
theorem info_form : (Tryz.prog.info? 52).map (fun i=>(i.zero,i.size,i.bytes))=some (some .nilIface,1,16):=by kernel_rfl
theorem formAt_calls (b off cap : Nat) (ns : List Nd) (hm : ns.length≤300) (hfit : ∀ m∈ns,Fits m m.kids.toNat) : ∀ (N : Nat) (n : Nd) (k : Fo) (suf : List Nd) (p : Nat) (w : World),b < w.heap.size→NodesAt w b off ns→ns.drop p=n::(k.flat++suf)→n.kids=k.count→k.wf→k.flat.length < N→
 Calls Tryz.prog 44 #[.slice (some ⟨b,off,none⟩) ns.length cap,.int .i64 p] w fun e w'=> ∃ v us,e= .returned (.tuple #[v,.int .i64 ((p+1+k.flat.length : Nat) : Int)])∧Forms w.heap.size w' k us∧Shape w.heap.size w' n us v∧Below w.heap.size w w':= by
 intro N;induction N with
 | zero=>intro n k suf p w _ _ _ _ _ h; omega
 | succ N ih=>
   intro n k suf p w hbw hn hp hkc hk hN;obtain⟨hpl,hnd,hp1⟩:=at_drop hp;obtain⟨c0,c1,c2,c3,c4,c5⟩:=fsx (hn p hpl);rw [hnd] at c0 c1 c2 c3 c4 c5;simp only [Nd.cell,Nat.add_zero] at c0 c1 c2 c3 c4 c5;have hFit : Fits n k.count:=by
    have:=hfit n (by rw [← hnd,List.getD,List.getElem?_eq_getElem hpl]; exact List.getElem_mem _);rw [hkc] at this;simpa using this
   have hkl : k.flat.length≤ns.length:=by
    have : (ns.drop (p+1)).length=k.flat.length+suf.length:=by rw [hp1,List.length_append]
    rw [List.length_drop] at this;omega
   have hkk:=Fo.count_le k;rw [hkc] at c5;have HI : Hid (∀ (n : Nd) (k : Fo) (suf : List Nd) (p : Nat) (w : World),_):=ih;have HN : Hid (NodesAt w b off ns):=hn;have H1 : Hid (ns.drop (p+1)=k.flat++suf):=hp1;have Hk : Hid k.wf:=hk;obtain⟨len,hlen⟩ : ∃ len,ns.length=len:=⟨_,rfl⟩
   have Hlen : Hid (ns.length=len):=hlen;rw [hlen] at hm hpl hkl ⊢;obtain⟨kc,hkcc⟩ : ∃ kc,k.count=kc:=⟨_,rfl⟩
   have Hkc : Hid (k.count=kc):=hkcc;rw [hkcc] at c5 hkk hFit hkc;have HFit : Hid (Fits n kc):=hFit;have HP : Hid (len≤300∧p < len∧k.flat.length≤len∧kc≤k.flat.length∧k.flat.length < N+1):=⟨hm,hpl,hkl,hkk,hN⟩
   have hkb : kc≤6:=by rcases fits_cases hFit with h | h | h | h | h <;> omega
   clear ih hn hp hp1 hk hnd hlen hkcc hm hkl hkk hN hFit hfit;obtain⟨kd,num,a,bb,cc,kids⟩:=n;dsimp only at*;subst hkc;have hmk:=run_make_row' (P:=Tryz.prog) 100 52 .nilIface 16 Tryz.underlying100 info_form rfl .i64 .i64 kc (by omega) (by omega);go_enter Tryz.func44,Tryz.ntmps44
   go_wp2_with fail
   rw [z17 (by have:=HP.out; omega)];clear c0 c1 c2 c3 c4 c5 hmk;generalize hp1 : p+1=p1;have HP1 : Hid (p+1=p1):=hp1;clear hp1
   go_loopw [1,20] (fun q i wr=> ∃ (q' i' : Nat) (r g : Fo) (us : List Value) (f : Nat→Value),q= .int .i64 q'∧i= .int .i64 i'∧Hid (ns.drop q'= r.flat++suf∧r.wf∧i'+ r.count=kc∧r.flat.length < N+1∧q'+ r.flat.length=p1+k.flat.length∧k=g.app r∧Forms (w.heap.size+2) wr g us∧us.length=i'∧ ∀ j,j < i'→us[j]? =some (f j))∧wr.rowIs (w.heap.size+1) 52 kc f∧wr.heap[w.heap.size]? =some (.cells #[.int .i64 kd,.int .i64 num,.string a,.string bb,.string cc,.int .i64 kc] 60)∧Below w.heap.size w wr) (fun _ i _=>kc - (intOf i).toNat)
   case atStart=>
    refine⟨p1,0,k,.none,[],fun _=> .nilIface,rfl,rfl,⟨by rw [← HP1.out]; exact H1.out,Hk.out,by rw [Hkc.out]; omega,HP.out.2.2.2.2,rfl,rfl,rfl,rfl,fun j hj=>absurd hj (Nat.not_lt_zero _)⟩,?_,?_,?_⟩
    ·have:=World.rowIs_made (w.alloc (.cells #[.int .i64 kd,.int .i64 num,.string a,.string bb,.string cc,.int .i64 kc] 60)) .nilIface kc 52;simpa using this
    ·rw [Below.heap_alloc _ _ _ (by simp)];exact (MapKept.heap_alloc w _).1
    ·exact ((Below.refl _ _).alloc (Nat.le_refl _) _).alloc (by simp) _
   case round=>
    obtain⟨q',i',r,g,us,f,rfl,rfl,HR,hrow,eA,hnx⟩:=hrel;have hltA:=z13 eA
    cases r with
    | none=>
      obtain⟨_,_,h1,_,h5,h6,h7,h8,h9⟩:=HR.out;simp only [Fo.count,Fo.flat,List.length_nil,Nat.add_zero] at h1 h5;rw [Fo.app_none] at h6;subst h6 h1;obtain⟨a0,a1,a2,a3,a4,a5⟩:=fcl6 eA;have HH : Hid (Forms (w.heap.size+2) wr k us∧us.length=i'∧(∀ j,j < i'→us[j]? =some (f j))∧q'= p1+k.flat.length):=⟨h7,h8,h9,h5⟩
      clear HR h5 h7 h8 h9;go_wp2_with fail
      obtain⟨h7,h8,h9,h5⟩:=HH.out;have hS:=formOf_calls ⟨kd,num,a,bb,cc,(i' : Int)⟩ (w.heap.size+1) i' us (.slice (some ⟨w.heap.size+1,0,none⟩) i' i') wr (fun _=>by rw [h8]) (fun _=>hrow.lt)
       (fun j hj=>by rw [hrow.cell (by omega),h9 j (by omega)]) h7.ifaces (by rw [h8]; exact HFit.out) (by omega)
      have HS : Hid (Calls _ _ _ _ _):=hS;clear hS h5 h7 h8 h9;refine HS.out.mono ?_;rintro e w4 ⟨v,rfl,hv,hb4⟩;have hb5:=hnx.trans (hb4.mono hnx.size);have HV : Hid (Shape (w.heap.size+1) w4 ⟨kd,num,a,bb,cc,(i' : Int)⟩ us v∧Below wr.heap.size wr w4):=⟨hv,hb4⟩
      clear hv hb4 a0 a1 a2 a3 a4 a5 HS;go_wp2_with fail
      refine bodyPost_ret (results_tmp2 (fn:=Tryz.f44) rfl _ _ _) rfl ⟨v,us,?_,?_,?_,hb5⟩
      ·have e : p+1+k.flat.length=q':= by rw [HP1.out,HH.out.2.2.2]
       rw [e];rfl
      ·exact Forms.kept (by omega) HV.out.2.size (fun _ _ h=>HV.out.2.cell h) HH.out.1
      ·exact HV.out.1.kept (by omega) (Nat.le_refl _) (fun _ _ _=>rfl)
    | tree n' k' r'=>
      obtain⟨h0,hw,h1,h3,h5,h6,h7,h8,h9⟩:=HR.out;obtain⟨hw0,hw1,hw2⟩:=hw;simp only [Fo.count,Fo.flat,List.length_cons,List.length_append] at h1 h3 h5;simp only [Fo.flat,List.cons_append,List.append_assoc] at h0;obtain⟨hql,hqn,hq1⟩:=at_drop h0;have hnw : NodesAt wr b off ns:=HN.out.below hnx hbw;have hnew:=drop_past hq1;have hIH:=HI.out n' k' (r'.flat++suf) q' wr (by have:=hnx.size; omega) hnw h0 hw0 hw1 (by omega);rw [Hlen.out] at hIH;have HC : Hid (Calls _ _ _ _ _):=hIH;have hi : (i' : Int) < (kc : Int):=by omega
      have HX : Hid (ns.drop (q'+ 1+k'.flat.length)=r'.flat++suf∧r'.wf∧i'+ 1+r'.count=kc∧r'.flat.length < N+1∧q'+ 1+k'.flat.length+r'.flat.length=p1+k.flat.length∧k=(g.app (.tree n' k' .none)).app r'∧Forms (w.heap.size+2) wr g us∧us.length=i'∧ ∀ j,j < i'→us[j]? =some (f j)):=
       ⟨hnew,hw2,by omega,by omega,by omega,by rw [h6]; exact Fo.app_snoc _ _ _ _,h7,h8,h9⟩
      clear HR h0 hw0 hw1 hw2 hql hqn hq1 hnw hnew hIH h1 h3 h5 h6 h7 h8 h9;generalize q'+ 1+k'.flat.length=ee at*;go_wp2_with fail
      refine HC.out.mono ?_;rintro e w3 ⟨v,us',rfl,hF3,hS3,hb3⟩;obtain⟨T,pv,rfl⟩:=hS3.iface;have hrow3 : w3.rowIs (w.heap.size+1) 52 kc f:=hrow.of_block (hb3.block _ hrow.lt);have hc3:=hrow3.cell (i:=i') (by omega);have hz3:=hrow3.frozen i';have eA3:=(hb3.block w.heap.size hltA).trans eA;have hnx3:=hnx.trans (hb3.mono hnx.size);have HF3 : Hid (Forms wr.heap.size w3 k' us'∧Shape wr.heap.size w3 n' us' (.iface T pv)):=⟨hF3,hS3⟩
      have HB3 : Hid (Below wr.heap.size wr w3):=hb3;clear hF3 hS3 hb3;go_wp2_with fail
      obtain⟨x1,x2,x3,x4,x5,x6,x7,x8,x9⟩:=HX.out;have hbig : w.heap.size+2≤wr.heap.size:=hrow.lt;have hsz : w3.heap.size≤(w3.setCell ⟨w.heap.size+1,i',none⟩ (.iface T pv)).heap.size:=((Below.refl 0 w3).setCell (Nat.zero_le _) _).size;have hcell : ∀ ad : Addr,ad.block≠w.heap.size+1→(w3.setCell ⟨w.heap.size+1,i',none⟩ (.iface T pv)).cell? ad=w3.cell? ad:=fun ad h=>World.cell?_of_block (w:=w3) (Below.heap_setCell w3 _ _ ad.block h)
      have y1 : Forms (w.heap.size+2) (w3.setCell ⟨w.heap.size+1,i',none⟩ (.iface T pv)) g us:=Forms.kept (Nat.le_refl _) (Nat.le_trans HB3.out.size hsz) (fun ad h1 h2=>by rw [hcell ad (by omega)]; exact HB3.out.cell h2) x7;have y2 : Forms (w.heap.size+2) (w3.setCell ⟨w.heap.size+1,i',none⟩ (.iface T pv)) k' us':= Forms.kept hbig hsz (fun ad h1 h2=>hcell ad (by omega)) HF3.out.1;have y3 : Shape (w.heap.size+2) (w3.setCell ⟨w.heap.size+1,i',none⟩ (.iface T pv)) n' us' (.iface T pv):=Shape.kept HF3.out.2 hbig hsz (fun ad h1 h2=>hcell ad (by omega))
      refine⟨⟨ee,i'+ 1,r',g.app (.tree n' k' .none),us++ [.iface T pv],_,rfl,rfl,⟨x1,x2,x3,x4,x5,x6,Forms.app (g:= .tree n' k' .none) ⟨_,us',[],rfl,y2,y3,rfl⟩ y1,by rw [List.length_append,x8]; rfl,?_⟩,hrow3.set i' _,?_,hnx3.setCell (by simp) _⟩,z45 hi⟩
      ·intro j hj;by_cases hji : j=i'
       ·rw [if_pos hji,hji,List.getElem?_append_right (by omega),x8,Nat.sub_self];rfl
       ·rw [if_neg hji,List.getElem?_append_left (by omega)];exact x9 j (by omega)
      ·rw [Below.heap_setCell _ _ _ _ (by simp)];exact eA3
end
section
open Go.RowKit
def role (pk : Int) (i : Nat) : Nat:=if pk=23∨pk=24 then (if 2 < i then 2 else i) else 0
def ok26 (n : Nd) : Bool:=!(n.kind==26 && n.b.toList==n.c.toList)
def headOk (n : Nd) (c : Nat) : Bool:=((n.kind==25)==(c==1)) && ((n.kind==26)==(c==2)) && ok26 n
def isIn (ops : List ByteArray) (s : ByteArray) : Bool:=ops.any (fun x=>x.toList==s.toList)
def specKids : Fo→Int→Nat→List ByteArray→Bool
 | .none,_,_,_=>true
 | .tree n k r,pk,i,ops=>headOk n (role pk i) && (specKids k n.kind 0 [] && (if role pk i=2 then !isIn ops n.a && specKids r pk (i+1) (ops++ [n.a]) else specKids r pk (i+1) ops))
def clauseZ (k : Int) : Int:=if k=25∨k=26 then k else 0
def wantedZ (pk : Int) (i : Nat) : Int:=if ¬ (pk=23∨pk=24)∨i=0 then 0 else if i=1 then 25 else 26
def implKids : Fo→Int→Nat→List ByteArray→Bool
 | .none,_,_,_=>true
 | .tree n _ r,pk,i,ops=>(clauseZ n.kind==wantedZ pk i) && (!isIn ops n.a && implKids r pk (i+1) (if n.kind=26 then ops++ [n.a] else ops))
def implAll : Fo→Bool
 | .none=>true
 | .tree n k r=>implKids k n.kind 0 [] && (implAll k && implAll r)
theorem role_le (pk : Int) (i : Nat) : role pk i≤2:=by
 unfold role;split <;> (try split) <;> omega
theorem role_next {pk : Int} {i : Nat} (h : role pk i=2) : role pk (i+1)=2:=by
 unfold role at*;split at h
 ·rename_i hp;rw [if_pos hp];split at h <;> split <;> omega
 ·omega
theorem wanted_role (pk : Int) (i : Nat) : wantedZ pk i=if role pk i=1 then 25 else if role pk i=2 then 26 else 0:=by
 unfold wantedZ role;by_cases hp : pk=23∨pk=24
 ·simp only [hp,not_true_eq_false,false_or,if_true];by_cases h0 : i=0
  ·simp [h0]
  ·by_cases h1 : i=1
   ·simp [h1]
   ·have h2 : (if 2 < i then 2 else i)=2:=by split <;> omega
    simp [h0,h1,h2]
 ·simp [hp]
theorem head_eq (n : Nd) (pk : Int) (i : Nat) (h : ok26 n=true) : headOk n (role pk i)=(clauseZ n.kind==wantedZ pk i):=by
 have hr:=role_le pk i;rw [wanted_role,headOk,h,Bool.and_true];unfold clauseZ;generalize role pk i=c at*;have hc : c=0∨c=1∨c=2:=by omega
 by_cases h5 : n.kind=25
 ·rw [h5];rcases hc with rfl | rfl | rfl <;> rfl
 ·by_cases h6 : n.kind=26
  ·rw [h6];rcases hc with rfl | rfl | rfl <;> rfl
  ·have e5 : (n.kind==25)=false:=by rw [beq_eq_false_iff_ne]; exact h5
   have e6 : (n.kind==26)=false:=by rw [beq_eq_false_iff_ne]; exact h6
   rw [e5,e6,if_neg (by omega)];rcases hc with rfl | rfl | rfl <;> rfl
theorem head_op {n : Nd} {c : Nat} (h : headOk n c=true) : n.kind=26↔c=2:=by
 simp only [headOk,Bool.and_eq_true,beq_iff_eq] at h;have:=h.1.2;constructor
 ·intro hk;rw [hk] at this;simpa using this
 ·intro hc;rw [hc] at this;simpa using this
theorem clauses_eq : ∀ (f : Fo) (pk : Int) (i : Nat) (ops : List ByteArray),f.flat.all ok26=true→(ops= []∨role pk i=2)→specKids f pk i ops=(implKids f pk i ops && implAll f)
 | .none,_,_,_,_,_=>rfl
 | .tree n k r,pk,i,ops,ha,ho=>by
   simp only [Fo.flat,List.all_cons,List.all_append,Bool.and_eq_true] at ha;obtain⟨hn,hk,hr⟩:=ha;simp only [specKids,implKids,implAll];rw [clauses_eq k n.kind 0 [] hk (Or.inl rfl),← head_eq n pk i hn]
   cases hh : headOk n (role pk i) with
   | false=>simp
   | true=>
     have hop:=head_op hh;by_cases hc : role pk i=2
     ·rw [if_pos hc,if_pos (hop.2 hc),clauses_eq r pk (i+1) _ hr (Or.inr (role_next hc))]
      cases isIn ops n.a <;> cases implKids k n.kind 0 [] <;> cases implAll k <;> cases implAll r <;> cases implKids r pk (i+1) (ops++ [n.a]) <;> rfl
     ·have he : ops= []:=ho.resolve_right hc;subst he;rw [if_neg hc,if_neg (fun x=>hc (hop.1 x)),clauses_eq r pk (i+1) _ hr (Or.inl rfl)];have : isIn [] n.a=false:=rfl;rw [this]
      cases implKids k n.kind 0 [] <;> cases implAll k <;> cases implAll r <;> cases implKids r pk (i+1) [] <;> rfl
theorem spec_unlike : ∀ (f : Fo) (pk : Int) (i : Nat) (ops : List ByteArray),specKids f pk i ops=true→f.flat.all ok26=true
 | .none,_,_,_,_=>rfl
 | .tree n k r,pk,i,ops,h=>by
   simp only [specKids,Bool.and_eq_true] at h;obtain⟨h1,h2,h3⟩:=h;have e1 : ok26 n=true:=by
    simp only [headOk,Bool.and_eq_true] at h1;exact h1.2
   have e2:=spec_unlike k _ _ _ h2;have e3 : r.flat.all ok26=true:=by
    split at h3
    ·simp only [Bool.and_eq_true] at h3;exact spec_unlike r _ _ _ h3.2
    ·exact spec_unlike r _ _ _ h3
   simp only [Fo.flat,List.all_cons,List.all_append,e1,e2,e3,Bool.and_self]
def specTree (n : Nd) (k : Fo) (c : Nat) : Bool:=headOk n c && specKids k n.kind 0 []
def implTree (n : Nd) (k : Fo) : Bool:=(clauseZ n.kind==0) && (implKids k n.kind 0 [] && implAll k)
theorem trees_eq (n : Nd) (k : Fo) : specTree n k 0=(implTree n k && (n::k.flat).all ok26):=by
 unfold specTree implTree;rw [List.all_cons]
 cases hn : ok26 n with
 | false=>simp [headOk,hn]
 | true=>
   have e : headOk n 0=(clauseZ n.kind==0):=head_eq n 0 0 hn;rw [e]
   cases hk : k.flat.all ok26 with
   | true=>
     rw [clauses_eq k n.kind 0 [] hk (Or.inl rfl)];simp
   | false=>
     have : specKids k n.kind 0 []=false:=by
      cases hs : specKids k n.kind 0 [] with
      | false=>rfl
      | true=>rw [spec_unlike k _ _ _ hs] at hk; cases hk
     rw [this];simp
def strs (ops : List ByteArray) : List Value:=ops.map Value.string
theorem isIn_calls (B : Nat) (v : Value) (ops : List ByteArray) (s : ByteArray) (w : World) (hl : ops.length≤1000000) (hown : w.ownsRow B 9 1 v ops.length (strs ops)) :
 Calls Tryz.prog 88 #[v,.string s] w fun e w'=> e= .returned (.bool (isIn ops s))∧w=w':= by
 cases ops with
 | nil=>
   obtain⟨a,c,rfl⟩ : ∃ a c,v= .slice a 0 c:=by
    rcases hown.2 with ⟨h,_⟩ | ⟨g,c,cur,h,_⟩
    ·exact⟨none,0,h⟩
    ·exact⟨_,_,h⟩
   clear hown;go_enter Tryz.func88,Tryz.ntmps88
   go_wp2_with fail
   go_loop [5] (fun i=>i= .int .i64 0) (fun _=>0)
   case atStart=>rfl
   case round=>
    subst hrel;go_wp2_with fail
    go_ret;exact⟨rfl,rfl⟩
 | cons x r=>
   obtain⟨g,c,rfl⟩ : ∃ g c,v= .slice (some ⟨g,0,none⟩) (x::r).length c:=by
    rcases hown.2 with ⟨_,h⟩ | ⟨g,c,cur,h,_⟩
    ·simp at h
    ·exact⟨_,_,h⟩
   refine (in_calls g 0 (x::r).length c (x::r) s w (Nat.le_refl _) hl (fun j hj=>?_)).mono ?_
   ·rw [Nat.zero_add,hown.cellAt j (by omega)];rw [strs,List.getElem?_map,List.getElem?_eq_getElem hj,List.getD,List.getElem?_eq_getElem hj];rfl
   ·rintro e w' ⟨rfl,rfl⟩;exact⟨by rw [List.take_length]; rfl,rfl⟩
theorem clauses_bad (b off len cap : Nat) (n : Nd) (k : Fo) (p c : Nat) (w : World) (hpl : p < len)
 (c0 : w.cell? ⟨b,off+p*6,none⟩=some (.int .i64 n.kind)) (c1 : w.cell? ⟨b,off+p*6+1,none⟩=some (.int .i64 n.num)) (c2 : w.cell? ⟨b,off+p*6+2,none⟩=some (.string n.a))
 (c3 : w.cell? ⟨b,off+p*6+3,none⟩=some (.string n.b)) (c4 : w.cell? ⟨b,off+p*6+4,none⟩=some (.string n.c)) (c5 : w.cell? ⟨b,off+p*6+5,none⟩=some (.int .i64 n.kids)) (hc : c≤2) (hh : headOk n c=false) :
 Calls Tryz.prog 49 #[.slice (some ⟨b,off,none⟩) len cap,.int .i64 p,.int .i64 c] w fun e w'=> e= .returned (.bool (specTree n k c))∧Below w.heap.size w w':= by
 have HO : Hid (specTree n k c=false):=by show _=_; rw [specTree,hh]; rfl
 obtain⟨kd,num,a,bb,cc,kids⟩:=n;dsimp only at*;have hc3 : c=0∨c=1∨c=2:=by omega
 by_cases h5 : kd=25
 ·subst h5;rcases hc3 with rfl | rfl | rfl
  all_goals first
   | (exfalso; simp [headOk,ok26] at hh; done)
   | (clear hh hc
      go_enter Tryz.func49,Tryz.ntmps49
      go_wp2_with fail
      go_ret;exact⟨by rw [HO.out]; rfl,(Below.refl _ _).alloc (Nat.le_refl _) _⟩)
 ·by_cases h6 : kd=26
  ·subst h6;clear h5;rcases hc3 with rfl | rfl | rfl
   ·clear hh hc;go_enter Tryz.func49,Tryz.ntmps49
    go_wp2_with fail
    go_ret;exact⟨by rw [HO.out]; rfl,(Below.refl _ _).alloc (Nat.le_refl _) _⟩
   ·clear hh hc;go_enter Tryz.func49,Tryz.ntmps49
    go_wp2_with fail
    go_ret;exact⟨by rw [HO.out]; rfl,(Below.refl _ _).alloc (Nat.le_refl _) _⟩
   ·have h4 : (bb.toList==cc.toList)=true:=by
     simp [headOk,ok26] at hh;simpa using hh
    clear hh hc;go_enter Tryz.func49,Tryz.ntmps49
    go_wp2_with fail
    go_ret;exact⟨by rw [HO.out]; rfl,(Below.refl _ _).alloc (Nat.le_refl _) _⟩
  ·have k5 : (kd==25)=false:=by rw [beq_eq_false_iff_ne]; exact h5
   have k6 : (kd==26)=false:=by rw [beq_eq_false_iff_ne]; exact h6
   rcases hc3 with rfl | rfl | rfl
   ·exfalso;simp [headOk,ok26,k5,k6] at hh
   all_goals
    clear hh hc h5 h6;go_enter Tryz.func49,Tryz.ntmps49
    go_wp2_with fail
    go_ret;exact⟨by rw [HO.out]; rfl,(Below.refl _ _).alloc (Nat.le_refl _) _⟩
end
end Go.Proofs.YtfbojelpdccjaaaGreatDoor
