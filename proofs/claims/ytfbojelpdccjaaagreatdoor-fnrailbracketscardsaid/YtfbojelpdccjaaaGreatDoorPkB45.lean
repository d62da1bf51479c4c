import Derived.Test.YtfbojelpdccjaaaGreatDoorPkB1
import Derived.Test.YtfbojelpdccjaaaGreatDoorPkB5
import Derived.Deep.RegionWith
import Derived.BigQuiet
import Derived.Test.YtfbojelpdccjaaaGreatDoorPkB6
import Derived.Deep.CutRange
import Derived.Test.YtfbojelpdccjaaaGreatDoorPkB8
import Derived.Test.YtfbojelpdccjaaaGreatDoorPkB33
import Derived.Test.YtfbojelpdccjaaaGreatDoorPkB44
import Derived.Test.YtfbojelpdccjaaaGreatDoorPkB34
import Derived.Deep.CutBlock
set_option maxHeartbeats 4000000
set_option maxRecDepth 100000
namespace Go.Proofs.YtfbojelpdccjaaaGreatDoor
open Go.RowKit Go.Deep Go.ChangeShapes Go.WideShapes
variable {es : List Ef} {ns : List Nd} {S : List UInt8} {B k : Nat} {n : Nd} {v : Value} {w : World}
section
open Go.RowKit Go.Deep Go.ChangeShapes Go.WideShapes
def EffSlice (w : World) (v : Value) (ns : List Ef) : Prop:=
 ∃ a cap,v= .slice a ns.length cap∧(ns= []∨ ∃ b off,a=some ⟨b,off,none⟩∧b < w.heap.size∧EffsAt w b off ns)
theorem EffSlice.below {w' : World} {ns : List Ef} (h : EffSlice w v ns) (hb : Below w.heap.size w w') : EffSlice w' v ns:=by
 obtain⟨a,cap,rfl,h⟩:=h;refine⟨a,cap,rfl,h.imp id ?_⟩;rintro⟨b,off,rfl,hlt,hn⟩;exact⟨b,off,rfl,Nat.lt_of_lt_of_le hlt hb.size,hn.below hb hlt⟩
section
variable {H : Type} {enc : TypeId×Value→H} {W : World} {sp : Nat→Bool} {held : Bool}
end
end
section
open Go.RowKit
def ndF (ns : List Nd) (i : Nat) : Value:=(ns.getD (i / 6) default).cell (i % 6)
theorem ndF_at (ns : List Nd) (j c : Nat) (hc : c < 6) : ndF ns (j*6+c)=(ns.getD j default).cell c:=by
 unfold ndF;rw [show (j*6+c) / 6=j by omega,show (j*6+c) % 6=c by omega]
theorem CellRow.nodes {g : Nat} (h : CellRow 60 w g (ns.length*6) (ndF ns)) : NodesAt w g 0 ns:=by
 intro j hj c hc;rw [Nat.zero_add,h.cell (by omega),ndF_at ns j c hc]
def efF (es : List Ef) (i : Nat) : Value:=(es.getD (i / 3) default).cell (i % 3)
theorem efF_at (es : List Ef) (j c : Nat) (hc : c < 3) : efF es (j*3+c)=(es.getD j default).cell c:=by
 unfold efF;rw [show (j*3+c) / 3=j by omega,show (j*3+c) % 3=c by omega]
theorem CellRow.effs {g : Nat} (h : CellRow 45 w g (es.length*3) (efF es)) : EffsAt w g 0 es:=by
 intro j hj c hc;rw [Nat.zero_add,h.cell (by omega),efF_at es j c hc]
end
section
open Go.RowKit Go.Deep
def esR (r : Except (Int×Nat) (List Ef×Tr)) : List Ef:=match r with | .error _=> [] | .ok x=>x.1
def nsR (r : Except (Int×Nat) (List Ef×Tr)) : List Nd:=match r with | .error _=> [] | .ok x=>Tr.flat x.2
def kR (r : Except (Int×Nat) (List Ef×Tr)) : Int:=match r with | .error x=>x.1 | .ok _=>0
def aR (r : Except (Int×Nat) (List Ef×Tr)) : Int:=match r with | .error x=>(x.2 : Int) | .ok _=>0
theorem readZ_few (t : ByteArray) (T : List Nd→Bool) : (esR (readZ t T)).length≤8∧(nsR (readZ t T)).length≤300:=by
 unfold readZ;split
 ·exact⟨Nat.zero_le _,Nat.zero_le _⟩
 ·split
  ·exact⟨Nat.zero_le _,Nat.zero_le _⟩
  ·split
   ·exact⟨Nat.zero_le _,Nat.zero_le _⟩
   ·split
    ·exact⟨Nat.zero_le _,Nat.zero_le _⟩
    ·rename_i h;split
     ·exact⟨Nat.zero_le _,Nat.zero_le _⟩
     ·split
      ·exact⟨by simp only [esR]; omega,by simp only [nsR]; omega⟩
      ·exact⟨Nat.zero_le _,Nat.zero_le _⟩
theorem owns_sliceR {α : Type} [Inhabited α] {f : α→Nat→Value} {sz : Nat} (hz : 0 < sz) {W : World} {t : TypeId} {l : List α} (h : W.ownsRow B t sz v l.length (rowZ f sz l)) : SliceR t sz B W v l.length (fun i=>f (l.getD (i / sz) default) (i % sz)):=by
 obtain⟨ad,cap,e,h⟩:=sliceR_of_owns h;refine⟨ad,cap,e,h.imp id ?_⟩;rintro⟨g,e1,hB,hr⟩;refine⟨g,e1,hB,hr.congr (fun i hi=>?_)⟩;show (rowZ f sz l).getD i undef=_;rw [List.getD_eq_getElem?_getD,z65 f sz hz l i hi];rfl
theorem SliceR.effS (h : SliceR 45 3 B w v es.length (efF es)) : EffSlice w v es:=by
 obtain⟨ad,cap,rfl,h⟩:=h;refine⟨ad,cap,rfl,h.imp List.eq_nil_of_length_eq_zero ?_⟩;rintro⟨g,rfl,-,hr⟩;exact⟨g,0,rfl,hr.lt,hr.effs⟩
theorem SliceR.nodeS (h : SliceR 60 6 B w v ns.length (ndF ns)) : NodeSlice w v ns:=by
 obtain⟨ad,cap,rfl,h⟩:=h;refine⟨ad,cap,rfl,h.imp List.eq_nil_of_length_eq_zero ?_⟩;rintro⟨g,rfl,-,hr⟩;exact⟨g,0,rfl,hr.lt,hr.nodes⟩
structure RightP (es : List Ef) (n : Nd) (k : Fo) (S : List UInt8) : Prop where
 effs : ∀ e∈es,EfOk e
 own : ∀ m∈n::k.flat,ownOk m=true
 size : k.flat.length+1≤300
 stands : Stands (n::k.flat) ⟨n,k,0⟩
 ex : Ex ⟨n,k,0⟩
 few : es.length≤8
 deep : k.deep+1≤40
 kids : n.kids=k.count
 wf : k.wf
 ans : SpecAns (n::k.flat) true
 ok : progZ es (n::k.flat) true=true
 text : S=es.flatMap effTz++showZ 400 ⟨n,k,0⟩ 0
theorem right_prog {k : Fo} (hk : n.kids=k.count) (hw : k.wf) (hA : SpecAns (n::k.flat) true) (hP : progZ es (n::k.flat) true=true) : RightP es n k (progT es n k):=by
 obtain⟨n',k',f1,f2,f3,hl,hst,hex,-⟩:=right_of hA;obtain⟨rfl,rfl⟩:=tree_inj f1 f2 f3 rfl hk hw;have hd : k.deep+1≤40∧(n::k.flat).all ownOk=true:=by
  rcases hA with ⟨-,h⟩ | ⟨-,-,-,h⟩ | ⟨-,-,n',k',e1,e2,e3,h⟩
  ·cases h
  ·cases h
  ·obtain⟨rfl,rfl⟩:=tree_inj e1 e2 e3 rfl hk hw;have h':= h.symm;simp only [Bool.and_eq_true,decide_eq_true_eq] at h';exact⟨h'.2.1,h'.1⟩
 have hP':= hP;unfold progZ at hP';simp only [Bool.and_eq_true,decide_eq_true_eq] at hP';refine⟨fun e he=>?_,fun m hm=>List.all_eq_true.1 hd.2 m hm,by simpa using hl,hst,hex,hP'.1,hd.1,hk,hw,hA,hP,rfl⟩;obtain⟨i,hi,e1⟩:=List.mem_iff_getElem.1 he;have h2:=List.all_eq_true.1 hP'.2.2.1 i (List.mem_range.2 hi);unfold effOk at h2;rw [show es.getD i default=e by simp [List.getD,hi,e1]] at h2;simp only [Bool.and_eq_true,decide_eq_true_eq] at h2;exact⟨h2.1,h2.2.2.1,h2.2.2.2⟩
theorem TextIs.right (h : TextIs es ns S) : (S= []∧ ∀ T,SpecAns ns T→progZ es ns T=false)∨ ∃ n k,ns=n::k.flat∧RightP es n k S:=by
 rcases h with h | ⟨n,k,h1,h2,h3,h4,-,h5,rfl⟩
 ·exact Or.inl h
 ·subst h1;exact Or.inr ⟨n,k,rfl,right_prog h2 h3 h4 h5⟩
theorem RightP.mate {k : Fo} (h : RightP es n k S) {i : Nat} (hi : i < S.length) (hc : S.getD i 0=40) : ∃ P A B,S=P++40::(A++41::B)∧P.length=i∧1+dpB A=1∧ ∀ m,1≤1+dpB (A.take m):=by
 have hG:=text_G (F:=400) h.effs h.own (by have:=h.size; omega) h.stands h.ex;rw [← h.text] at hG;have hl : S=S.take i++40::S.drop (i+1):=by
  have e1 : S.drop i=40::S.drop (i+1):=by
   rw [List.drop_eq_getElem_cons hi];congr 1
   simpa [List.getD,hi] using hc
  rw [← e1,List.take_append_drop]
 obtain⟨A,B,h1,h2,h3⟩:=hG.mate hl;exact⟨S.take i,A,B,by rw [← h1]; exact hl,by rw [List.length_take]; omega,h2,h3⟩
theorem RightP.needless {k : Fo} {P A B : List UInt8} (h : RightP es n k S) (hl : S=P++40::(A++41::B)) {s' : ByteArray} (T : List Nd→Bool) (hs' : s'.data.toList=P++32::(A++32::B)) : nsR (readZ s' T)≠n::k.flat:=by
 cases hr : readZ s' T with
 | error x=>exact fun e=>by cases e
 | ok x=>exact text_needless (F:=400) h.effs h.own (by have:=h.size; omega) h.stands h.ex (by rw [← h.text]; exact hl) hs' h.kids h.wf hr
theorem nodeS_cell {ad : Option Addr} {L cap : Nat} (h : NodeSlice w (.slice ad L cap) ns) (hk : k < ns.length) : ∃ b off,ad=some ⟨b,off,none⟩∧b < w.heap.size∧ ∀ c,c < 6→w.cell? ⟨b,off+k*6+c,none⟩=some ((ns.getD k default).cell c):=by
 obtain⟨a,c,e,h⟩:=h
 cases e;rcases h with rfl | ⟨b,off,e,hb,hn⟩
 ·simp at hk
 ·exact⟨b,off,e,hb,fun c hc=>hn k hk c hc⟩
theorem effS_cell {ad : Option Addr} {L cap : Nat} (h : EffSlice w (.slice ad L cap) es) (hk : k < es.length) : ∃ b off,ad=some ⟨b,off,none⟩∧b < w.heap.size∧ ∀ c,c < 3→w.cell? ⟨b,off+k*3+c,none⟩=some ((es.getD k default).cell c):=by
 obtain⟨a,c,e,h⟩:=h
 cases e;rcases h with rfl | ⟨b,off,e,hb,hn⟩
 ·simp at hk
 ·exact⟨b,off,e,hb,fun c hc=>hn k hk c hc⟩
theorem nodeS_len (h : NodeSlice w v ns) : ∃ ad cap,v= .slice ad ns.length cap:=by
 obtain⟨a,c,e,-⟩:=h;exact⟨a,c,e⟩
theorem effS_len (h : EffSlice w v es) : ∃ ad cap,v= .slice ad es.length cap:=by
 obtain⟨a,c,e,-⟩:=h;exact⟨a,c,e⟩
theorem same_next {α : Type} [Inhabited α] {l m : List α} (h : l.length=m.length) (hk : k < l.length) (ht : l.take k=m.take k) (he : l.getD k default=m.getD k default) : l.take (k+1)=m.take (k+1):=by
 rw [List.take_add_one,List.take_add_one,ht];congr 1
 rw [List.getD_eq_getElem?_getD,List.getD_eq_getElem?_getD,List.getElem?_eq_getElem hk,List.getElem?_eq_getElem (by omega),Option.getD_some,Option.getD_some] at he;rw [List.getElem?_eq_getElem hk,List.getElem?_eq_getElem (by omega),he]
theorem not_same {α : Type} [Inhabited α] {l m : List α} {k : Nat} (he : l.getD k default≠m.getD k default) : l≠m:=fun e=>he (by rw [e])
theorem bytes_inj {a b : ByteArray} (h : a.toList=b.toList) : a=b:=by
 rw [ByteArray.toList_eq,ByteArray.toList_eq] at h;exact ByteArray.ext (Array.toList_inj.1 h)
theorem nd_ext {m : Nd} (h1 : n.kind=m.kind) (h2 : n.num=m.num) (h3 : n.a.toList=m.a.toList) (h4 : n.b.toList=m.b.toList) (h5 : n.c.toList=m.c.toList) (h6 : n.kids=m.kids) : n=m:=by
 obtain⟨_,_,_,_,_,_⟩:=n;obtain⟨_,_,_,_,_,_⟩:=m;simp only [Nd.mk.injEq];exact⟨h1,h2,bytes_inj h3,bytes_inj h4,bytes_inj h5,h6⟩
theorem ef_ext {n m : Ef} (h1 : n.name.toList=m.name.toList) (h2 : n.arg=m.arg) (h3 : n.res=m.res) : n=m:=by
 obtain⟨_,_,_⟩:=n;obtain⟨_,_,_⟩:=m;simp only [Ef.mk.injEq];exact⟨bytes_inj h1,h2,h3⟩
theorem all_same {α : Type} {l m : List α} (h : l.length=m.length) (hk : ¬ k < l.length) (ht : l.take k=m.take k) : l=m:=by
 rwa [List.take_of_length_le (by omega),List.take_of_length_le (by omega)] at ht
def TellsP (w : World) (P : Prop) (e : Ending) (w' : World) : Prop:=(∃ b : Bool,e= .returned (.bool b)∧(b=true↔P))∧Below w.heap.size w w'
theorem hrTree_calls {u : Value} {ms : List Nd} (w : World) (hv : NodeSlice w v ns) (hu : NodeSlice w u ms) (h1 : ns.length≤100000) :
 Calls Tryz.prog 30 #[v,u] w (TellsP w (ns=ms)):=by
 obtain⟨av,cv,rfl⟩:=nodeS_len hv;obtain⟨au,cu,rfl⟩:=nodeS_len hu;have HC:=hid (And.intro hv hu);obtain⟨L,hL⟩ : ∃ n,ns.length=n:=⟨_,rfl⟩
 obtain⟨M,hM⟩ : ∃ n,ms.length=n:=⟨_,rfl⟩
 have HL:=hid (And.intro hL (And.intro hM (show L≤100000 by omega)));rw [hL,hM] at HC ⊢;clear hv hu h1 hL hM;by_cases hne : L≠M
 ·have hx : ((L : Int) !=(M : Int))=true:=by rw [bne_iff_ne]; omega
  have hno:=hid (show ns≠ms from fun e=>hne (by rw [← HL.out.1,← HL.out.2.1,e]));clear hne;go_enter Tryz.func30,Tryz.ntmps30
  go_wp2_with fail
  go_ret;exact⟨⟨false,rfl,fun h=>(by cases h),fun h=>absurd h hno.out⟩,Below.refl _ _⟩
 have hne : L=M:=Decidable.not_not.1 hne;subst hne;have HE:=hid (show ns.length=ms.length by rw [HL.out.1,HL.out.2.1]);go_enter Tryz.func30,Tryz.ntmps30
 go_wp2_with fail
 go_loopw [5] (fun i wr=> ∃ k : Nat,i= .int .i64 (k : Int)∧k≤L∧Hid (ns.take k=ms.take k)∧Hid (Below w.heap.size w wr)) (fun i _=>L - (intOf i).toNat)
 case atStart=>exact⟨0,rfl,Nat.zero_le _,rfl,Below.refl _ _⟩
 case round=>
  obtain⟨k,rfl,hk,HT,HB⟩:=hrel;by_cases hlt : (k : Int) < (L : Int)
  ·have hkl : k < L:=by omega
   have hk0 : (0 : Int)≤(k : Int):=by omega
   have hstep : Hid (L - (intOf (.int .i64 ((k+1 : Nat) : Int))).toNat < L - (intOf (.int .i64 (k : Int))).toNat):=by show _ < _; simp only [intOf,Int.toNat_natCast]; omega
   have HK9 : Hid (k≤100000):=by show _≤_; have:=HL.out.2.2; omega
   obtain⟨ba,oa,rfl,hba,ca⟩:=nodeS_cell HC.out.1 (k:=k) (by rw [HL.out.1]; exact hkl);obtain⟨bu,ou,rfl,hbu,cc⟩:=nodeS_cell HC.out.2 (k:=k) (by rw [HL.out.2.1]; exact hkl);have hnx:=same_next (k:=k) HE.out (by rw [HL.out.1]; exact hkl) HT.out;have hns:= @not_same Nd _ ns ms k;obtain⟨n,hn⟩ : ∃ n,ns.getD k default=n:=⟨_,rfl⟩
   obtain⟨m,hm⟩ : ∃ n,ms.getD k default=n:=⟨_,rfl⟩
   rw [hn] at ca hnx hns;rw [hm] at cc hnx hns;have HNx:=hid hnx;have HNs:=hid hns;have HS:=hid (fun (X : World) (hX : Below w.heap.size w X)=>And.intro (fun c (hc : c < 6)=>(hX.cell (p:=⟨ba,oa+k*6+c,none⟩) hba).trans (ca c hc)) (fun c (hc : c < 6)=>(hX.cell (p:=⟨bu,ou+k*6+c,none⟩) hbu).trans (cc c hc)));clear ca cc hba hbu hn hm hnx hns hkl;go_upto_region 6 with fail
   have HBd:=hid HB.out.drew;have hS : (fun X : World=>Below w.heap.size w X) wr.drew:=HBd.out;refine z27 (S:=fun X : World=>Below w.heap.size w X) (by kernel_rfl) rfl rfl ?_;generalize wr.drew=wd at*;refine pick_o 0 (.slice (some ⟨ba,oa,none⟩) L cv) hS ?_;refine pick_o 1 (.int .i64 (k : Int)) hS ?_;refine pick_o (hy:=fun w' _=>by simp [go_sem,hk0,hlt]) 2 (.pointer (some ⟨ba,oa+k*6,none⟩)) hS ?_
   refine z10 (i:=3) (v:= .agg #[.int .i64 n.kind,.int .i64 n.num,.string n.a,.string n.b,.string n.c,.int .i64 n.kids]) (by kernel_rfl) rfl (by kernel_rfl) (by kernel_rfl) rfl rfl (fun w' hw'=> by have q:=(HS.out w' hw').1; have q0:=q 0 (by decide); have q1:=q 1 (by decide); have q2:=q 2 (by decide); have q3:=q 3 (by decide); have q4:=q 4 (by decide); have q5:=q 5 (by decide); simp only [Nd.cell,Nat.add_zero] at q0 q1 q2 q3 q4 q5; simp [go_sem,q0,q1,q2,q3,q4,q5]) hS (by simp [go_sem]; exact rfl) ?_;refine pick_o 4 (.slice (some ⟨bu,ou,none⟩) L cu) hS ?_
   refine pick_o 5 (.int .i64 (k : Int)) hS ?_;refine pick_o (hy:=fun w' _=>by simp [go_sem,hk0,hlt]) 6 (.pointer (some ⟨bu,ou+k*6,none⟩)) hS ?_
   refine z10 (i:=7) (v:= .agg #[.int .i64 m.kind,.int .i64 m.num,.string m.a,.string m.b,.string m.c,.int .i64 m.kids]) (by kernel_rfl) rfl (by kernel_rfl) (by kernel_rfl) rfl rfl (fun w' hw'=> by have q:=(HS.out w' hw').2; have q0:=q 0 (by decide); have q1:=q 1 (by decide); have q2:=q 2 (by decide); have q3:=q 3 (by decide); have q4:=q 4 (by decide); have q5:=q 5 (by decide); simp only [Nd.cell,Nat.add_zero] at q0 q1 q2 q3 q4 q5; simp [go_sem,q0,q1,q2,q3,q4,q5]) hS (by simp [go_sem]; exact rfl) ?_;by_cases hnm : n=m
   ·refine z10 (i:=8) (v:= .bool false) (by kernel_rfl) rfl (by kernel_rfl) (by kernel_rfl) rfl rfl (fun w' _=>by rw [hnm]; simp [go_sem]) hS (by simp [go_sem]; exact rfl) ?_;have hT2:=HNx.out hnm;have HT2:=hid hT2;refine z24 (by kernel_rfl) ?_;clear hT2 hS hnm;go_wp2_with fail
    try rw [z17 (by have:=HK9.out; omega)]
    exact⟨⟨k+1,rfl,by omega,HT2,HBd⟩,hstep.out⟩
   ·refine z10 (i:=8) (v:= .bool true) (by kernel_rfl) rfl (by kernel_rfl) (by kernel_rfl) rfl rfl (fun w' _=>by simp [go_sem]; intros; intro hh; exact hnm (nd_ext ‹_› ‹_› ‹_› ‹_› ‹_› hh)) hS (by simp [go_sem]; exact rfl) ?_;have HF:=hid (HNs.out hnm);refine z24 (by kernel_rfl) ?_;clear hS hnm;go_wp2_with fail
    go_ret;exact⟨⟨false,rfl,fun h=>(by cases h),fun h=>absurd h HF.out⟩,HBd.out⟩
  ·have HF:=hid (all_same HE.out (by rw [HL.out.1]; omega) HT.out);go_wp2_with fail
   go_ret;exact⟨⟨true,rfl,fun _=>HF.out,fun _=>rfl⟩,HB.out⟩
theorem hrProg_calls {v0 v1 u0 u1 : Value} {fs : List Ef} {ms : List Nd} (w : World) (h0 : EffSlice w v0 es) (h1 : NodeSlice w v1 ns) (k0 : EffSlice w u0 fs) (k1 : NodeSlice w u1 ms) (l0 : es.length≤100000) (l1 : ns.length≤100000) :
 Calls Tryz.prog 10 #[.agg #[v0,v1],.agg #[u0,u1]] w (TellsP w (es=fs∧ns=ms)):=by
 obtain⟨hB,hA1,hA2,-⟩:=two_blocks w (.cells #[v0,v1] 26) (.cells #[u0,u1] 26);have hX:=hrTree_calls ((w.alloc (.cells #[v0,v1] 26)).alloc (.cells #[u0,u1] 26)) (h1.below hB) (k1.below hB) l1;have HC:=hid (fun X (hX : Below w.heap.size w X)=>And.intro (h0.below hX) (k0.below hX));obtain⟨a0,c0,rfl⟩:=effS_len h0;obtain⟨a1,c1,rfl⟩:=nodeS_len h1;obtain⟨a2,c2,rfl⟩:=effS_len k0;obtain⟨a3,c3,rfl⟩:=nodeS_len k1;obtain⟨L,hL⟩ : ∃ n,es.length=n:=⟨_,rfl⟩
 obtain⟨M,hM⟩ : ∃ n,fs.length=n:=⟨_,rfl⟩
 have HL:=hid (And.intro hL (And.intro hM (show L≤100000 by omega)));rw [hL,hM] at hB hA1 hA2 hX HC ⊢;have HA:=hid (And.intro hA1 hA2);have HB:=hid hB;have HX:=hid hX;clear hB hA1 hA2 hX h0 h1 k0 k1 l0 l1 hL hM;by_cases hne : L≠M
 ·have hx : ((L : Int) !=(M : Int))=true:=by rw [bne_iff_ne]; omega
  have hno:=hid (show ¬ (es=fs∧ns=ms) from fun e=>hne (by rw [← HL.out.1,← HL.out.2.1,e.1]));clear hne;go_enter Tryz.func10,Tryz.ntmps10
  go_wp2_with fail
  go_ret;exact⟨⟨false,rfl,fun h=>(by cases h),fun h=>absurd h hno.out⟩,HB.out⟩
 have hne : L=M:=Decidable.not_not.1 hne;subst hne;have HE:=hid (show es.length=fs.length by rw [HL.out.1,HL.out.2.1]);go_enter Tryz.func10,Tryz.ntmps10
 go_wp2_with fail
 refine HX.out.mono ?_;rintro e X1 ⟨⟨b,rfl,hb⟩,hb1⟩;have HBt:=hid hb;have HB1:=hid (HB.out.trans (hb1.mono HB.out.size));have HA1:=hid (And.intro ((hb1.block w.heap.size (by simp; omega)).trans HA.out.1) ((hb1.block (w.heap.size+1) (by simp)).trans HA.out.2));have HLt:=hid (show w.heap.size+1 < X1.heap.size from z13 HA1.out.2);clear hb hb1 HX HB HA
 cases b with
 | false=>
   have hno:=hid (show ¬ (es=fs∧ns=ms) from fun e=>by have:=HBt.out.2 e.2; cases this);go_wp2_with fail
   go_ret;exact⟨⟨false,rfl,fun h=>(by cases h),fun h=>absurd h hno.out⟩,HB1.out⟩
 | true=>
   have HNs2:=hid (HBt.out.1 rfl);obtain⟨q,hq⟩ : ∃ q,w.heap.size=q:=⟨_,rfl⟩
   have HQ:=hid hq;rw [hq] at HA1 HLt ⊢;clear hq HBt;go_wp2_with fail
   go_loopw [5] (fun i wr=> ∃ k : Nat,i= .int .i64 (k : Int)∧k≤L∧Hid (es.take k=fs.take k)∧Hid (Below X1.heap.size X1 wr)) (fun i _=>L - (intOf i).toNat)
   case atStart=>exact⟨0,rfl,Nat.zero_le _,rfl,Below.refl _ _⟩
   case round=>
    obtain⟨k,rfl,hk,HT,HBr⟩:=hrel;have HBw:=hid (HB1.out.trans (HBr.out.mono HB1.out.size));have hA3:=(HBr.out.block q (by have:=HLt.out; omega)).trans HA1.out.1;have hA4:=(HBr.out.block (q+1) HLt.out).trans HA1.out.2;have e0:=z8 hA3 0;have e1:=z8 hA4 0;simp at e0 e1;have HA3:=hid (And.intro hA3 hA4);clear hA3 hA4;by_cases hlt : (k : Int) < (L : Int)
    ·have hkl : k < L:=by omega
     have hk0 : (0 : Int)≤(k : Int):=by omega
     have hstep : Hid (L - (intOf (.int .i64 ((k+1 : Nat) : Int))).toNat < L - (intOf (.int .i64 (k : Int))).toNat):=by show _ < _; simp only [intOf,Int.toNat_natCast]; omega
     have HK9 : Hid (k≤100000):=by show _≤_; have:=HL.out.2.2; omega
     obtain⟨ba,oa,rfl,hba,ca⟩:=effS_cell (HC.out w (Below.refl _ _)).1 (k:=k) (by rw [HL.out.1]; exact hkl);obtain⟨bu,ou,rfl,hbu,cc⟩:=effS_cell (HC.out w (Below.refl _ _)).2 (k:=k) (by rw [HL.out.2.1]; exact hkl);have hnx:=same_next (k:=k) HE.out (by rw [HL.out.1]; exact hkl) HT.out;have hns:= @not_same Ef _ es fs k;obtain⟨n,hn⟩ : ∃ n,es.getD k default=n:=⟨_,rfl⟩
     obtain⟨m,hm⟩ : ∃ n,fs.getD k default=n:=⟨_,rfl⟩
     rw [hn] at ca hnx hns;rw [hm] at cc hnx hns;have HNx:=hid hnx;have HNs:=hid (fun (h : n≠m)=>show ¬ (es=fs∧ns=ms) from fun e=>hns h e.1);have HS:=hid (fun (X : World) (hX : Below w.heap.size w X)=>And.intro (fun c (hc : c < 3)=>(hX.cell (p:=⟨ba,oa+k*3+c,none⟩) hba).trans (ca c hc)) (fun c (hc : c < 3)=>(hX.cell (p:=⟨bu,ou+k*3+c,none⟩) hbu).trans (cc c hc)));clear ca cc hba hbu hn hm hnx hns hkl;go_upto_region 6 with fail
     clear e0 e1;have HBd:=hid HBr.out.drew;have hS : (fun X : World=>Below X1.heap.size X1 X) wr.drew:=HBd.out;have HZ:=hid (fun (X : World) (hX : Below X1.heap.size X1 X)=>And.intro (z8 ((hX.block q (by have:=HLt.out; omega)).trans HA1.out.1) 0) (And.intro (z8 ((hX.block (q+1) HLt.out).trans HA1.out.2) 0) (HS.out X (HB1.out.trans (hX.mono HB1.out.size)))));refine z27 (S:=fun X : World=>Below X1.heap.size X1 X) (by kernel_rfl) rfl rfl ?_;generalize wr.drew=wd at*;refine pick_o 0 (.pointer (some ⟨q,0,none⟩)) hS ?_
     refine z10 (i:=1) (v:= .slice (some ⟨ba,oa,none⟩) L c0) (by kernel_rfl) rfl (by kernel_rfl) (by kernel_rfl) rfl rfl (fun w' hw'=> by have z:=(HZ.out w' hw').1; simp at z; simp [go_sem,z]) hS (by simp [go_sem]; exact rfl) ?_;refine pick_o 2 (.int .i64 (k : Int)) hS ?_;refine pick_o (hy:=fun w' _=>by simp [go_sem,hk0,hlt]) 3 (.pointer (some ⟨ba,oa+k*3,none⟩)) hS ?_
     refine z10 (i:=4) (v:= .agg #[.string n.name,.int .i64 n.arg,.int .i64 n.res]) (by kernel_rfl) rfl (by kernel_rfl) (by kernel_rfl) rfl rfl (fun w' hw'=> by have q:=(HZ.out w' hw').2.2.1; have q0:=q 0 (by decide); have q1:=q 1 (by decide); have q2:=q 2 (by decide); simp only [Ef.cell,Nat.add_zero] at q0 q1 q2; simp [go_sem,q0,q1,q2]) hS (by simp [go_sem]; exact rfl) ?_;refine pick_o 5 (.pointer (some ⟨q+1,0,none⟩)) hS ?_
     refine z10 (i:=6) (v:= .slice (some ⟨bu,ou,none⟩) L c2) (by kernel_rfl) rfl (by kernel_rfl) (by kernel_rfl) rfl rfl (fun w' hw'=> by have z:=(HZ.out w' hw').2.1; simp at z; simp [go_sem,z]) hS (by simp [go_sem]; exact rfl) ?_;refine pick_o 7 (.int .i64 (k : Int)) hS ?_;refine pick_o (hy:=fun w' _=>by simp [go_sem,hk0,hlt]) 8 (.pointer (some ⟨bu,ou+k*3,none⟩)) hS ?_
     refine z10 (i:=9) (v:= .agg #[.string m.name,.int .i64 m.arg,.int .i64 m.res]) (by kernel_rfl) rfl (by kernel_rfl) (by kernel_rfl) rfl rfl (fun w' hw'=> by have q:=(HZ.out w' hw').2.2.2; have q0:=q 0 (by decide); have q1:=q 1 (by decide); have q2:=q 2 (by decide); simp only [Ef.cell,Nat.add_zero] at q0 q1 q2; simp [go_sem,q0,q1,q2]) hS (by simp [go_sem]; exact rfl) ?_;by_cases hnm : n=m
     ·refine z10 (i:=10) (v:= .bool false) (by kernel_rfl) rfl (by kernel_rfl) (by kernel_rfl) rfl rfl (fun w' _=>by rw [hnm]; simp [go_sem]) hS (by simp [go_sem]; exact rfl) ?_;have hT2:=HNx.out hnm;have HT2:=hid hT2;refine z24 (by kernel_rfl) ?_;clear hT2 hS hnm;go_wp2_with fail
      try rw [z17 (by have:=HK9.out; omega)]
      exact⟨⟨k+1,rfl,by omega,HT2,HBd⟩,hstep.out⟩
     ·refine z10 (i:=10) (v:= .bool true) (by kernel_rfl) rfl (by kernel_rfl) (by kernel_rfl) rfl rfl (fun w' _=>by simp [go_sem]; intros; intro hh; exact hnm (ef_ext ‹_› ‹_› hh)) hS (by simp [go_sem]; exact rfl) ?_;have HF:=hid (HNs.out hnm);refine z24 (by kernel_rfl) ?_;clear hS hnm;go_wp2_with fail
      go_ret;exact⟨⟨false,rfl,fun h=>(by cases h),fun h=>absurd h HF.out⟩,HB1.out.trans (HBd.out.mono HB1.out.size)⟩
    ·have HF:=hid (And.intro (all_same HE.out (by rw [HL.out.1]; omega) HT.out) HNs2.out);go_wp2_with fail
     go_ret;exact⟨⟨true,rfl,fun _=>HF.out,fun _=>rfl⟩,HBw.out⟩
end
end Go.Proofs.YtfbojelpdccjaaaGreatDoor
