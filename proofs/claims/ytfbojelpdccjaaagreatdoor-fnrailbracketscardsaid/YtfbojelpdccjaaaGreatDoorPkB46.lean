import Derived.Test.YtfbojelpdccjaaaGreatDoorRows
import Derived.WalkKit
import Derived.ProofKit
import Derived.Laws.Bits64
import Derived.Deep.CutRange
import Derived.Deep.CutBlock
import Derived.IntWalk
import Derived.Test.YtfbojelpdccjaaaGreatDoorPkB6
import Derived.Test.YtfbojelpdccjaaaGreatDoorPkB31
import Derived.Test.YtfbojelpdccjaaaGreatDoorPkB32
import Derived.Test.YtfbojelpdccjaaaGreatDoorPkB45
import Derived.Test.YtfbojelpdccjaaaGreatDoorPkB8
import Derived.Test.YtfbojelpdccjaaaGreatDoorPkB34
set_option maxHeartbeats 4000000
set_option maxRecDepth 100000
namespace Go.Proofs.YtfbojelpdccjaaaGreatDoor
open Go.RowKit Go.Deep
variable {a : Act} {ls : Array Bool} {A B : List UInt8} {i j n q : Nat} {x y : Value} {W w : World}
section
open Go.RowKit Go.Deep
structure RdK (t : ByteArray) (T : List Nd→Bool) (W : World) (a1 : Option Addr) (l1 c1 : Nat) (a2 : Option Addr) (l2 c2 : Nat) (es : List Ef) (ns : List Nd) (kk aa : Int) : Prop where
 eff : EffSlice W (.slice a1 l1 c1) es
 nod : NodeSlice W (.slice a2 l2 c2) ns
 es_ : es=esR (readZ t T)
 ns_ : ns=nsR (readZ t T)
 kk_ : kk=kR (readZ t T)
 aa_ : aa=aR (readZ t T)
 le : es.length=l1
 ln : ns.length=l2
 fe : l1≤8
 fn : l2≤300
theorem RdK.below {t : ByteArray} {T : List Nd→Bool} {W' : World} {a1 : Option Addr} {l1 c1 : Nat} {a2 : Option Addr} {l2 c2 : Nat} {es : List Ef} {ns : List Nd} {kk aa : Int} (h : RdK t T W a1 l1 c1 a2 l2 c2 es ns kk aa) (hb : Below W.heap.size W W') : RdK t T W' a1 l1 c1 a2 l2 c2 es ns kk aa:=
 ⟨h.eff.below hb,h.nod.below hb,h.es_,h.ns_,h.kk_,h.aa_,h.le,h.ln,h.fe,h.fn⟩
def OwnR (W : World) (a1 : Option Addr) (c1 : Nat) (a2 : Option Addr) (es : List Ef) (ns : List Nd) : Prop:=
 ns≠ []→ ∃ b be,a2=some ⟨b,0,none⟩∧b < W.heap.size∧NodesAt W b 0 ns∧(es≠ []→a1=some ⟨be,0,none⟩)∧be < W.heap.size∧EffsAt W be 0 es∧es.length≤c1
def ReadK (own : Prop) (t : ByteArray) (T : List Nd→Bool) (W : World) (e : Ending) (W' : World) : Prop:=
 ∃ a1 l1 c1 a2 l2 c2 es ns kk aa,e= .returned (.tuple #[.agg #[.slice a1 l1 c1,.slice a2 l2 c2],.agg #[.int .i64 kk,.int .i64 aa]])∧RdK t T W' a1 l1 c1 a2 l2 c2 es ns kk aa∧(own→OwnR W' a1 c1 a2 es ns)∧Below W.heap.size W W'
theorem readI_calls (t : ByteArray) (T : List Nd→Bool) (hT : ∀ ns,ImplAns ns (T ns)) (W : World) : Calls Tryz.prog 9 #[.string t] W (ReadK True t T W):=by
 refine (implRead_calls t T hT W).mono ?_;intro e W' h;have hf:=readZ_few t T
 cases hr : readZ t T with
 | error x=>
   rw [hr] at h;exact⟨none,0,0,none,0,0,[],[],x.1,(x.2 : Int),h.1,⟨⟨none,0,rfl,Or.inl rfl⟩,⟨none,0,rfl,Or.inl rfl⟩,by rw [hr]; rfl,by rw [hr]; rfl,by rw [hr]; rfl,by rw [hr]; rfl,rfl,rfl,Nat.zero_le _,Nat.zero_le _⟩,fun _ h0=>absurd rfl h0,h.2⟩
 | ok x=>
   rw [hr] at h hf;obtain⟨ve,vt,he,h1,h2,hb⟩:=h;have e1:=(owns_sliceR (by decide) h1).effS;have e2:=(owns_sliceR (by decide) h2).nodeS;obtain⟨a1,c1,rfl⟩:=effS_len e1;obtain⟨a2,c2,rfl⟩:=nodeS_len e2;refine⟨a1,_,c1,a2,_,c2,x.1,Tr.flat x.2,0,0,he,⟨e1,e2,by rw [hr]; rfl,by rw [hr]; rfl,by rw [hr]; rfl,by rw [hr]; rfl,rfl,rfl,hf.1,hf.2⟩,fun _ h0=>?_,hb⟩;obtain⟨b,g1,g2,-,g4⟩:=nodes_own h2 (List.length_pos_iff.2 h0);obtain⟨be,g5,g6,g7,g8⟩:=effs_own h1 g2;exact⟨b,be,g1,g2,g4,g5,g6,g8,g7⟩
theorem effW_slice {ad : Option Addr} {cp : Nat} {es : List Ef} (h : EffW W ad cp es) : EffSlice W (.slice ad es.length cp) es:=by
 rcases h with ⟨rfl,rfl,rfl⟩ | ⟨be,rfl,h2,h3,-⟩
 ·exact⟨none,0,rfl,Or.inl rfl⟩
 ·exact⟨_,cp,rfl,Or.inr ⟨be,0,rfl,h2,h3⟩⟩
theorem nodeV_slice {v : Value} {ns : List Nd} (h : NodeV W v ns) : NodeSlice W v ns:=by
 rcases h with ⟨rfl,rfl⟩ | ⟨b,cap,rfl,h2,h3⟩
 ·exact⟨none,0,rfl,Or.inl rfl⟩
 ·exact⟨_,cap,rfl,Or.inr ⟨b,0,rfl,h2,h3⟩⟩
structure BoxK (W : World) (q : Nat) (x y : Value) (t : TypeId) : Prop where
 blk : W.heap[q]? =some (.cells #[x,y] t)
theorem BoxK.below {W' : World} {t : TypeId} (h : BoxK W q x y t) (hb : Below W.heap.size W W') : BoxK W' q x y t:=⟨(hb.block q (z13 h.blk)).trans h.blk⟩
theorem BoxK.c0 {t : TypeId} (h : BoxK W q x y t) : W.cell? ⟨q,0,none⟩=some x:=by rw [z8 h.blk 0]; rfl
theorem BoxK.c1 {t : TypeId} (h : BoxK W q x y t) : W.cell? ⟨q,1,none⟩=some y:=by rw [z8 h.blk 1]; rfl
theorem struck_is {TX : ByteArray} {P : List UInt8} (ht : TX.data.toList=P++40::(A++41::B)) {k : Nat} (hi : i=P.length) (hk : k=P.length+1+A.length) :
 (TX.extract 0 i++⟨#[32]⟩++TX.extract (i+1) k++⟨#[32]⟩++TX.extract (k+1) TX.size).data.toList=P++32::(A++32::B):=by
 subst hi hk;have hs : TX.size=P.length+(A.length+2+B.length):=by
  have:=congrArg List.length ht;simp only [List.length_append,List.length_cons] at this;have e : TX.data.toList.length=TX.size:=by simp
  omega
 have e1 : (TX.extract 0 P.length).data.toList=P:=by
  rw [ByteArray.data_extract,Array.toList_extract,ht];simp [List.extract]
 have e2 : (TX.extract (P.length+1) (P.length+1+A.length)).data.toList=A:=by
  rw [ByteArray.data_extract,Array.toList_extract,ht];have d1 : List.drop (P.length+1) P= []:=List.drop_eq_nil_of_le (by omega);simp [List.extract,List.drop_append,d1]
 have e3 : (TX.extract (P.length+1+A.length+1) TX.size).data.toList=B:=by
  rw [ByteArray.data_extract,Array.toList_extract,ht,hs];have d1 : List.drop (P.length+1+A.length+1) P= []:=List.drop_eq_nil_of_le (by omega);have d2 : P.length+1+A.length+1 - P.length=A.length+2:=by omega
  have d3 : List.drop (A.length+1) A= []:=List.drop_eq_nil_of_le (by omega);have d4 : P.length+(A.length+2+B.length) - (P.length+1+A.length+1)=B.length:=by omega
  simp [List.extract,List.drop_append,d1,d2,d3,d4]
 simp only [ByteArray.data_append,Array.toList_append,e1,e2,e3];simp
end
section
open Go.RowKit
theorem put_comm (a : Act) (h : i≠j) (x y : Value) : (a.put (some i) x).put (some j) y=(a.put (some j) y).put (some i) x:=by
 simp only [Act.put];congr 1
 exact Array.setIfInBounds_comm x y h
theorem eval_put (a : Act) {t : Nat} (h : i≠t) (x : Value) : (a.put (some i) x).eval (.tmp t)=a.eval (.tmp t):=by
 simp only [Act.put,Act.eval,Array.getD_eq_getD_getElem?];rw [Array.getElem?_setIfInBounds_ne h]
theorem eval_put_same (a : Act) (h : i < a.tmps.size) (x : Value) : (a.put (some i) x).eval (.tmp i)=x:=by
 simp [Act.put,Act.eval,h]
theorem z71 (a : Act) (d : Option Nat) (x : Value) : (a.put d x).tmps.size=a.tmps.size:=by
 cases d <;> simp [Act.put]
def freeB (l0 : List Oper) (ls : Array Bool) (i : Nat) : Bool:=Region.free .any l0.toArray ls i && (Region.ready .any l0.toArray ls).contains i
def boxesB (l0 : List Oper) (ls : Array Bool) (c a b m x0 x1 : Nat) : Bool:=
 let s (A B C : Bool):=(fun z : Array Bool=>if B then z.setIfInBounds b true else z) ((fun z : Array Bool=>if A then z.setIfInBounds a true else z) (if C then (((ls.setIfInBounds c true).setIfInBounds m true).setIfInBounds x0 true).setIfInBounds x1 true else ls))
 let r (A B : Bool):=freeB l0 ((s A B false).setIfInBounds c true) m && freeB l0 (((s A B false).setIfInBounds c true).setIfInBounds m true) x0 && freeB l0 ((((s A B false).setIfInBounds c true).setIfInBounds m true).setIfInBounds x0 true) x1 && ((((s A B false).setIfInBounds c true).setIfInBounds m true).setIfInBounds x0 true).setIfInBounds x1 true==s A B true
 Region.ready .any l0.toArray (s false false false)== [c,a,b] && Region.ready .any l0.toArray (s true false false)== [c,b] && Region.ready .any l0.toArray (s false true false)== [c,a] && Region.ready .any l0.toArray (s true true false)== [c]
  && Region.ready .any l0.toArray (s false false true)== [a,b] && Region.ready .any l0.toArray (s true false true)== [b] && Region.ready .any l0.toArray (s false true true)== [a]
  && r false false && r true false && r false true && r true true
  && (s false true false).setIfInBounds a true==s true true false && (s false true true).setIfInBounds a true==s true true true && Region.noSelect l0.toArray
section
variable {P : Program} {l0 : List Oper} {Q : Exit→Act→World→Prop} {S : World→Prop}
theorem three_ready {k : Nat} (hr : Region.ready .any l0.toArray ls= [i,j,k]) (h1 : PickCl P l0 Q S n ls a w i) (h2 : PickMk P l0 Q S n ls a w j) (h3 : PickMk P l0 Q S n ls a w k) : wpAnyH P .any l0.toArray (NoPanic Q) S (n+1) ls a w:=by
 refine wpAnyH_all (rs:= [i,j,k]) hr (by simp) (fun z hz=>?_);simp only [List.mem_cons,List.not_mem_nil,or_false] at hz;rcases hz with rfl | rfl | rfl
 ·exact h1.op
 ·exact h2.op
 ·exact h3.op
theorem two_ready (hr : Region.ready .any l0.toArray ls= [i,j]) (h1 : PickCl P l0 Q S n ls a w i) (h2 : PickMk P l0 Q S n ls a w j) : wpAnyH P .any l0.toArray (NoPanic Q) S (n+1) ls a w:=by
 refine wpAnyH_all (rs:= [i,j]) hr (by simp) (fun z hz=>?_);simp only [List.mem_cons,List.not_mem_nil,or_false] at hz;rcases hz with rfl | rfl
 ·exact h1.op
 ·exact h2.op
theorem mk_ready (hr : Region.ready .any l0.toArray ls= [i,j]) (h1 : PickMk P l0 Q S n ls a w i) (h2 : PickMk P l0 Q S n ls a w j) : wpAnyH P .any l0.toArray (NoPanic Q) S (n+1) ls a w:=by
 refine wpAnyH_all (rs:= [i,j]) hr (by simp) (fun z hz=>?_);simp only [List.mem_cons,List.not_mem_nil,or_false] at hz;rcases hz with rfl | rfl
 ·exact h1.op
 ·exact h2.op
theorem one_call (hr : Region.ready .any l0.toArray ls= [i]) (h1 : PickCl P l0 Q S n ls a w i) : wpAnyH P .any l0.toArray (NoPanic Q) S (n+1) ls a w:=by
 refine wpAnyH_all (rs:= [i]) hr (by simp) (fun z hz=>?_);rw [List.mem_singleton] at hz;subst hz;exact h1.op
theorem one_mk (hr : Region.ready .any l0.toArray ls= [i]) (h1 : PickMk P l0 Q S n ls a w i) : wpAnyH P .any l0.toArray (NoPanic Q) S (n+1) ls a w:=by
 refine wpAnyH_all (rs:= [i]) hr (by simp) (fun z hz=>?_);rw [List.mem_singleton] at hz;subst hz;exact h1.op
theorem wanted_none {o : Oper} {y : Nat→Option Bool} (h : o.guard=none) : Region.wanted o y=true:=by
 unfold Region.wanted;rw [h]
def boxPtr (q : Nat) : Value:= .pointer (some ⟨q,0,none⟩)
theorem pick_boxes {c ia ib m x0 x1 : Nat} {oC oA oB oM o0 o1 : Oper} {dC dA dB dM d0 d1 ts : Nat} {f : FuncId} {s : Value} {ob1 ob2 : Obj} (J : Value→Value→World→Prop)
 (hck : boxesB l0 ls c ia ib m x0 x1=true)
 (eC : l0[c]? =some oC) (eA : l0[ia]? =some oA) (eB : l0[ib]? =some oB) (eM : l0[m]? =some oM) (e0 : l0[x0]? =some o0) (e1 : l0[x1]? =some o1)
 (gC : oC.guard=none∧oC.dst=some dC) (gA : oA.guard=none∧oA.dst=some dA) (gB : oB.guard=none∧oB.dst=some dB) (gM : oM.guard=none∧oM.dst=some dM) (g0 : o0.guard=none∧o0.dst=some d0) (g1 : o1.guard=none∧o1.dst=some d1)
 (hds : (([dA,dB].all fun x=> [ts,dC,dM,d0,d1].all fun y=>x !=y) && (dA !=dB) && decide (dC < a.tmps.size) && decide (dM < a.tmps.size) && (dM !=d0))=true)
 (hs : a.eval (.tmp ts)=s)
 (rC : ∀ (a' : Act) w',a'.eval (.tmp ts)=s→(execOp a'.eval oC).run P w'= .ok (.enter f #[s]) w')
 (rA : ∀ (a' : Act) w',(execOp a'.eval oA).run P w'= .ok (.value (boxPtr w'.heap.size)) (w'.alloc ob1))
 (rB : ∀ (a' : Act) w',(execOp a'.eval oB).run P w'= .ok (.value (boxPtr w'.heap.size)) (w'.alloc ob2))
 (rM : ∀ (a' : Act) w' v,a'.eval (.tmp dC)=v→(execOp a'.eval oM).run P w'= .ok (.value v) w')
 (r0 : ∀ (a' : Act) w' u v,a'.eval (.tmp dM)= .tuple #[u,v]→(execOp a'.eval o0).run P w'= .ok (.value u) w')
 (r1 : ∀ (a' : Act) w' u v,a'.eval (.tmp dM)= .tuple #[u,v]→(execOp a'.eval o1).run P w'= .ok (.value v) w')
 (hS : ∀ X,Below w.heap.size w X→S X)
 (hJ : ∀ u v X X',J u v X→Below X.heap.size X X'→J u v X')
 (hcall : ∀ w',Below w.heap.size w w'→Calls P f #[s] w' fun e X=> ∃ u v,e= .returned (.tuple #[u,v])∧J u v X∧Below w'.heap.size w' X)
 (hend : ∀ u v X q1 q2,J u v X→Below w.heap.size w X→X.heap[q1]? =some ob1→X.heap[q2]? =some ob2→q1≠q2→w.heap.size≤q1→w.heap.size≤q2→
  wpAnyH P .any l0.toArray (NoPanic Q) S n ((((((ls.setIfInBounds c true).setIfInBounds m true).setIfInBounds x0 true).setIfInBounds x1 true).setIfInBounds ia true).setIfInBounds ib true) ((((((a.put (some dC) (.tuple #[u,v])).put (some dM) (.tuple #[u,v])).put (some d0) u).put (some d1) v).put (some dA) (boxPtr q1)).put (some dB) (boxPtr q2)) X) :
 wpAnyH P .any l0.toArray (NoPanic Q) S (n+6) ls a w:=by
 unfold boxesB at hck;simp only [Bool.and_eq_true,beq_iff_eq,freeB,if_true,if_false,Bool.false_eq_true,List.all_eq_true,decide_eq_true_eq,bne_iff_ne,ne_eq] at hck hds;obtain⟨⟨⟨⟨⟨⟨⟨⟨⟨⟨⟨⟨⟨k1,k2⟩,k3⟩,k4⟩,k5⟩,k6⟩,k7⟩,y0⟩,y1⟩,y2⟩,y3⟩,z1⟩,z2⟩,hns⟩:=hck;obtain⟨⟨⟨⟨hd,hab⟩,hcz⟩,hmz⟩,hm0⟩:=hds;have dA_ : dA≠ts∧dA≠dC∧dA≠dM∧dA≠d0∧dA≠d1:=by simpa using hd dA (by simp)
 have dB_ : dB≠ts∧dB≠dC∧dB≠dM∧dB≠d0∧dB≠d1:=by simpa using hd dB (by simp)
 -- one step each
 have mkA : ∀ {k : Nat} {ls' : Array Bool} {a' : Act} {w' : World},S (w'.alloc ob1)→wpAnyH P .any l0.toArray (NoPanic Q) S k (ls'.setIfInBounds ia true) (a'.put (some dA) (boxPtr w'.heap.size)) (w'.alloc ob1)→PickMk P l0 Q S k ls' a' w' ia:=fun hS' h=>
  ⟨oA,_,_,eA,wanted_none gA.1,rA _ _,hS',by rw [gA.2]; exact h⟩
 have mkB : ∀ {k : Nat} {ls' : Array Bool} {a' : Act} {w' : World},S (w'.alloc ob2)→wpAnyH P .any l0.toArray (NoPanic Q) S k (ls'.setIfInBounds ib true) (a'.put (some dB) (boxPtr w'.heap.size)) (w'.alloc ob2)→PickMk P l0 Q S k ls' a' w' ib:=fun hS' h=>
  ⟨oB,_,_,eB,wanted_none gB.1,rB _ _,hS',by rw [gB.2]; exact h⟩
 have mkC : ∀ {k : Nat} {ls' : Array Bool} {a' : Act} {w' : World},Below w.heap.size w w'→a'.eval (.tmp ts)=s→dC < a'.tmps.size→dM < a'.tmps.size→
  (((Region.free .any l0.toArray (ls'.setIfInBounds c true) m=true∧(Region.ready .any l0.toArray (ls'.setIfInBounds c true)).contains m=true)∧(Region.free .any l0.toArray ((ls'.setIfInBounds c true).setIfInBounds m true) x0=true∧(Region.ready .any l0.toArray ((ls'.setIfInBounds c true).setIfInBounds m true)).contains x0=true))∧(Region.free .any l0.toArray (((ls'.setIfInBounds c true).setIfInBounds m true).setIfInBounds x0 true) x1=true∧(Region.ready .any l0.toArray (((ls'.setIfInBounds c true).setIfInBounds m true).setIfInBounds x0 true)).contains x1=true))→
  (∀ u v X,J u v X→Below w'.heap.size w' X→wpAnyH P .any l0.toArray (NoPanic Q) S k ((((ls'.setIfInBounds c true).setIfInBounds m true).setIfInBounds x0 true).setIfInBounds x1 true) ((((a'.put (some dC) (.tuple #[u,v])).put (some dM) (.tuple #[u,v])).put (some d0) u).put (some d1) v) X)→PickCl P l0 Q S (k+3) ls' a' w' c:=fun {k ls' a' w'} hB he hz hz' hf hn=>by
  refine⟨oC,f,#[s],eC,wanted_none gC.1,rC _ _ he,(hcall w' hB).mono ?_⟩;rintro e X ⟨u,v,rfl,hj,hb⟩;have hX:=hB.trans (hb.mono hB.size);refine⟨_,rfl,hS X hX,?_⟩;rw [gC.2];refine z10 hns eM hf.1.1.1 hf.1.1.2 rfl (wanted_none gM.1) (fun w'' _=>rM _ _ _ (eval_put_same _ hz _)) (hS X hX) rfl ?_;rw [gM.2];have hm : ((a'.put (some dC) (.tuple #[u,v])).put (some dM) (.tuple #[u,v])).eval (.tmp dM)= .tuple #[u,v]:=eval_put_same _ (by rw [z71]; exact hz') _;refine z10 hns e0 hf.1.2.1 hf.1.2.2 rfl (wanted_none g0.1) (fun w'' _=>r0 _ _ _ _ hm) (hS X hX) rfl ?_;rw [g0.2]
  refine z10 hns e1 hf.2.1 hf.2.2 rfl (wanted_none g1.1) (fun w'' _=>r1 _ _ _ _ (by rw [eval_put _ (fun e=>hm0 e.symm)]; exact hm)) (hS X hX) rfl ?_;rw [g1.2];exact hn u v X hj hb
 have comm : ∀ (a' : Act) {d : Nat} (x u v : Value),d≠dC→d≠dM→d≠d0→d≠d1→(((((a'.put (some d) x).put (some dC) (.tuple #[u,v])).put (some dM) (.tuple #[u,v])).put (some d0) u).put (some d1) v)=(((((a'.put (some dC) (.tuple #[u,v])).put (some dM) (.tuple #[u,v])).put (some d0) u).put (some d1) v).put (some d) x):=fun a' d x u v n1 n2 n3 n4=>by
  rw [put_comm a' n1,put_comm _ n2,put_comm _ n3,put_comm _ n4]
 have below : ∀ {X : World} (o : Obj),Below w.heap.size w X→Below w.heap.size w (X.alloc o):=fun o h=>h.alloc h.size o
 have blk : ∀ {X Y : World} {q : Nat} {o : Obj},Below X.heap.size X Y→X.heap[q]? =some o→Y.heap[q]? =some o:=fun hb h=>(hb.block _ (z13 h)).trans h
 have one : ∀ (X : World) (o : Obj),Below X.heap.size X (X.alloc o)∧(X.alloc o).heap[X.heap.size]? =some o∧(X.alloc o).heap.size=X.heap.size+1:=fun X o=>⟨(Below.refl _ _).alloc (Nat.le_refl _) _,(MapKept.heap_alloc X o).1,by simp⟩
 have w0:=Below.refl w.heap.size w;have hdA1 : dA≠ts:=dA_.1;have hdB1 : dB≠ts:=dB_.1;refine three_ready k1 ?_ ?_ ?_
 ·-- the call,then the boxes
  refine mkC w0 hs hcz hmz y0.1 (fun u v X hj hb=>?_);obtain⟨b1,c1,s1⟩:=one X ob1;obtain⟨b2,c2,s2⟩:=one X ob2;refine mk_ready k5 (mkA (hS _ (below _ hb)) ?_) (mkB (hS _ (below _ hb)) ?_)
  ·obtain⟨b3,c3,s3⟩:=one (X.alloc ob1) ob2;refine one_mk k6 (mkB (hS _ (below _ (below _ hb))) ?_);exact hend u v _ _ _ (hJ _ _ _ _ hj (b1.trans (b3.mono b1.size))) (below _ (below _ hb)) (blk b3 c1) c3 (by omega) hb.size (by have:=hb.size; omega)
  ·obtain⟨b3,c3,s3⟩:=one (X.alloc ob2) ob1;refine one_mk k7 (mkA (hS _ (below _ (below _ hb))) ?_);rw [z2,put_comm _ (fun e=>hab e.symm)];exact hend u v _ _ _ (hJ _ _ _ _ hj (b2.trans (b3.mono b2.size))) (below _ (below _ hb)) c3 (blk b3 c2) (by omega) (by have:=hb.size; omega) hb.size
 ·-- the first box ahead
  obtain⟨b1,c1,s1⟩:=one w ob1;refine mkA (hS _ (below _ w0)) ?_;refine two_ready k2 (mkC (below _ w0) (by rw [eval_put _ hdA1]; exact hs) (by rw [z71]; exact hcz) (by rw [z71]; exact hmz) y1.1 (fun u v X hj hb=>?_)) (mkB (hS _ (below _ (below _ w0))) ?_)
  ·rw [y1.2,comm _ _ _ _ dA_.2.1 dA_.2.2.1 dA_.2.2.2.1 dA_.2.2.2.2];have hX:=b1.trans (hb.mono b1.size);obtain⟨b3,c3,s3⟩:=one X ob2;refine one_mk k6 (mkB (hS _ (below _ hX)) ?_);exact hend u v _ _ _ (hJ _ _ _ _ hj b3) (below _ hX) (blk b3 (blk hb c1)) c3 (by have:=hb.size; omega) (Nat.le_refl _) (by have:=hb.size; omega)
  ·obtain⟨b3,c3,s3⟩:=one (w.alloc ob1) ob2;refine one_call k4 (mkC (below _ (below _ w0)) (by rw [eval_put _ hdB1,eval_put _ hdA1]; exact hs) (by rw [z71,z71]; exact hcz) (by rw [z71,z71]; exact hmz) y3.1 (fun u v X hj hb=>?_));rw [y3.2,comm _ _ _ _ dB_.2.1 dB_.2.2.1 dB_.2.2.2.1 dB_.2.2.2.2,comm _ _ _ _ dA_.2.1 dA_.2.2.1 dA_.2.2.2.1 dA_.2.2.2.2];have hY:=b1.trans (b3.mono b1.size);exact hend u v _ _ _ hj (hY.trans (hb.mono hY.size)) (blk hb (blk b3 c1)) (blk hb c3) (by omega) (Nat.le_refl _) (by omega)
 ·-- the second box ahead
  obtain⟨b1,c1,s1⟩:=one w ob2;refine mkB (hS _ (below _ w0)) ?_;refine two_ready k3 (mkC (below _ w0) (by rw [eval_put _ hdB1]; exact hs) (by rw [z71]; exact hcz) (by rw [z71]; exact hmz) y2.1 (fun u v X hj hb=>?_)) (mkA (hS _ (below _ (below _ w0))) ?_)
  ·rw [y2.2,comm _ _ _ _ dB_.2.1 dB_.2.2.1 dB_.2.2.2.1 dB_.2.2.2.2];have hX:=b1.trans (hb.mono b1.size);obtain⟨b3,c3,s3⟩:=one X ob1;refine one_mk k7 (mkA (hS _ (below _ hX)) ?_);rw [z2,put_comm _ (fun e=>hab e.symm)];exact hend u v _ _ _ (hJ _ _ _ _ hj b3) (below _ hX) c3 (blk b3 (blk hb c1)) (by have:=hb.size; omega) (by have:=hb.size; omega) (Nat.le_refl _)
  ·obtain⟨b3,c3,s3⟩:=one (w.alloc ob2) ob1;rw [z1,put_comm _ (fun e=>hab e.symm)];refine one_call k4 (mkC (below _ (below _ w0)) (by rw [eval_put _ hdB1,eval_put _ hdA1]; exact hs) (by rw [z71,z71]; exact hcz) (by rw [z71,z71]; exact hmz) y3.1 (fun u v X hj hb=>?_));rw [y3.2,comm _ _ _ _ dB_.2.1 dB_.2.2.1 dB_.2.2.2.1 dB_.2.2.2.2,comm _ _ _ _ dA_.2.1 dA_.2.2.1 dA_.2.2.2.1 dA_.2.2.2.2];have hY:=b1.trans (b3.mono b1.size);exact hend u v _ _ _ hj (hY.trans (hb.mono hY.size)) (blk hb c3) (blk hb (blk b3 c1)) (by omega) (by omega) (Nat.le_refl _)
end
end
section
open Go.RowKit Go.Deep
def ovB (A : List UInt8) : Nat→Int
 | 0=>0
 | r+1=>1+dpB (A.take r)
theorem mate_step (h1 : 1+dpB A=1) (h2 : ∀ m,1≤1+dpB (A.take m)) (hq : q≤A.length+1) :
 let c:=(40::(A++41::B)).getD q 0
 (c=40∧q≤A.length∧ovB A (q+1)=ovB A q+1)∨(c=41∧q≤A.length∧ovB A (q+1)=ovB A q - 1∧ovB A q - 1≠0)∨(c=41∧q=A.length+1∧ovB A q=1)∨(c≠40∧c≠41∧q≤A.length∧ovB A (q+1)=ovB A q):=by
 cases q with
 | zero=>
   refine Or.inl ⟨rfl,Nat.zero_le _,?_⟩;simp [ovB,dpB]
 | succ r=>
   by_cases hr : r < A.length
   ·have hc : (40::(A++41::B)).getD (r+1) 0=A[r]:=by simp [List.getD,List.getElem?_append_left hr,hr]
    have ht : A.take (r+1)=A.take r++ [A[r]]:=by rw [List.take_add_one]; simp [hr]
    have hd : dpB (A.take (r+1))=dpB (A.take r)+(if A[r]=40 then 1 else if A[r]=41 then -1 else 0):=by
     rw [ht,dpB_app,dpB_cons];simp [dpB]
    have h3:=h2 (r+1);dsimp only;rw [hc];by_cases e1 : A[r]=40
    ·rw [if_pos e1] at hd;exact Or.inl ⟨e1,by omega,by simp only [ovB]; omega⟩
    ·rw [if_neg e1] at hd;by_cases e2 : A[r]=41
     ·rw [if_pos e2] at hd;exact Or.inr (Or.inl ⟨e2,by omega,by simp only [ovB]; omega,by simp only [ovB]; omega⟩)
     ·rw [if_neg e2] at hd;exact Or.inr (Or.inr (Or.inr ⟨e1,e2,by omega,by simp only [ovB]; omega⟩))
   ·have e : r=A.length:=by omega
    subst e;refine Or.inr (Or.inr (Or.inl ⟨by simp [List.getD],rfl,?_⟩));simp only [ovB,List.take_length];exact h1
theorem ovB_le (q : Nat) : ovB A q≤(q : Int)∧ -(q : Int)≤ovB A q:=by
 cases q with
 | zero=>simp [ovB]
 | succ r=>
   simp only [ovB,dpB];have h1:=List.count_le_length (a:=(40 : UInt8)) (l:=A.take r);have h2:=List.count_le_length (a:=(41 : UInt8)) (l:=A.take r);have h3 : (A.take r).length≤r:=by rw [List.length_take]; omega
   omega
theorem byte_at (TX : ByteArray) (k : Nat) (h : k < TX.size) : TX[k]'h=TX.data.toList.getD k 0:=by
 have h' : k < TX.data.toList.length:=by simpa using h
 show TX.data[k]=_;simp [List.getD,h]
theorem byte_is {b c : UInt8} {n : Int} (hc : c.toNat=n.toNat) (hn : 0≤n) : (((b.toNat : Int)==n)=true)↔b=c:=by
 rw [beq_iff_eq];constructor
 ·intro h;apply UInt8.toNat_inj.1;omega
 ·rintro rfl;omega
theorem hrMate_calls {TX : ByteArray} {P : List UInt8} (ht : TX.data.toList=P++40::(A++41::B)) (h1 : 1+dpB A=1) (h2 : ∀ m,1≤1+dpB (A.take m)) (hs : TX.size≤100000) (w : World) :
 Calls Tryz.prog 13 #[.string TX,.int .i64 (P.length : Int)] w fun e w'=> e= .returned (.int .i64 ((P.length+1+A.length : Nat) : Int))∧w'= w:=by
 have hsz : TX.size=P.length+(A.length+2+B.length):=by
  have:=congrArg List.length ht;simp only [List.length_append,List.length_cons] at this;have e : TX.data.toList.length=TX.size:=by simp
  omega
 have HT:=hid ht;have HS:=hid (fun q (hq : q≤A.length+1)=>mate_step (B:=B) h1 h2 hq);have HZ:=hid (And.intro hsz hs);obtain⟨pl,hpl⟩ : ∃ n,P.length=n:=⟨_,rfl⟩
 have HP:=hid hpl;obtain⟨al,hal⟩ : ∃ n,A.length=n:=⟨_,rfl⟩
 have HAl:=hid hal;rw [hpl,hal];clear ht h1 h2 hs hsz hpl hal;go_enter Tryz.func13,Tryz.ntmps13
 go_wp2_with fail
 go_loopw [5,6] (fun op i wr=> ∃ (k : Nat) (o : Int),i= .int .i64 (k : Int)∧op= .int .i64 o∧Hid (∃ q,k=pl+q∧q≤al+1∧o=ovB A q)∧wr=w) (fun _ i _=>TX.size - (intOf i).toNat)
 case atStart=>exact⟨pl,0,rfl,rfl,⟨0,rfl,Nat.zero_le _,rfl⟩,rfl⟩
 case round=>
  obtain⟨k,o,rfl,rfl,HQ,rfl⟩:=hrel;have hkn : k < TX.size:=by
   obtain⟨q,h3,h4,-⟩:=HQ.out;have:=HZ.out.1;rw [HP.out,HAl.out] at this;omega
  have hki : (k : Int) < (TX.size : Int):=by omega
  have hk0 : (0 : Int)≤(k : Int):=by omega
  have hstep : TX.size - (intOf (.int .i64 ((k+1 : Nat) : Int))).toNat < TX.size - (intOf (.int .i64 (k : Int))).toNat:=by simp only [intOf,Int.toNat_natCast]; omega
  have HK : Hid (k≤100000):=by show _≤_; have:=HZ.out.2; omega
  have HO : Hid (-100001≤o∧o≤100001):=by
   obtain⟨q,h3,h4,h5⟩:=HQ.out;have:=ovB_le (A:=A) q;have:=HZ.out;rw [HP.out,HAl.out] at this;show _∧_;omega
  have hat : (TX[k]'hkn)=TX.data.toList.getD k 0:=byte_at TX k hkn;have hst : ∃ q,k=pl+q∧q≤al+1∧o=ovB A q∧(TX[k]'hkn)=(40::(A++41::B)).getD q 0:=by
   obtain⟨q,h3,h4,h5⟩:=HQ.out;refine⟨q,h3,h4,h5,?_⟩;rw [hat,HT.out,h3,List.getD_eq_getElem?_getD,List.getD_eq_getElem?_getD,List.getElem?_append_right (by rw [HP.out]; omega),HP.out];congr 2
   omega
  have h40:=byte_is (b:=TX[k]'hkn) (c:=40) (n:=40) rfl (by omega);have h41:=byte_is (b:=TX[k]'hkn) (c:=41) (n:=41) rfl (by omega);obtain⟨q,h3,h4,h5,h6⟩:=hst;have h7:=HS.out q (by rw [HAl.out]; exact h4);rw [← h6,HAl.out,← h5] at h7;clear hat h6 HQ;rcases h7 with ⟨e1,e2,e3⟩ | ⟨e1,e2,e3,e4⟩ | ⟨e1,e2,e3⟩ | ⟨e0,e1,e2,e3⟩
  ·have x1 : ((((TX[k]'hkn).toNat : Int)==40)=true):=h40.2 e1;have x2 : ((((TX[k]'hkn).toNat : Int)==41)=false):=by
    rw [← Bool.not_eq_true,h41,e1];decide
   have HN : Hid (∃ q,k+1=pl+q∧q≤al+1∧o+1=ovB A q):=⟨q+1,by omega,by omega,e3.symm⟩
   have HW : Hid (wrap64 (o+1)=o+1):=by show _=_; have:=HO.out; unfold wrap64; omega
   clear h40 h41 e1 e2 e3 h3 h4 h5;go_wp2_with fail
   try rw [HW.out]
   try rw [z17 (by have:=HK.out; omega)]
   exact⟨⟨k+1,o+1,rfl,rfl,HN,trivial⟩,hstep⟩
  ·have x1 : ((((TX[k]'hkn).toNat : Int)==40)=false):=by
    rw [← Bool.not_eq_true,h40,e1];decide
   have x2 : ((((TX[k]'hkn).toNat : Int)==41)=true):=h41.2 e1;have HN : Hid (∃ q,k+1=pl+q∧q≤al+1∧o - 1=ovB A q):=⟨q+1,by omega,by omega,e3.symm⟩
   have hw : wrap64 (o - 1)=o - 1:=by have:=HO.out; unfold wrap64; omega
   have hnz : ((o - 1==0)=false):=by rw [← Bool.not_eq_true,beq_iff_eq]; exact e4
   clear h40 h41 e1 e2 e3 h3 h4 h5 e4;go_wp2_with fail
   try rw [hw]
   try rw [z17 (by have:=HK.out; omega)]
   exact⟨⟨k+1,o - 1,rfl,rfl,HN,trivial⟩,hstep⟩
  ·have x1 : ((((TX[k]'hkn).toNat : Int)==40)=false):=by
    rw [← Bool.not_eq_true,h40,e1];decide
   have x2 : ((((TX[k]'hkn).toNat : Int)==41)=true):=h41.2 e1;have hke : k=pl+1+al:=by omega
   subst hke;clear h40 h41 e1 h3 h4 h5;subst e3;go_wp2_with fail
   go_ret;exact⟨rfl,rfl⟩
  ·have x1 : ((((TX[k]'hkn).toNat : Int)==40)=false):=by
    rw [← Bool.not_eq_true,h40];exact e0
   have x2 : ((((TX[k]'hkn).toNat : Int)==41)=false):=by
    rw [← Bool.not_eq_true,h41];exact e1
   have HN : Hid (∃ q,k+1=pl+q∧q≤al+1∧o=ovB A q):=⟨q+1,by omega,by omega,e3.symm⟩
   clear h40 h41 e1 e2 e3 h3 h4 h5 e0;go_wp2_with fail
   try rw [z17 (by have:=HK.out; omega)]
   exact⟨⟨k+1,o,rfl,rfl,HN,trivial⟩,hstep⟩
end
end Go.Proofs.YtfbojelpdccjaaaGreatDoor
