import Derived.Maps.AppendAt
import Derived.Test.YtfbojelpdccjaaaGreatDoorPkB3
import Derived.Test.YtfbojelpdccjaaaGreatDoorPkB8
import Derived.Test.YtfbojelpdccjaaaGreatDoorPkB33
import Derived.Test.YtfbojelpdccjaaaGreatDoorPkB36
set_option maxHeartbeats 8000000
set_option maxRecDepth 100000
namespace Go.Proofs.YtfbojelpdccjaaaGreatDoor
open Go.RowKit Go.Deep
variable {a' : Act} {ls ls' : Array Bool} {c f n : Nat} {o : Oper} {t : Tr} {v : Value} {w : World}
section
open Go.RowKit Go.Deep
def DiesIf (D : List PanicEntry→World→Prop) (Q : Exit→Act→World→Prop) : Exit→Act→World→Prop
 | .panic c,a,w=>a.defers= []∧D c w
 | e,a,w=>Q e a w
section
variable {P : Program} {l0 : List Oper} {Q : Exit→Act→World→Prop} {S : World→Prop} {D : List PanicEntry→World→Prop}
theorem dies_begin {id : Nat} {a : Act} (hQ : ∀ c a w,a.defers= []→D c w→Q (.panic c) a w) (hm : P.follows .mixedOrders=true) (hn : l0.length=n) (hl : Array.replicate l0.length false=ls) (h : wpTill P l0.toArray (DiesIf D Q) S c (wpAny P .any l0.toArray (DiesIf D Q)) n ls a w.drew) : (Code.region id l0.toArray true).wp P Q a w:=by
 refine Code.wp_mono (Q:=DiesIf D Q) (fun e a w h=>?_) (wp_region_any hm ?_)
 ·cases e <;> first | exact h | exact hQ _ _ _ h.1 h.2
 ·subst hn;subst hl;have:=any_of_till _ _ _ _ h;simpa using this
theorem dies_op {k : Nat} {a : Act} (hls : ls=upTo l0.length k) (hk : k≤l0.length) (hsh : shutB l0 k=true) (hs : Region.noSelect l0.toArray=true) (ho : l0[k]? =some o) (hf : Region.free .any l0.toArray ls k=true) (hr : (Region.ready .any l0.toArray ls).contains k=true) (hc : waitsB l0.toArray 10 c k=true) (hkc : k≠c) (hl : ls.setIfInBounds k true=ls')
 (hw : Region.wanted o (yielded l0.toArray a.tmps)=true) (hy : ∀ w',S w'→(execOp a.eval o).run P w'= .ok (.value v) w') (hS : S w) (hput : a.put o.dst v=a') (hQ : ∀ c a w,DiesIf D Q (.panic c) (a.put o.dst v) w→DiesIf D Q (.panic c) a w) (h : wpTill P l0.toArray (DiesIf D Q) S c (wpAny P .any l0.toArray (DiesIf D Q)) n ls' a' w) : wpTill P l0.toArray (DiesIf D Q) S c (wpAny P .any l0.toArray (DiesIf D Q)) (n+1) ls a w:=by
 subst hl;subst hput;have ho' : l0.toArray[k]? =some o:=by simpa using ho
 exact till_first ho' hs hQ hc hkc n ls a w (hls ▸ shut_upTo hk hsh) (Region.free_spec ho' hf) (by simpa using hr) (Or.inl ⟨hw,hy⟩) hS h
theorem dies_make {i : Nat} {a : Act} {w1 : World} (ho : l0[i]? =some o) (hr : (Region.ready .any l0.toArray ls== [i])=true) (hic : i≠c) (hl : ls.setIfInBounds i true=ls')
 (hw : Region.wanted o (yielded l0.toArray a.tmps)=true) (hrun : (execOp a.eval o).run P w= .ok (.value v) w1) (hS : S w1) (hput : a.put o.dst v=a') (h : wpTill P l0.toArray (DiesIf D Q) S c (wpAny P .any l0.toArray (DiesIf D Q)) n ls' a' w1) : wpTill P l0.toArray (DiesIf D Q) S c (wpAny P .any l0.toArray (DiesIf D Q)) (n+1) ls a w:=by
 subst hl;subst hput;have ho' : l0.toArray[i]? =some o:=by simpa using ho
 have hr' : Region.ready .any l0.toArray ls= [i]:=by simpa using hr
 refine⟨by rw [hr']; simp,fun j hj=>?_⟩;rw [hr',List.mem_singleton] at hj;subst hj;rw [if_neg hic];unfold wpOp;rw [ho'];dsimp only;rw [if_pos hw];refine Or.inl ?_;unfold Oper.wp;rw [hrun];exact⟨hS,h⟩
theorem dies_enter {i : Nat} {f : FuncId} {args : Array Value} {a : Act} (ho : l0[i]? =some o) (hr : (Region.ready .any l0.toArray ls== [i])=true) (hic : i≠c) (hl : ls.setIfInBounds i true=ls') (hw : Region.wanted o (yielded l0.toArray a.tmps)=true)
 (hrun : (execOp a.eval o).run P w= .ok (.enter f args) w) (hd : a.defers= []) (h : Calls P f args w fun e w'=> (∃ v,e= .returned v∧S w'∧wpTill P l0.toArray (DiesIf D Q) S c (wpAny P .any l0.toArray (DiesIf D Q)) n ls' (a.put o.dst v) w')∨ ∃ c,e= .panicked c∧D c w') : wpTill P l0.toArray (DiesIf D Q) S c (wpAny P .any l0.toArray (DiesIf D Q)) (n+1) ls a w:=by
 subst hl;have ho' : l0.toArray[i]? =some o:=by simpa using ho
 have hr' : Region.ready .any l0.toArray ls= [i]:=by simpa using hr
 refine⟨by rw [hr']; simp,fun j hj=>?_⟩;rw [hr',List.mem_singleton] at hj;subst hj;rw [if_neg hic];unfold wpOp;rw [ho'];dsimp only;rw [if_pos hw];refine Or.inl ?_;unfold Oper.wp;rw [hrun];refine Calls.mono h ?_;rintro e w3 (⟨v,rfl,hS,hn⟩ | ⟨c,rfl,hc⟩)
 ·exact⟨hS,hn⟩
 ·exact⟨hd,hc⟩
theorem dies_frame {a : Act} {K : Nat→Array Bool→Act→World→Prop} (ha : a=a') (h : wpTill P l0.toArray (DiesIf D Q) S c K n ls a' w) : wpTill P l0.toArray (DiesIf D Q) S c K n ls a w:=by
 subst ha;exact h
theorem dies_last {a : Act} {w1 : World} (hd : o.dst=none) (ho : l0[c]? =some o) (hr : (Region.ready .any l0.toArray ls== [c])=true) (hl : ls.setIfInBounds c true=ls') (hw : Region.wanted o (yielded l0.toArray a.tmps)=true)
 (hrun : (execOp a.eval o).run P w= .ok .skip w1) (hr2 : (Region.ready .any l0.toArray ls').isEmpty=true) (h : Q .normal a w1) : wpTill P l0.toArray (DiesIf D Q) S c (wpAny P .any l0.toArray (DiesIf D Q)) (n+1) ls a w:=by
 subst hl;have ho' : l0.toArray[c]? =some o:=by simpa using ho
 have hr' : Region.ready .any l0.toArray ls= [c]:=by simpa using hr
 refine⟨by rw [hr']; simp,fun j hj=>?_⟩;rw [hr',List.mem_singleton] at hj;subst hj;rw [if_pos rfl];unfold wpOp;rw [ho'];dsimp only;rw [if_pos hw];refine Or.inl ?_;have hp : a.put o.dst undef=a:=by rw [hd]; rfl
 unfold Oper.wp;rw [hrun];show wpAny P .any l0.toArray (DiesIf D Q) n _ (a.put o.dst undef) w1;rw [hp];exact wpAny_of_held (S:=fun _=>True) _ _ _ _ (wpAnyH_done (Q:=DiesIf D Q) (by simpa using hr2) h n)
end
theorem wpList_append_run {P : Program} {ops : Array Oper} {rest : List Oper} {a : Act} {Q : Exit→Act→World→Prop} (hgd : o.guard=none) (s x : Operand) (t : TypeId)
 (ho : o.op= .call { callee:= .builtin .append,args:= #[s,x],argTypes:= #[t,t] }) (v xv : Value) (hs : a.eval s=v) (hx : a.eval x=xv) {v' : Value} {w' : World}
 (hr : (Builtin.append_ #[t,t] o.type #[v,xv]).run P w= .ok v' w') (h : wpList P ops Q rest (a.put o.dst v') w') :
 wpList P ops Q (o::rest) a w:=by
 refine wpList_plain hgd fun K hK=>?_
 unfold Oper.wp execOp;simp only [ho,resolve,invoke,builtin,Sem.run_bind,Sem.run_pure,Result.andThen_ok,List.map_toArray,List.map_cons,List.map_nil,hs,hx,hr];exact hK _ _ h
theorem FmAt.node1 {lo hi : Nat} {X : World} {n : Nd} {u : Value} (h : FmAt lo hi X t v) (hs : ∀ w,Shape lo w (n.with_ 1) [v] u) : FmAt lo hi X (mkT n [t]) u:=by
 obtain⟨W0,h1,h2,h3,h4⟩:=h;obtain⟨v',us,rest,e,g1,g2,g3⟩:=h1;obtain⟨rfl,rfl⟩ : v=v'∧rest= []:=by simp at e; exact e
 exact⟨W0,⟨u,[v],[],rfl,⟨v,us,[],rfl,g1,g2,rfl⟩,hs W0,rfl⟩,h2,h3,h4⟩
theorem bind_assoc {α β γ : Type} (p : PI α) (k : α→PI β) (m : β→PI γ) : bindI (bindI p k) m=bindI p (fun a=>bindI (k a) m):=by
 funext i
 unfold bindI
 cases p i with
 | error j=>rfl
 | ok r=>rfl
theorem pure_bindI {α β : Type} (a : α) (m : α→PI β) : bindI (pureI a) m=m a:=rfl
def opI' (ws : List Wd) (go : Nt Tr→PI Tr) : PI Tr:=bindI (nameI ws) fun a=>bindI (nameI ws) fun b=>bindI (nameI ws) fun c=>bindI (takeI ws gTo) fun _=>bindI (go .expr) fun e=>pureI (mkT (nd3 26 a b c) [e])
theorem ops_split (ws : List Wd) (go : Nt Tr→PI Tr) (k : Int) (ks : List Tr) : opsLI ws go k ks=orI ws gBar (bindI (opI' ws go) fun t=>go (.opsL k (ks++ [t]))) (bindI (takeI ws kEnd) fun _=>pureI (mkT (nd0 k) ks)):=by
 unfold opsLI opI';simp only [bind_assoc,pure_bindI]
section
variable {d : Dr} {ws : List Wd} {ad : Option Addr} {cp sz : Nat}
theorem iop_calls (hw : BriefW ws) (ho : WordsOk ws) (hc : PiAll d ws ad cp sz f) (i : Nat) (W : World) (h : RdAt d ws ad cp sz i W) (hm : mi ws 11 i≤f) :
 Calls Tryz.prog 158 #[.pointer (some ⟨d.B,0,none⟩)] W (PostT d ws ad cp sz (opI' ws (ipz ws f) i) W):=by
 obtain⟨R,hR⟩ : ∃ R,opI' ws (ipz ws f) i=R:=⟨_,rfl⟩
 rw [hR];have HR:=hid hR;have S:=hid (St.start h);have H:=hid (And.intro hw (And.intro ho hc));have M:=hid hm;have G:=hid (show i+0≤i from Nat.le_refl _);clear h hm hR hw ho hc;go_enter Tryz.func158,Tryz.ntmps158
 go_wp2_with fail
 refine (z41 _ _ S.out.rd).mono ?_;intro e X1 hp;rcases z22 hp with ⟨j,hq,rfl,hg⟩ | ⟨n1,i1,hq,rfl,hr,hg⟩
 ·exact⟨rfl,S.out.err (bi_er HR.out hq) hg⟩
 have G:=hid (show i+1≤i1 by have h1:=G.out; have h2:=name_on hq; omega);have S:=hid (S.out.go hr hg);have HR:=hid (bi_ok HR.out hq);clear hp hq hr hg;go_wp2_with fail
 have S:=hid (S.out.alloc #[.string n1,.string ⟨#[]⟩,.string ⟨#[]⟩,.nilIface] 181);try rw [show X1.heap.size+1=(X1.alloc (.cells #[.string n1,.string ⟨#[]⟩,.string ⟨#[]⟩,.nilIface] 181)).heap.size by simp]
 obtain⟨Y2,hY⟩ : ∃ y,X1.alloc (.cells #[.string n1,.string ⟨#[]⟩,.string ⟨#[]⟩,.nilIface] 181)=y:=⟨_,rfl⟩
 rw [hY] at S ⊢;obtain⟨g2,hg⟩ : ∃ g,X1.heap.size=g:=⟨_,rfl⟩
 rw [hg] at S ⊢;clear hY hg;refine (z41 _ _ S.out.rd).mono ?_;intro e X3 hp;rcases z22 hp with ⟨j,hq,rfl,hg⟩ | ⟨n3,i3,hq,rfl,hr,hg⟩
 ·exact⟨rfl,S.out.err (bi_er HR.out hq) hg⟩
 have G:=hid (show i+2≤i3 by have h1:=G.out; have h2:=name_on hq; omega);have S:=hid (S.out.go hr hg);have HR:=hid (bi_ok HR.out hq);clear hp hq hr hg;have b:=z8 S.out.box 1;have z:=z12 S.out.box 1;simp at b;go_wp2_with fail
 have S:=hid (S.out.put 1 (.string n3));try rw [put_size X3 g2 1 (.string n3)]
 obtain⟨Z4,hZ⟩ : ∃ Z,X3.setCell ⟨g2,1,none⟩ (.string n3)=Z:=⟨_,rfl⟩
 rw [hZ] at S ⊢;clear hZ b z;refine (z41 _ _ S.out.rd).mono ?_;intro e X5 hp;rcases z22 hp with ⟨j,hq,rfl,hg⟩ | ⟨n5,i5,hq,rfl,hr,hg⟩
 ·exact⟨rfl,S.out.err (bi_er HR.out hq) hg⟩
 have G:=hid (show i+3≤i5 by have h1:=G.out; have h2:=name_on hq; omega);have S:=hid (S.out.go hr hg);have HR:=hid (bi_ok HR.out hq);clear hp hq hr hg;have b:=z8 S.out.box 2;have z:=z12 S.out.box 2;simp at b;go_wp2_with fail
 have S:=hid (S.out.put 2 (.string n5));try rw [put_size X5 g2 2 (.string n5)]
 obtain⟨Z6,hZ⟩ : ∃ Z,X5.setCell ⟨g2,2,none⟩ (.string n5)=Z:=⟨_,rfl⟩
 rw [hZ] at S ⊢;clear hZ b z;refine (must1 _ S.out.rd (l1:=gTo) (by kernel_rfl) (by decide)).mono ?_;intro e X7 hp;rcases z22 hp with ⟨j,hq,rfl,hg⟩ | ⟨u,i7,hq,⟨v,rfl⟩,hr,hg⟩
 ·exact⟨rfl,S.out.err (m1_er HR.out hq) hg⟩
 have HQ:=m1_ok HR.out hq;have G:=hid (show i+4≤i7 by have h1:=G.out; have h2:=HQ.2; omega);have S:=hid (S.out.go hr hg);have HR:=hid HQ.1;clear hp hq hr hg HQ;go_wp2_with fail
 refine (H.out.2.2.expr _ _ S.out.rd (by have h1:=G.out; have h2:=M.out; have h3:=S.out.rd.lt; unfold mi at h2 ⊢; omega)).mono ?_;intro e X8 hp;rcases z22 hp with ⟨j,hq,rfl,hg⟩ | ⟨t8,i8,hq,⟨T8,p8,rfl,hf⟩,hr,hg⟩
 ·exact⟨rfl,S.out.err (bi_er HR.out hq) hg⟩
 have G:=hid (show i+4≤i8 by have h1:=G.out; have h2:=z31 H.out.1 H.out.2.1 f NtR.expr trivial S.out.rd.lt hq; omega);have S:=hid (S.out.form hr hg hf);have HR:=hid (bi_ok HR.out hq);clear hp hq hf hr hg;have b0:=z8 S.out.box 0;have b1:=z8 S.out.box 1;have b2:=z8 S.out.box 2;have b3:=z8 S.out.box 3;have z:=z12 S.out.box 3;simp at b0 b1 b2 b3;go_wp2_with fail
 have S:=hid (S.out.put 3 (.iface T8 p8));go_ret;exact S.out.fin HR.out (S.out.mk1 (.head _) .op)
theorem St.grown {W X X' : World} {bx : List (Nat×Array Value×TypeId)} {fs : List Fr} {i : Nat} (h : St d ws ad cp sz W bx fs i X) {row : Option Nat} (hg : X.grownBy X' row) (hr : ∀ g,row=some g→W.heap.size≤g∧(∀ b∈bx,b.1≠g)∧ ∀ x∈fs,g < x.lo∨x.hi≤g) : St d ws ad cp sz W bx fs i X':= by
 have hB:=h.hB;have hk : ∀ q,q < X.heap.size→(∀ g,row=some g→q≠g)→X'.heap[q]? =X.heap[q]? :=fun q hq hn=>hg.block q hq (fun e=>hn q e.symm rfl)
 have hgr : Grew d W X':= ⟨hg.os.trans h.gr.os,hg.tape.trans h.gr.tape,hg.output.trans h.gr.output,Nat.le_trans h.gr.size hg.size,fun q hq=>(hk q (Nat.lt_of_lt_of_le hq.1 h.gr.size) (fun g hg'=> by have:=(hr g hg').1; have:=hq.1; omega)).trans (h.gr.block q hq)⟩
 have hblk : X'.heap[d.B]? =X.heap[d.B]? :=hk d.B (z13 h.rd.blk) (fun g hg'=> by have:=(hr g hg').1; omega);refine⟨⟨hblk.trans h.rd.blk,h.rd.eq,h.rd.lt,h.rd.few,?_⟩,hgr,hB,h.wd,fun b hb=>?_,h.nd,fun x hx=>?_⟩
 ·rcases h.rd.words with h1 | ⟨b,off,cap,e,hn,rfl,hqb,hc⟩
  ·exact Or.inl h1
  ·refine Or.inr ⟨b,0,cap,e,hn,rfl,⟨Nat.lt_of_lt_of_le hqb.1 hg.size,hqb.2⟩,fun j hj=>?_⟩
   cases e;have hbW:=h.wd b rfl;rw [← hc j hj];exact World.cell?_of_block (hk b hqb.1 (fun g hg'=> by have:=(hr g hg').1; omega))
 ·obtain⟨h1,h2⟩:=h.bxs b hb;exact⟨(hk _ (z13 h1) (fun g hg'=> (hr g hg').2.1 b hb)).trans h1,h2⟩
 ·obtain⟨h1,h2,h3⟩:=h.fss x hx;have ht:=h1.top;exact⟨h1.keep (Nat.le_trans ht hg.size) (fun q hq hq'=> hk q (by omega) (fun g hg' e=>by have:=(hr g hg').2.2 x hx; omega)),h2,h3⟩
structure HSt (d : Dr) (ws : List Wd) (ad : Option Addr) (cp sz : Nat) (W : World) (gf : Nat) (kd : Int) (a : Fr) (l : List Fr) (cv : Value) (i : Nat) (X : World) : Prop where
 st : St d ws ad cp sz W [(gf,#[.int .i64 kd,a.v,cv],178)] (a::l) i X
 own : X.ownsRow W.heap.size 52 1 cv l.length (l.map Fr.v)
 off : ∀ g,cv.ownBlock=some g→g≠gf∧ ∀ x∈a::l,g < x.lo∨x.hi≤g
 few : l.length≤i
 ifc : ∀ x∈a::l,∃ T p,x.v= .iface T p
section
variable {W X X' : World} {gf i k : Nat} {kd : Int} {a : Fr} {l : List Fr} {cv : Value}
theorem HSt.go (h : HSt d ws ad cp sz W gf kd a l cv i X) (hr : RdAt d ws ad cp sz k X') (hg : Grew d X X') (hik : i≤k) : HSt d ws ad cp sz W gf kd a l cv k X':= by
 have hB:=h.st.hB;exact⟨h.st.go hr hg,y_same h.own (fun g hg'=> hg.block g ⟨(h.own.lt g hg').2,by have:=(h.own.lt g hg').1; omega,by rw [hr.eq]; have:=(h.own.lt g hg').1; omega⟩),h.off,Nat.le_trans h.few hik,h.ifc⟩
theorem HSt.more (h : HSt d ws ad cp sz W gf kd a l cv i X) {lo hi : Nat} {T : TypeId} {p : Value} (hf : FmAt lo hi X t (.iface T p)) (hlo : W.heap.size≤lo) (hgf : gf < lo∨hi≤gf) (hro : ∀ g,cv.ownBlock=some g→g < lo∨hi≤g) (hl : l.length+1≤i) {cv' : Value} {Z : World} (ho : Z.ownsRow W.heap.size 52 1 cv' (l.length+1) (l.map Fr.v++ [.iface T p])) (hgw : (X.alloc (.cells #[.iface T p] 52)).grownBy Z cv.ownBlock) (hb : cv'.ownBlock=cv.ownBlock∨cv'.ownBlock=some (X.alloc (.cells #[.iface T p] 52)).heap.size) :
 HSt d ws ad cp sz W gf kd a (l++ [⟨lo,hi,t,.iface T p⟩]) cv' i (Z.setCell ⟨gf,2,none⟩ cv'):=by
 have hbl : Below X.heap.size X (X.alloc (.cells #[.iface T p] 52)):=(Below.refl _ _).alloc (Nat.le_refl _) _;have hsz : (X.alloc (.cells #[.iface T p] 52)).heap.size=X.heap.size+1:=by simp
 have h1:=h.st.below hbl;have hft:=hf.top;have hfs : ∀ x∈a::(l++ [(⟨lo,hi,t,.iface T p⟩ : Fr)]),FmAt x.lo x.hi (X.alloc (.cells #[.iface T p] 52)) x.t x.v∧W.heap.size≤x.lo∧ ∀ b∈ [(gf,#[.int .i64 kd,a.v,cv],178)],b.1 < x.lo∨x.hi≤b.1:=fun x hx=>by
  rw [← List.cons_append,List.mem_append] at hx;rcases hx with hx | hx
  ·exact h1.fss x hx
  ·simp at hx;subst hx;exact⟨hf.keep (by rw [hsz]; omega) (fun q _ hq'=> hbl.block q (by omega)),hlo,fun b hb=>by simp at hb; subst hb; exact hgf⟩
 have h2 : St d ws ad cp sz W [(gf,#[.int .i64 kd,a.v,cv],178)] (a::(l++ [(⟨lo,hi,t,.iface T p⟩ : Fr)])) i (X.alloc (.cells #[.iface T p] 52)):=⟨h1.rd,h1.gr,h1.hB,h1.wd,h1.bxs,h1.nd,hfs⟩
 have hoffA : ∀ g,cv.ownBlock=some g→g≠gf∧ ∀ x∈a::(l++ [(⟨lo,hi,t,.iface T p⟩ : Fr)]),g < x.lo∨x.hi≤g:=fun g hg=>by
  refine⟨(h.off g hg).1,fun x hx=>?_⟩;rw [← List.cons_append,List.mem_append] at hx;rcases hx with hx | hx
  ·exact (h.off g hg).2 x hx
  ·simp at hx;subst hx;exact hro g hg
 have h3:=(h2.grown hgw (fun g hg=>⟨(h.own.lt g hg).1,fun b hb=>by simp at hb; subst hb; exact fun e=>(hoffA g hg).1 e.symm,(hoffA g hg).2⟩)).put 2 cv';have hgfl:=z13 (h.st.box);have hne : ∀ g,cv'.ownBlock=some g→g≠gf∧ ∀ x∈a::(l++ [(⟨lo,hi,t,.iface T p⟩ : Fr)]),g < x.lo∨x.hi≤g:=fun g hg=>by
  rcases hb with hb | hb
  ·exact hoffA g (hb.symm.trans hg)
  ·rw [hb,hsz] at hg
   cases hg;refine⟨by omega,fun x hx=>Or.inr ?_⟩;rw [← List.cons_append,List.mem_append] at hx;rcases hx with hx | hx
   ·have:=(h.st.fss x hx).1.top;omega
   ·simp at hx;subst hx;dsimp only;omega
 refine⟨h3,?_,hne,by rw [List.length_append]; exact hl,fun x hx=>?_⟩
 ·rw [List.length_append,List.map_append];exact y_same ho (fun g hg=>Below.heap_setCell Z ⟨gf,2,none⟩ cv' g (hne g hg).1)
 ·rw [← List.cons_append,List.mem_append] at hx;rcases hx with hx | hx
  ·exact h.ifc x hx
  ·simp at hx;subst hx;exact⟨T,p,rfl⟩
theorem form_info : ∃ i,Tryz.prog.info? 52=some i∧i.zero=some .nilIface∧i.size=1∧i.bytes=16:=by
 obtain⟨i0,h1,h2,h3,h4⟩:=info_parts info_form;exact⟨i0,h1,h2,h3,h4⟩
theorem form_append {B : Nat} {xs : List Value} (h : X.ownsRow B 52 1 cv n xs) (T : TypeId) (p : Value) (hB : B≤X.heap.size) (hn : n≤2000) :
 ∃ cv' Z,(Builtin.append_ #[100,100] 100 #[cv,.slice (some ⟨X.heap.size,0,none⟩) 1 1]).run Tryz.prog (X.alloc (.cells #[.iface T p] 52))= .ok cv' Z∧Z.ownsRow B 52 1 cv' (n+1) (xs++ [.iface T p])∧(X.alloc (.cells #[.iface T p] 52)).grownBy Z cv.ownBlock∧(cv'.ownBlock=cv.ownBlock∨cv'.ownBlock=some (X.alloc (.cells #[.iface T p] 52)).heap.size):=by
 obtain⟨i0,h1,h2,h3,h4⟩:=form_info;have hbl : Below X.heap.size X (X.alloc (.cells #[.iface T p] 52)):=(Below.refl _ _).alloc (Nat.le_refl _) _;have ho:=z30 h hbl;have hc:=(MapKept.heap_alloc X (.cells #[.iface T p] 52)).1;obtain⟨v',w',hr,g2,g3,-,g5⟩:=run_append_own_at (P:=Tryz.prog) (X.alloc (.cells #[.iface T p] 52)) B 100 100 52 i0 .nilIface 1 16 Tryz.underlying100 h1 h2 h3 h4 rfl (by decide) cv n xs ho ⟨X.heap.size,0,none⟩ 1 1 [.iface T p] rfl (fun j u hj=>by
  have hj0 : j=0:=by
   rcases j with _ | j
   ·rfl
   ·simp at hj
  subst hj0;simp at hj;subst hj;rw [WideShapes.add_plain];exact z8 hc 0) (fun u hu=>by simp at hu; subst hu; rfl) (by unfold maxLen; omega) (by omega) (by have:=hbl.size; omega)
 exact⟨v',w',hr,g2,g3,g5⟩
end
theorem op_goes (hw : BriefW ws) (ho : WordsOk ws) {i k : Nat} (h : opI' ws (ipz ws f) i= .ok (t,k)) : i+1≤k:=by
 have hn : ∀ {i k : Nat} {n : ByteArray},nameI ws i= .ok (n,k)→k=i+1∧k≤ws.length:=fun {i k n} h1=>by
  have h2:=name_on h1;unfold nameI at h1;split at h1
  ·rename_i hc;have:=hc.1;exact⟨h2,by omega⟩
  ·cases h1
 unfold opI' at h
 cases h1 : nameI ws i with
 | error e=>exact absurd (bi_er h h1) (by simp)
 | ok r=>
   obtain⟨a,b⟩:=r;have h:=bi_ok h h1
   cases h2 : nameI ws b with
   | error e=>exact absurd (bi_er h h2) (by simp)
   | ok r=>
     obtain⟨a2,b2⟩:=r;have h:=bi_ok h h2
     cases h3 : nameI ws b2 with
     | error e=>exact absurd (bi_er h h3) (by simp)
     | ok r=>
       obtain⟨a3,b3⟩:=r;have h:=bi_ok h h3
       cases h4 : takeI ws gTo b3 with
       | error e=>exact absurd (bi_er h h4) (by simp)
       | ok r=>
         obtain⟨a4,b4⟩:=r;have h:=bi_ok h h4;have e4:=taken_on h4;have e1:=hn h1;have e2:=hn h2;have e3:=hn h3;have h5 : b4≤ws.length:=by
          unfold takeI seesI at h4;split at h4
          ·rename_i hc;simp at hc;omega
          ·cases h4
         cases h6 : ipz ws f .expr b4 with
         | error e=>exact absurd (bi_er h h6) (by simp)
         | ok r=>
           obtain⟨a6,b6⟩:=r;have h:=bi_ok h h6;have h7:=z31 hw ho f NtR.expr trivial h5 h6;simp only [pureI,Except.ok.injEq,Prod.mk.injEq] at h;omega
def LoopC (d : Dr) (ws : List Wd) (ad : Option Addr) (cp sz f : Nat) (gf : Nat) (kd : Int) (a : Fr) (R : Except Nat (Tr×Nat)) (W wr : World) : Prop:=
 ∃ (l : List Fr) (cv : Value) (g k : Nat),HSt d ws ad cp sz W gf kd a l cv k wr∧l≠ []∧ipz ws g (.opsL kd (a.t::l.map Fr.t)) k=R∧mi ws 11 k≤g∧g≤f
theorem ihand_calls (hw : BriefW ws) (ho : WordsOk ws) (ha : ∀ g,g≤f→PiAll d ws ad cp sz g) (i : Nat) (W : World) (h : RdAt d ws ad cp sz i W) (hm : mi ws 12 i≤f+1) (kd : Int) (hkd : kd=23∨kd=24) :
 Calls Tryz.prog 156 #[.pointer (some ⟨d.B,0,none⟩),.int .i64 kd] W (PostT d ws ad cp sz (ipz ws (f+1) (.hand kd) i) W):=by
 obtain⟨R,hR⟩ : ∃ R,ipz ws (f+1) (.hand kd) i=R:=⟨_,rfl⟩
 rw [hR];have HR:=hid (show handI ws (ipz ws f) kd i=R from hR);have S:=hid (St.start h);have H:=hid (And.intro hw (And.intro ho (ha f (Nat.le_refl f))));have M:=hid hm;have G:=hid (show i+0≤i from Nat.le_refl _);have HA:=hid ha;have HK:=hid hkd;clear h hm hR hw ho ha hkd;go_enter Tryz.func156,Tryz.ntmps156
 go_wp2_with fail
 refine (H.out.2.2.expr _ _ S.out.rd (by have h1:=G.out; have h2:=M.out; have h3:=S.out.rd.lt; unfold mi at h2 ⊢; omega)).mono ?_;intro e X1 hp;rcases z22 hp with ⟨j,hq,rfl,hg⟩ | ⟨t1,i1,hq,⟨T1,p1,rfl,hf⟩,hr,hg⟩
 ·exact⟨rfl,S.out.err (bi_er HR.out hq) hg⟩
 have G:=hid (show i+0≤i1 by have h1:=G.out; have h2:=z31 H.out.1 H.out.2.1 f NtR.expr trivial S.out.rd.lt hq; omega);have S:=hid (S.out.form hr hg hf);have HR:=hid (bi_ok HR.out hq);clear hp hq hf hr hg;go_wp2_with fail
 have S:=hid (S.out.alloc #[.int .i64 kd,.iface T1 p1,.slice none 0 0] 178);try rw [show X1.heap.size+1=(X1.alloc (.cells #[.int .i64 kd,.iface T1 p1,.slice none 0 0] 178)).heap.size by simp]
 obtain⟨Y2,hY⟩ : ∃ y,X1.alloc (.cells #[.int .i64 kd,.iface T1 p1,.slice none 0 0] 178)=y:=⟨_,rfl⟩
 rw [hY] at S ⊢;obtain⟨g2,hg⟩ : ∃ g,X1.heap.size=g:=⟨_,rfl⟩
 rw [hg] at S ⊢;clear hY hg;refine (must2 _ _ S.out.rd (l1:=kWith) (l2:=kRet) (by kernel_rfl) (by decide) (by kernel_rfl) (by decide)).mono ?_;intro e X3 hp;rcases z22 hp with ⟨j,hq,rfl,hg⟩ | ⟨u,i3,hq,⟨v,rfl⟩,hr,hg⟩
 ·exact⟨rfl,S.out.err (m2_er HR.out hq) hg⟩
 have HQ:=m2_ok HR.out hq;have G:=hid (show i+2≤i3 by have h1:=G.out; have h2:=HQ.2; omega);have S:=hid (S.out.go hr hg);have HR:=hid HQ.1;clear hp hq hr hg HQ;go_wp2_with fail
 refine (z41 _ _ S.out.rd).mono ?_;intro e X4 hp;rcases z22 hp with ⟨j,hq,rfl,hg⟩ | ⟨n4,i4,hq,rfl,hr,hg⟩
 ·exact⟨rfl,S.out.err (bi_er HR.out hq) hg⟩
 have G:=hid (show i+3≤i4 by have h1:=G.out; have h2:=name_on hq; omega);have S:=hid (S.out.go hr hg);have HR:=hid (bi_ok HR.out hq);clear hp hq hr hg;go_wp2_with fail
 have S:=hid (S.out.alloc #[.string n4,.nilIface] 179);try rw [show X4.heap.size+1=(X4.alloc (.cells #[.string n4,.nilIface] 179)).heap.size by simp]
 obtain⟨Y5,hY⟩ : ∃ y,X4.alloc (.cells #[.string n4,.nilIface] 179)=y:=⟨_,rfl⟩
 rw [hY] at S ⊢;obtain⟨g5,hg⟩ : ∃ g,X4.heap.size=g:=⟨_,rfl⟩
 rw [hg] at S ⊢;clear hY hg;refine (must1 _ S.out.rd (l1:=gTo) (by kernel_rfl) (by decide)).mono ?_;intro e X6 hp;rcases z22 hp with ⟨j,hq,rfl,hg⟩ | ⟨u,i6,hq,⟨v,rfl⟩,hr,hg⟩
 ·exact⟨rfl,S.out.err (m1_er HR.out hq) hg⟩
 have HQ:=m1_ok HR.out hq;have G:=hid (show i+4≤i6 by have h1:=G.out; have h2:=HQ.2; omega);have S:=hid (S.out.go hr hg);have HR:=hid HQ.1;clear hp hq hr hg HQ;go_wp2_with fail
 refine (H.out.2.2.expr _ _ S.out.rd (by have h1:=G.out; have h2:=M.out; have h3:=S.out.rd.lt; unfold mi at h2 ⊢; omega)).mono ?_;intro e X7 hp;rcases z22 hp with ⟨j,hq,rfl,hg⟩ | ⟨t7,i7,hq,⟨T7,p7,rfl,hf⟩,hr,hg⟩
 ·exact⟨rfl,S.out.err (bi_er HR.out hq) hg⟩
 have G:=hid (show i+4≤i7 by have h1:=G.out; have h2:=z31 H.out.1 H.out.2.1 f NtR.expr trivial S.out.rd.lt hq; omega);have S:=hid (S.out.form hr hg hf);have HR:=hid (bi_ok HR.out hq);clear hp hq hf hr hg;have hb2:=S.out.box;have hb1:=S.out.drop.box;have hne : g2≠g5:=fun e=>by
  subst e;have:=S.out.nd;simp at this
 have r0:=z8 hb2 0;have r1:=z8 hb2 1;have c2:=z8 hb1 2;have zr:=z12 hb2 1;simp at r0 r1 c2;clear hb1 hb2;go_upto_region 6 with fail
 have S:=hid (S.out.put 1 (.iface T7 p7));obtain⟨Z,hZ⟩ : ∃ Z,X7.setCell ⟨g5,1,none⟩ (.iface T7 p7)=Z:=⟨_,rfl⟩
 rw [hZ] at S ⊢;clear hZ r0 r1 c2 zr;have hbx2:=S.out.box;have hbx1:=S.out.drop.box;have r0:=z8 hbx2 0;have r1:=z8 hbx2 1;have c2:=z8 hbx1 2;simp at r0 r1 c2;have hf1:=S.out.fss _ (.tail _ (.head _));have hf2:=S.out.fss _ (.head _);have hsf : St d ws ad cp sz W [(g2,#[.int .i64 kd,.iface T1 p1,.slice none 0 0],178)] [⟨_,_,t1,.iface T1 p1⟩] i7 Z:=⟨S.out.rd,S.out.gr,S.out.hB,S.out.wd,S.out.drop.bxs,S.out.drop.nd,fun x hx=>by simp at hx; subst hx; exact⟨hf1.1,hf1.2.1,fun b hb=>hf1.2.2 b (List.mem_cons_of_mem _ hb)⟩⟩
 have hH0 : HSt d ws ad cp sz W g2 kd ⟨_,_,t1,.iface T1 p1⟩ [] (.slice none 0 0) i7 Z:=⟨hsf,⟨rfl,Or.inl ⟨rfl,rfl⟩⟩,fun g hg=>(by cases hg),Nat.zero_le _,fun x hx=>(by simp at hx; subst hx; exact⟨_,_,rfl⟩)⟩
 have hnode:=hf2.1.node1 (n:=nd1 25 n4) (u:= .iface 179 (.agg #[.string n4,.iface T7 p7])) (fun w=> .ret);obtain⟨cv,Y,hrun,hown,hgw,hblk⟩:=form_append hH0.own 179 (.agg #[.string n4,.iface T7 p7]) S.out.gr.size (Nat.zero_le _);have hM:=hH0.more hnode hf2.2.1 (hf2.2.2 _ (.tail _ (.head _))) (fun g hg=>(by cases hg)) (by have h1:=G.out; simp; omega) hown hgw hblk
 have hbY : Y.heap[g2]? =some (.cells #[.int .i64 kd,.iface T1 p1,.slice none 0 0] 178):=(hgw.block g2 (by have:=z13 hbx1; simp; omega) (by simp [Value.ownBlock])).trans (((Below.refl _ _).alloc (Nat.le_refl _) _ : Below Z.heap.size Z _).block _ (z13 hbx1) |>.trans hbx1);obtain⟨av,cpv,nv,hcv⟩ : ∃ av cpv nv,cv= .slice av nv cpv:=by
  obtain⟨x,y,z⟩:=y_is hown;exact⟨x,y,_,z⟩
 subst hcv;have HM:=hid hM;have HRun:=hid hrun;have HY:=hid hbY;have HIf:=hid hH0.ifc;clear hf1 hf2 hsf hH0 hnode hown hgw hblk hM hrun hbY hbx1 hbx2;have HR:=hid HR.out;go_wp2_with (at_builtin; refine wpList_append_run rfl _ _ 100 rfl _ _ rfl rfl HRun.out ?_; have c2:=z8 HY.out 2; have z2:=z12 HY.out 2; simp at c2)
 have hex : ∃ (fa : Fr) (l : List Fr),HSt d ws ad cp sz W g2 kd fa l (.slice av nv cpv) i7 (Y.setCell ⟨g2,2,none⟩ (.slice av nv cpv))∧fa.v= .iface T1 p1∧fa.t=t1∧l≠ []∧l.map Fr.t= [mkT (nd1 25 n4) [t7]]:=⟨_,_,HM.out,rfl,rfl,by simp,rfl⟩
 obtain⟨fa,l0,hH,hfv,hft,hl0,hlt⟩:=hex;have HM:=hid hH;have HFv:=hid (And.intro hfv (And.intro hft (And.intro hl0 hlt)));obtain⟨Y0,hY0⟩ : ∃ Y0,Y.setCell ⟨g2,2,none⟩ (.slice av nv cpv)=Y0:=⟨_,rfl⟩
 rw [hY0] at HM ⊢;clear hH hfv hft hl0 hlt hY0 c2 z2 HRun HY r0 r1;go_loopw [] (fun wr=>Hid (LoopC d ws ad cp sz f g2 kd fa R W wr)) (fun wr=>ws.length - posOf d wr)
 case atStart=>exact hid ⟨l0,_,f,i7,HM.out,HFv.out.2.2.1,by rw [HFv.out.2.1,HFv.out.2.2.2]; exact HR.out,(by have h1:=G.out; have h2:=M.out; have h3:=S.out.rd.lt; unfold mi at h2 ⊢; omega),Nat.le_refl _⟩
 case round=>
  obtain⟨l,cl,g,k,hS,hl,hF,hm,hg⟩:=hrel.out;clear hrel;obtain⟨g,rfl⟩ : ∃ x,g=x+1:=⟨g - 1,by unfold mi at hm; omega⟩
  have HS:=hid hS;have HL:=hid hl;have HR:=hid (show opsLI ws (ipz ws g) kd (fa.t::l.map Fr.t) k=R from hF);have HR:=hid ((congrFun (ops_split ws (ipz ws g) kd (fa.t::l.map Fr.t)) k).symm.trans HR.out);have M:=hid hm;have HG:=hid hg;have HP:=hid (rd_pos hS.st.rd);have H:=hid (And.intro H.out.1 (And.intro H.out.2.1 (HA.out g (by omega))));obtain⟨acl,ncl,hcl⟩:=y_is hS.own;subst hcl;clear hS hl hF hm hg;go_wp2_with fail
  by_cases z : seesI ws k gBar=true
  ·refine (z37 HS.out.st.rd (by kernel_rfl) (by decide) z).mono ?_;rintro e X1 ⟨rfl,hr,hg⟩;have HR:=hid (oi_t HR.out z);have HS:=hid (HS.out.go hr hg (Nat.le_succ _));clear hr hg z;go_wp2_with fail
   have hD : Below X1.heap.size X1 X1.drew:=(Below.refl _ _).drew;have HS:=hid (HS.out.go (HS.out.st.rd.below hD) (Grew.of_below hD) (Nat.le_refl _));have hS2:=z8 HS.out.st.box 2;simp at hS2;have hgfl:=z13 HS.out.st.box;refine dies_begin (S:=fun w'=> w'.cell? ⟨g2,2,none⟩=some (.slice acl l.length ncl)) (c:=7) (D:=fun c w=>PostT d ws ad cp sz R W (.panicked c) w) (fun c a w h1 h2=>⟨h1,h2⟩) (by kernel_rfl) rfl rfl ?_;obtain⟨Xd,hXd⟩ : ∃ Y,X1.drew=Y:=⟨_,rfl⟩
   rw [hXd] at HS hgfl ⊢;have hS2 : Xd.cell? ⟨g2,2,none⟩=some (.slice acl l.length ncl):=by rw [← hXd]; exact hS2
   clear hD hXd;refine dies_op (k:=0) (v:= .pointer (some ⟨g2,2,none⟩)) (by kernel_rfl) (by decide) (by kernel_rfl) (by kernel_rfl) rfl (by kernel_rfl) (by kernel_rfl) (by kernel_rfl) (by decide) rfl rfl (fun w' _=>by simp [go_sem]) hS2 (by simp [go_sem]; exact rfl) (fun c a w h=>h) ?_;refine dies_op (k:=1) (v:= .slice acl l.length ncl) (by kernel_rfl) (by decide) (by kernel_rfl) (by kernel_rfl) rfl (by kernel_rfl) (by kernel_rfl) (by kernel_rfl) (by decide) rfl rfl (fun w' h=>by simp [go_sem,h]) hS2 (by simp [go_sem]; exact rfl) (fun c a w h=>h) ?_
   refine dies_op (k:=2) (v:= .pointer (some ⟨d.B,0,none⟩)) (by kernel_rfl) (by decide) (by kernel_rfl) (by kernel_rfl) rfl (by kernel_rfl) (by kernel_rfl) (by kernel_rfl) (by decide) rfl rfl (fun w' _=>by simp [go_sem]) hS2 (by simp [go_sem]; exact rfl) (fun c a w h=>h) ?_;refine dies_enter (i:=3) (f:=158) (args:= #[.pointer (some ⟨d.B,0,none⟩)]) rfl (by kernel_rfl) (by decide) rfl rfl (by simp [go_sem]) rfl ?_;refine (iop_calls H.out.1 H.out.2.1 H.out.2.2 _ _ HS.out.st.rd (by have h2:=M.out; have h3:=HS.out.st.rd.lt; unfold mi at h2 ⊢; omega)).mono ?_;intro e X2 hp
   rcases z22 hp with ⟨j,hq,rfl,hg⟩ | ⟨t2,k2,hq,⟨T2,p2,rfl,hf⟩,hr,hg⟩
   ·exact Or.inr ⟨_,rfl,HS.out.st.err (bi_er HR.out hq) hg⟩
   have hk2:=op_goes H.out.1 H.out.2.1 hq;have HR:=hid (bi_ok HR.out hq);have HS2:=HS.out.go hr hg (by omega);obtain⟨cv,Z,hrun,hown,hgw,hblk⟩:=form_append HS2.own T2 p2 HS2.st.gr.size (by have h1:=HS2.few; have h2:=HS2.st.rd.lt; have h3:=HS2.st.rd.few; omega);have hM:=HS2.more hf HS.out.st.gr.size (Or.inl hgfl) (fun g hg=>Or.inl (HS.out.own.lt g hg).2) (by have h1:=HS.out.few; omega) hown hgw hblk;have hb2:=HS2.st.box;have hbA:=(((Below.refl _ _).alloc (Nat.le_refl _) (.cells #[.iface T2 p2] 52) : Below X2.heap.size X2 _).block _ (z13 hb2)).trans hb2
   have hbZ:=(hgw.block g2 (z13 hbA) (fun e=>(HS2.off g2 e.symm).1 rfl)).trans hbA;obtain⟨av,cpv,nv,hcv⟩ : ∃ av cpv nv,cv= .slice av nv cpv:=by
    obtain⟨x,y,z⟩:=y_is hown;exact⟨x,y,_,z⟩
   subst hcv;have cA:=z8 hbA 2;have cZ:=z8 hbZ 2;have c2:=z8 hb2 2;have zZ:=z12 hbZ 2;simp at cZ c2;refine Or.inl ⟨_,rfl,c2,?_⟩;refine dies_frame (by simp [go_sem]; exact rfl) ?_;refine dies_make (i:=4) (v:= .slice (some ⟨X2.heap.size,0,none⟩) 1 1) (w1:=X2.alloc (.cells #[.iface T2 p2] 52)) rfl (by kernel_rfl) (by decide) rfl rfl (by simp [go_sem]) cA (by simp [go_sem]; exact rfl) ?_;refine dies_make (i:=5) (v:= .slice av nv cpv) (w1:=Z) rfl (by kernel_rfl) (by decide) rfl rfl (append_runN (s:= .tmp 33) (x:= .tmp 36) (t:=100) rfl rfl rfl hrun) cZ (by simp [go_sem]; exact rfl) ?_
   refine dies_make (i:=6) (v:= .pointer (some ⟨g2,2,none⟩)) (w1:=Z) rfl (by kernel_rfl) (by decide) rfl rfl (by simp [go_sem]) cZ (by simp [go_sem]; exact rfl) ?_;refine dies_last (w1:=Z.setCell ⟨g2,2,none⟩ (.slice av nv cpv)) rfl rfl (by kernel_rfl) rfl rfl (by simp [go_sem,cZ,zZ]) (by kernel_rfl) ?_;have HM:=hid hM;have HK2:=hid hk2;have HP2:=hid (rd_pos hM.st.rd);obtain⟨Y9,hY9⟩ : ∃ Y9,Z.setCell ⟨g2,2,none⟩ (.slice av nv cpv)=Y9:=⟨_,rfl⟩
   rw [hY9] at HM HP2 ⊢;clear hM hk2 hY9 cA cZ c2 zZ hbA hbZ hb2 hrun hown hgw hblk HS2 hf hr hg hq hp hgfl hS2;go_wp2_with fail
   exact⟨hid ⟨_,_,g,k2,HM.out,by simp,by rw [List.map_append]; exact HR.out,(by have h1:=HK2.out; have h2:=M.out; have h3:=HM.out.st.rd.lt; unfold mi at h2 ⊢; omega),(by have:=HG.out; omega)⟩,by
    rw [HP.out,HP2.out];have h1:=HK2.out;have h2:=HM.out.st.rd.lt;omega⟩
  ·refine (z34 (l:=gBar) HS.out.st.rd (by kernel_rfl) (by decide) (by simpa using z)).mono ?_;rintro e X1 ⟨rfl,hr,hg⟩;have HR:=hid (oi_f HR.out (by simpa using z));have HS:=hid (HS.out.go hr hg (Nat.le_refl _));clear hr hg z;go_wp2_with fail
   refine (must1 _ HS.out.st.rd (l1:=kEnd) (by kernel_rfl) (by decide)).mono ?_;intro e X2 hp;rcases z22 hp with ⟨j,hq,rfl,hg⟩ | ⟨u,k2,hq,⟨v,rfl⟩,hr,hg⟩
   ·exact⟨rfl,HS.out.st.err (m1_er HR.out hq) hg⟩
   have HQ:=m1_ok HR.out hq;have HS:=hid (HS.out.go hr hg (by have h1:=HQ.2; omega));have HR:=hid HQ.1;clear hp hq hr hg HQ;obtain⟨b0,b1,b2⟩:=fcl3 HS.out.st.box;rw [HFv.out.1] at b1;go_wp2_with fail
   go_ret;have hlen : l.length≤1500:=by have h1:=HS.out.few; have h2:=HS.out.st.rd.lt; have h3:=HS.out.st.rd.few; omega
   have hrow : RowAt W.heap.size X2 (.slice acl l.length ncl) (l.map Fr.v):=by
    rcases sliceOf_own HS.out.own (Nat.le_refl _) with ⟨h0,-⟩ | h0
    ·exact absurd (List.map_eq_nil_iff.1 h0) HL.out
    ·exact h0
   have hsh : Shape W.heap.size X2 ((nd0 kd).with_ ((fa::l).map Fr.t).length) ((fa::l).map Fr.v) (.iface 178 (.agg #[.int .i64 kd,.iface T1 p1,.slice acl l.length ncl])):=by
    rw [← HFv.out.1];exact .handler HK.out hrow (by rw [List.length_map]; exact hlen)
   exact HS.out.st.fin HR.out (HS.out.st.node (fa::l) (fun x hx=>hx) hsh)
end
end
end Go.Proofs.YtfbojelpdccjaaaGreatDoor
