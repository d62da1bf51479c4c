import Derived.Tactics
import Derived.Tactics2
import Derived.Defers
import Derived.Recover
import Derived.Laws.Pointers
import Derived.Test.YtfbojelpdccjaaaGreatDoorPkB33
import Derived.Test.YtfbojelpdccjaaaGreatDoorPkB39
import Derived.Test.YtfbojelpdccjaaaGreatDoorPkB3
import Derived.Test.YtfbojelpdccjaaaGreatDoorPkB1
set_option maxHeartbeats 8000000
set_option maxRecDepth 100000
namespace Go.Proofs.YtfbojelpdccjaaaGreatDoor
open Go.RowKit Go.Deep
variable {x : ByteArray} {es : List Ef} {i j k : Nat} {n : Nd} {a : Tr} {v : Value}
section
open Go.RowKit Go.Deep
theorem fault_is (a b : Value) (w : World) : (Instr.typeAssert (.iface 31 (.agg #[a,b])) 20 31 false).run Tryz.prog w= .ok (.agg #[a,b]) w:=by kernel_rfl
theorem catch_fault (g : Nat) (a b : Int) (x y : Value) (w : World) (hb : w.heap[g]? =some (.cells #[x,y] 31)) :
 CallsD Tryz.prog 54 #[.pointer (some ⟨g,0,none⟩)] (.panicking [{ v:= .iface 31 (.agg #[.int .i64 a,.int .i64 b]),recovered:=false }]) w fun e u' w'=>
  e= .returned (.tuple #[])∧u'= .panicking [{ v:= .iface 31 (.agg #[.int .i64 a,.int .i64 b]),recovered:=true }]∧w'= (w.setCell ⟨g,0,none⟩ (.int .i64 a)).setCell ⟨g,1,none⟩ (.int .i64 b):=by
 have c0:=z8 hb 0;have c1:=z8 hb 1;obtain⟨z0,z1⟩:=ffz2 hb;have hf:=fault_is (.int .i64 a) (.int .i64 b);simp at c0 c1;refine callsD_of_wpS Tryz.func54 rfl fun c₀ cs hu=>?_
 apply wpS_seq;apply wpS_region;simp [wpOpsS,go_sem,recoverD,hu,Tryz.ntmps54,Exit.thenS];apply wpS_seq;apply wpS_region;simp [wpOpsS,go_sem,Exit.thenS];refine wpS_cond (t:=true) (by simp [Act.eval,Array.replicate]) ?_;simp only [if_true];refine wpS_of_wp ?_;go_wp2_with fail
 simp [bodyPostS,results,Tryz.results54]
theorem catch_none (g : Nat) (w : World) :
 CallsD Tryz.prog 54 #[.pointer (some ⟨g,0,none⟩)] .returning w fun e u' w'=> e= .returned (.tuple #[])∧u'= .returning∧w'= w:=by
 refine callsD_of_wpS Tryz.func54 rfl fun c₀ cs hu=>?_
 apply wpS_seq;apply wpS_region;simp [wpOpsS,go_sem,recoverD,hu,Tryz.ntmps54,Exit.thenS];apply wpS_seq;apply wpS_region;simp [wpOpsS,go_sem,Exit.thenS];refine wpS_cond (t:=false) (by simp [Act.eval,Array.replicate]) ?_;simp only [Bool.false_eq_true,if_false];refine wpS_of_wp (wp_skip ?_)
 cases c₀;simp_all [bodyPostS,results,Tryz.results54]
def leftI (ws : List Wd) : Except Nat (List Ef×Tr):=match wholeI ws with
 | .error j=> .error j
 | .ok r=>if r.2 < ws.length then .error r.2 else .ok r.1
def ReadPost (ws : List Wd) (sz : Nat) (W : World) (r : Except Nat (List Ef×Tr)) (e : Ending) (W' : World) : Prop:=match r with
 | .error j=> ∃ v1 v2,e= .returned (.tuple #[v1,v2,faultV ws sz j])∧Below W.heap.size W W'
 | .ok x=> ∃ ve T p lo hi,e= .returned (.tuple #[ve,.iface T p,.agg #[.int .i64 0,.int .i64 0]])∧W'.ownsRow W.heap.size 45 3 ve x.1.length (rowZ Ef.cell 3 x.1)∧FmAt lo hi W' x.2 (.iface T p)∧W.heap.size≤lo∧Below W.heap.size W W'
theorem effs_t {ws : List Wd} {f : Nat} {R : Except Nat (List Ef×Nat)} (h : effsI ws (f+1) es i=R) (hz : seesI ws i kEffect=true) : bindI (effI' ws) (fun x=>effsI ws f (es++ [x])) i=R:=by
 have h1:=oi_t h hz;have h2 : bindI (effI' ws) (fun x=>effsI ws f (es++ [x]))=bindI (takeI ws kEffect) fun _=>bindI (nameI ws) fun x=>bindI (takeI ws gColon) fun _=>bindI (baseI ws) fun a=>bindI (takeI ws gGives) fun _=>bindI (baseI ws) fun r=>bindI (takeI ws gSemi) fun _=>effsI ws f (es++ [⟨x,a,r⟩]):=by
  unfold effI';simp only [bind_assoc,pure_bindI]
 rw [h2];unfold bindI at h1 ⊢;rw [take_t hz];exact h1
theorem effs_f {ws : List Wd} {f : Nat} {R : Except Nat (List Ef×Nat)} (h : effsI ws (f+1) es i=R) (hz : seesI ws i kEffect=false) : .ok (es,i)=R:=oi_f h hz
def LoopEf (d : Dr) (ws : List Wd) (ad : Option Addr) (cp sz : Nat) (W : World) (RE : Except Nat (List Ef×Nat)) (v : Value) (wr : World) : Prop:=
 ∃ (es : List Ef) (g k : Nat),wr.ownsRow W.heap.size 45 3 v es.length (rowZ Ef.cell 3 es)∧St d ws ad cp sz W [] [] k wr∧effsI ws g es k=RE∧ws.length - k < g∧es.length≤k
section
variable {ws : List Wd} {ad : Option Addr} {cp sz : Nat}
theorem left_1 (h : effsI ws (ws.length+1) [] 0= .error j) : leftI ws= .error j:=by
 unfold leftI wholeI bindI;rw [h]
theorem left_2 (h : effsI ws (ws.length+1) [] 0= .ok (es,k)) (h2 : ipz ws (16*ws.length+11) .expr k= .error j) : leftI ws= .error j:=by
 unfold leftI wholeI bindI;rw [h];dsimp only;rw [h2]
theorem left_3 {t : Tr} {k2 : Nat} (h : effsI ws (ws.length+1) [] 0= .ok (es,k)) (h2 : ipz ws (16*ws.length+11) .expr k= .ok (t,k2)) (h3 : k2 < ws.length) : leftI ws= .error k2:=by
 unfold leftI wholeI bindI;rw [h];dsimp only;rw [h2];dsimp only [pureI];rw [if_pos h3]
theorem left_4 {t : Tr} {k2 : Nat} (h : effsI ws (ws.length+1) [] 0= .ok (es,k)) (h2 : ipz ws (16*ws.length+11) .expr k= .ok (t,k2)) (h3 : ¬ k2 < ws.length) : leftI ws= .ok (es,t):=by
 unfold leftI wholeI bindI;rw [h];dsimp only;rw [h2];dsimp only [pureI];rw [if_neg h3]
theorem eff_on {x : Ef} (h : effI' ws i= .ok (x,k)) : i+1≤k:=by
 have step : ∀ {α β : Type} {p : PI α} {m : α→PI β} {i k : Nat} {y : β},bindI p m i= .ok (y,k)→ ∃ a j,p i= .ok (a,j)∧m a j= .ok (y,k):=fun {α β p m i k y} h=>by
  cases h1 : p i with
  | error e=>exact absurd (bi_er h h1) (by simp)
  | ok r=>exact⟨r.1,r.2,rfl,bi_ok h h1⟩
 unfold effI' at h;obtain⟨a1,j1,h1,h⟩:=step h;obtain⟨a2,j2,h2,h⟩:=step h;obtain⟨a3,j3,h3,h⟩:=step h;obtain⟨a4,j4,h4,h⟩:=step h;obtain⟨a5,j5,h5,h⟩:=step h;obtain⟨a6,j6,h6,h⟩:=step h;obtain⟨a7,j7,h7,h⟩:=step h;have e1:=taken_on h1;have e2:=name_on h2;have e3:=taken_on h3;have e4:=ibase_on h4;have e5:=taken_on h5;have e6:=ibase_on h6;have e7:=taken_on h7;simp only [pureI,Except.ok.injEq,Prod.mk.injEq] at h;omega
theorem door_dies {W X : World} {tm : Array Value} {g : Nat} {v4 v5 x y : Value} {R : Ending→World→Prop} (h4 : tm[4]?.getD undef=v4) (h5 : tm[5]?.getD undef=v5) (h6 : tm[6]?.getD undef= .pointer (some ⟨g,0,none⟩)) (hb : X.heap[g]? =some (.cells #[x,y] 31)) (hg : W.heap.size≤g) (hX : Below W.heap.size W X) (hR : ∀ X',Below W.heap.size W X'→R (.returned (.tuple #[v4,v5,faultV ws sz j])) X') :
 bodyPostD Tryz.prog Tryz.f27 R (.panic [faultAt ws sz j]) { tmps:=tm,defers:= [{ target:= .fn (.func 54) #[.pointer (some ⟨g,0,none⟩)],args:= #[] }] } X:=by
 show Leaves Tryz.prog Tryz.f27 tm R _ (.panicking [faultAt ws sz j]) X;unfold faultAt faultV at*;refine leaves_cons (f:=54) (args:= #[.pointer (some ⟨g,0,none⟩)]) (by simp) (by simp [go_sem]) ?_;refine (catch_fault g 5 _ x y X hb).mono ?_;rintro e u' w'' ⟨rfl,rfl,rfl⟩;obtain⟨k0,k1⟩:=fcl2 (z33 (i:=1) (.int .i64 ((curI ws sz j).at_ : Int)) (z33 (i:=0) (.int .i64 5) hb));have hl:=(hX.setCell (p:=⟨g,0,none⟩) hg (.int .i64 5)).setCell (p:=⟨g,1,none⟩) hg (.int .i64 ((curI ws sz j).at_ : Int));refine⟨_,?_,hR _ hl⟩;simp [results,Tryz.results27,go_sem,h4,h5,h6,k0,k1]
theorem door_back {X : World} {tm : Array Value} {g : Nat} {v4 v5 : Value} {R : Ending→World→Prop} (h4 : tm[4]?.getD undef=v4) (h5 : tm[5]?.getD undef=v5) (h6 : tm[6]?.getD undef= .pointer (some ⟨g,0,none⟩)) (hb : X.heap[g]? =some (.cells #[.int .i64 0,.int .i64 0] 31)) (hR : R (.returned (.tuple #[v4,v5,.agg #[.int .i64 0,.int .i64 0]])) X) :
 bodyPostD Tryz.prog Tryz.f27 R .ret { tmps:=tm,defers:= [{ target:= .fn (.func 54) #[.pointer (some ⟨g,0,none⟩)],args:= #[] }] } X:=by
 show Leaves Tryz.prog Tryz.f27 tm R _ .returning X;refine leaves_cons (f:=54) (args:= #[.pointer (some ⟨g,0,none⟩)]) (by simp) (by simp [go_sem]) ?_;refine (catch_none g X).mono ?_;rintro e u' w'' ⟨rfl,rfl,rfl⟩;obtain⟨k0,k1⟩:=fcl2 hb;refine⟨_,?_,hR⟩;simp [results,Tryz.results27,go_sem,h4,h5,h6,k0,k1]
theorem own_mono {W : World} {B B' : Nat} {e : TypeId} {z : Nat} {n : Nat} {xs : List Value} (h : W.ownsRow B e z v n xs) (hB : B'≤B) : W.ownsRow B' e z v n xs:=by
 obtain⟨h0,h1 | ⟨g,cap,cur,h1,h2,h3⟩⟩:=h
 ·exact⟨h0,Or.inl h1⟩
 ·exact⟨h0,Or.inr ⟨g,cap,cur,h1,Nat.le_trans hB h2,h3⟩⟩
theorem readWords_calls (hw : BriefW ws) (ho : WordsOk ws) (hnum : NumW ws) (hne : ∀ w∈ws,w.kind=1→w.text.toList≠ []) (hfew : ws.length≤1500) (W : World) (hrow : ∀ d : Dr,W.heap.size≤d.B→W.heap.size≤d.G→Lies d W (.slice ad ws.length cp) ws.length 3 (fun i=>wdC (ws.getD (i / 3) default) (i % 3))) :
 Calls Tryz.prog 27 #[.slice ad ws.length cp,.int .i64 (sz : Int)] W (ReadPost ws sz W (leftI ws)):=by
 have hmf : ∀ (fn : Fn) (first cap : Array Value) (w : World),(Instr.makeFunc fn first cap).run Tryz.prog w= .ok (.func fn first cap) w:=fun _ _ _ _=>rfl
 have H:=hid (And.intro hw (And.intro ho (And.intro hnum hne)));obtain⟨R,hR⟩ : ∃ R,leftI ws=R:=⟨_,rfl⟩
 rw [hR];have HR:=hid hR;obtain⟨RE,hRE⟩ : ∃ RE,effsI ws (ws.length+1) [] 0=RE:=⟨_,rfl⟩
 have HRE:=hid hRE;have hst : ∃ d : Dr,d.B=W.heap.size+1∧St d ws ad cp sz ((W.alloc (.cells #[.int .i64 0,.int .i64 0] 31)).alloc (.cells #[.slice ad ws.length cp,.int .i64 0,.int .i64 (sz : Int)] 95)) [] [] 0 ((W.alloc (.cells #[.int .i64 0,.int .i64 0] 31)).alloc (.cells #[.slice ad ws.length cp,.int .i64 0,.int .i64 (sz : Int)] 95)):=by
  have h1 : Below W.heap.size W (W.alloc (.cells #[.int .i64 0,.int .i64 0] 31)):=(Below.refl _ _).alloc (Nat.le_refl _) _;have s1 : (W.alloc (.cells #[.int .i64 0,.int .i64 0] 31)).heap.size=W.heap.size+1:=by simp
  have h2:=h1.alloc h1.size (.cells #[.slice ad ws.length cp,.int .i64 0,.int .i64 (sz : Int)] 95);have h3:=(MapKept.heap_alloc (W.alloc (.cells #[.int .i64 0,.int .i64 0] 31)) (.cells #[.slice ad ws.length cp,.int .i64 0,.int .i64 (sz : Int)] 95)).1;rw [s1] at h3;exact⟨⟨W.heap.size+1,W.heap.size+1,none,0,0⟩,rfl,St.start ⟨h3,rfl,Nat.zero_le _,hfew,(hrow ⟨W.heap.size+1,W.heap.size+1,none,0,0⟩ (Nat.le_succ _) (Nat.le_succ _)).grew (Grew.of_below h2)⟩⟩
 have hfl : ((W.alloc (.cells #[.int .i64 0,.int .i64 0] 31)).alloc (.cells #[.slice ad ws.length cp,.int .i64 0,.int .i64 (sz : Int)] 95)).heap[W.heap.size]? =some (.cells #[.int .i64 0,.int .i64 0] 31):=by
  rw [(MapKept.heap_alloc (W.alloc (.cells #[.int .i64 0,.int .i64 0] 31)) _).2 _ (by simp)];exact (MapKept.heap_alloc W _).1
 have hbl : Below W.heap.size W ((W.alloc (.cells #[.int .i64 0,.int .i64 0] 31)).alloc (.cells #[.slice ad ws.length cp,.int .i64 0,.int .i64 (sz : Int)] 95)):=by
  have h1 : Below W.heap.size W (W.alloc (.cells #[.int .i64 0,.int .i64 0] 31)):=(Below.refl _ _).alloc (Nat.le_refl _) _;exact h1.alloc h1.size _
 obtain⟨d,hdB,hS⟩:=hst;obtain⟨L,hL⟩ : ∃ L,ws.length=L:=⟨_,rfl⟩
 have HL:=hid hL;rw [hL] at hS hfl hbl ⊢;have S:=hid hS;have HFl:=hid hfl;have HBl:=hid hbl;have HdB:=hid hdB;clear hw ho hnum hne hfew hrow hR hRE hL hS hfl hbl;go_enter_defers Tryz.func27,Tryz.ntmps27
 go_wp2_with fail
 rw [← hdB];clear hdB;obtain⟨W2,hW2⟩ : ∃ Y,((W.alloc (.cells #[.int .i64 0,.int .i64 0] 31)).alloc (.cells #[.slice ad L cp,.int .i64 0,.int .i64 (sz : Int)] 95))=Y:=⟨_,rfl⟩
 rw [hW2] at S HFl HBl ⊢;obtain⟨g0,hg0⟩ : ∃ g,W.heap.size=g:=⟨_,rfl⟩
 have HG0:=hid hg0;rw [hg0] at HFl ⊢;clear hW2 hg0;have HX:=hid (fun (X : World) (hg : Grew d W2 X)=>show X.heap[g0]? =some (.cells #[.int .i64 0,.int .i64 0] 31)∧Below W.heap.size W X from by
  have h1:=HdB.out;have h2:=HG0.out;have h3:=z13 HFl.out;have h4:=S.out.rd.eq;have h5:=HBl.out.size;exact⟨(hg.block g0 ⟨h3,by omega,by omega⟩).trans HFl.out,HBl.out.trans (hg.below h5 (by omega) (by omega))⟩)
 clear HFl HBl;go_loopw [4] (fun v wr=>Hid (LoopEf d ws ad cp sz W2 RE v wr)) (fun _ wr=>ws.length - posOf d wr)
 case atStart=>exact hid ⟨[],ws.length+1,0,⟨rfl,Or.inl ⟨rfl,rfl⟩⟩,S.out,HRE.out,by omega,Nat.le_refl _⟩
 case round=>
  obtain⟨es,g,k,hown,hS,hE,hg,hes⟩:=hrel.out;clear hrel;obtain⟨g,rfl⟩ : ∃ x,g=x+1:=⟨g - 1,by omega⟩
  obtain⟨av,cpv,rfl⟩:=y_is hown;have Ow:=hid hown;have S:=hid hS;have HE:=hid hE;have HG:=hid (And.intro hg hes);have HP:=hid (rd_pos hS.rd);clear hown hS hE hg hes;go_wp2_with fail
  have hsee:=sees_calls (d:=d) (ad:=ad) (cp:=cp) (sz:=sz) k ⟨#[101,102,102,101,99,116]⟩ kEffect (by kernel_rfl) (by decide) wr S.out.rd;by_cases z : seesI ws k kEffect=true
  ·rw [z] at hsee;refine hsee.mono ?_;rintro e X1 ⟨rfl,hb⟩;have S:=hid (S.out.below hb);have Ow:=hid (z30 Ow.out hb);have HE:=hid (effs_t HE.out z);clear hb z hsee;go_wp2_with fail
   refine (ieff_calls _ _ S.out.rd).mono ?_;intro e X2 hp;rcases z22 hp with ⟨j,hq,rfl,hg⟩ | ⟨x,k2,hq,hx,hr,hg⟩
   ·have hx:=HX.out _ (S.out.gr.trans hg);exact door_dies rfl rfl rfl hx.1 (by rw [HG0.out]; exact Nat.le_refl _) hx.2 (fun X' hX'=> by
     rw [← HR.out,left_1 (HRE.out.trans (bi_er HE.out hq).symm)];exact⟨_,_,rfl,hX'⟩)
   have hx' : e=_:=hx;subst hx';have HK:=hid (eff_on hq);have HE:=hid (bi_ok HE.out hq);have S:=hid (S.out.go hr hg);have Ow:=hid (y_grew Ow.out S.out.hB (by rw [S.out.rd.eq]; exact S.out.hB) hg);obtain⟨i0,hinf,hz0,hz1,hz2⟩:=info_parts info_eff;have hb : Below X2.heap.size X2 (X2.alloc (.cells #[.string x.name,.int .i64 x.arg,.int .i64 x.res] 45)):=(Below.refl _ _).alloc (Nat.le_refl _) _;have hli : Lies d (X2.alloc (.cells #[.string x.name,.int .i64 x.arg,.int .i64 x.res] 45)) (.slice (some ⟨X2.heap.size,0,none⟩) 1 1) [x].length 3 (fun i=>Ef.cell ([x].getD (i / 3) default) (i % 3)):=
    lies_lit (f:=Ef.cell) (sz:=3) (by decide) X2 45 [x] _ rfl (z13 S.out.rd.blk) (by rw [S.out.rd.eq]; exact z13 S.out.rd.blk)
   obtain⟨v',Z,hrun,hown,hgw⟩:=app_row (d:=d) ef_one Tryz.underlying23 hinf hz0 hz1 hz2 rfl (by decide) (by decide) (z30 Ow.out hb) hli (by have h1:=HG.out.2; have h2:=S.out.rd.lt; have h3:=S.out.rd.few; have h4:=HK.out; simp; omega) (Nat.le_trans S.out.gr.size hb.size) 23;obtain⟨a',c',n',hv⟩ : ∃ a c n,v'= .slice a n c:=by
    obtain⟨p,q,h⟩:=y_is hown;exact⟨p,q,_,h⟩
   subst hv;have S:=hid ((S.out.below hb).grown hgw (fun g hg=>⟨(Ow.out.lt g hg).1,fun b hb=>(by cases hb),fun x hx=>(by cases hx)⟩));have HRun:=hid hrun;have Ow:=hid hown;clear hp hq hx hr hg hb hli hrun hown hgw hinf hz0 hz1 hz2;go_wp2_with (at_builtin; refine wpList_append_run rfl _ _ 23 rfl _ _ rfl rfl HRun.out ?_)
   exact⟨hid ⟨es++ [x],g,k2,Ow.out,S.out,HE.out,by have h1:=HG.out.1; have h2:=HK.out; have h3:=S.out.rd.lt; omega,by have h1:=HG.out.2; have h2:=HK.out; simp; omega⟩,by
    rw [HP.out,rd_pos S.out.rd];have h1:=HK.out;have h2:=S.out.rd.lt;omega⟩
  ·have z2 : seesI ws k kEffect=false:=by simpa using z
   rw [z2] at hsee;refine hsee.mono ?_;rintro e X1 ⟨rfl,hb⟩;have S:=hid (S.out.below hb);have Ow:=hid (z30 Ow.out hb);have HE:=hid (effs_f HE.out z2);clear hb z z2 hsee;go_wp2_with fail
   refine (iwhole_calls H.out.1 H.out.2.1 H.out.2.2.1 H.out.2.2.2 _ _ S.out.rd).mono ?_;intro e X2 hp;rcases z22 hp with ⟨j,hq,rfl,hg⟩ | ⟨t,k2,hq,⟨T2,p2,rfl,hf⟩,hr,hg⟩
   ·have hx:=HX.out _ (S.out.gr.trans hg);exact door_dies rfl rfl rfl hx.1 (by rw [HG0.out]; exact Nat.le_refl _) hx.2 (fun X' hX'=> by
     rw [← HR.out,left_2 (HRE.out.trans HE.out.symm) hq];exact⟨_,_,rfl,hX'⟩)
   have Ow:=hid (y_grew Ow.out S.out.hB (by rw [S.out.rd.eq]; exact S.out.hB) hg);have S:=hid (S.out.form hr hg hf);have HQ:=hid hq;clear hp hq hf hr hg;have q1:=z8 S.out.rd.blk 1;simp at q1;by_cases hlt : (k2 : Int) < (L : Int)
   ·go_wp2_with fail
    refine (misfit_calls _ _ S.out.rd).mono ?_;rintro e X3 ⟨rfl,hb⟩;go_wp2_with fail
    have hx:=HX.out _ (S.out.gr.trans (Grew.of_below hb));exact door_dies rfl rfl rfl hx.1 (by rw [HG0.out]; exact Nat.le_refl _) hx.2 (fun X' hX'=> by
     rw [← HR.out,left_3 (HRE.out.trans HE.out.symm) HQ.out (by have:=HL.out; omega)];exact⟨_,_,rfl,hX'⟩)
   ·have hx:=HX.out _ S.out.gr;have c0:=z8 hx.1 0;have c1:=z8 hx.1 1;obtain⟨z0,z1⟩:=ffz2 hx.1;simp at c0 c1;have HXx:=hid hx;clear hx;go_wp2_with fail
    have hsz : g0 < W2.heap.size:=by
     have h1:=S.out.hB;have h2:=HdB.out;have h3:=HG0.out;omega
    have hff:=S.out.fss _ (.head _);have hkeep : ∀ q,q≠g0→((X2.setCell ⟨g0,0,none⟩ (.int .i64 0)).setCell ⟨g0,1,none⟩ (.int .i64 0)).heap[q]? =X2.heap[q]? :=fun q hq=>(Below.heap_setCell _ ⟨g0,1,none⟩ _ q hq).trans (Below.heap_setCell _ ⟨g0,0,none⟩ _ q hq)
    have hbx:=(HXx.out.2.setCell (p:=⟨g0,0,none⟩) (by rw [HG0.out]; exact Nat.le_refl _) (.int .i64 0)).setCell (p:=⟨g0,1,none⟩) (by rw [HG0.out]; exact Nat.le_refl _) (.int .i64 0);have hnl : ¬ k2 < ws.length:=by have:=HL.out; omega
    refine door_back rfl rfl rfl (z33 (i:=1) (.int .i64 0) (z33 (i:=0) (.int .i64 0) HXx.out.1)) ?_;rw [← HR.out,left_4 (HRE.out.trans HE.out.symm) HQ.out hnl];exact⟨_,T2,p2,_,_,rfl,own_mono (y_same Ow.out (fun g hg=>hkeep g (by have:=(Ow.out.lt g hg).1; omega))) (by have:=HG0.out; omega),hff.1.keep (Nat.le_trans hff.1.top (by simp [World.setCell])) (fun q hq _=>hkeep q (by have:=hff.2.1; omega)),Nat.le_trans (by have:=HG0.out; omega) hff.2.1,hbx⟩
end
def ndV (n : Nd) : Value:= .agg #[.int .i64 n.kind,.int .i64 n.num,.string n.a,.string n.b,.string n.c,.int .i64 n.kids]
def plainZ (n : Nd) : Nd:=
 ⟨n.kind,if n.kind=1∨n.kind=2 then n.num else 0,if 1≤namesZ n.kind then n.a else ⟨#[]⟩,if 2≤namesZ n.kind then n.b else ⟨#[]⟩,if 3≤namesZ n.kind then n.c else ⟨#[]⟩,0⟩
def NodePost (m : Nd) (w : World) (e : Ending) (w' : World) : Prop:=e= .returned (ndV m)∧Below w.heap.size w w'
def NodeOf (w : World) (v : Value) (m : Nd) : Prop:=
 ∃ T pv g rv,v= .iface T pv∧(∀ w,(method 344 T pv "loop.example/handrail/impl.node").run Tryz.prog w= .ok (g,rv) w)∧(∀ args w,(callFunc g args).run Tryz.prog w= .ok (.enter g args) w)∧Calls Tryz.prog g #[rv] w (NodePost m w)
theorem node_int (num : Int) (w : World) : Calls Tryz.prog 206 #[.agg #[.int .i64 num]] w (NodePost ⟨1,num,⟨#[]⟩,⟨#[]⟩,⟨#[]⟩,0⟩ w):=by
 go_enter Tryz.func206,Tryz.ntmps206
 go_wp2_with fail
 refine bodyPost_ret (v:=ndV ⟨1,num,⟨#[]⟩,⟨#[]⟩,⟨#[]⟩,0⟩) (by simp [results,Tryz.results206,go_sem,ndV]) rfl ?_;exact⟨rfl,by repeat (first | exact Below.refl _ _ | refine Below.alloc ?_ (by first | (simp; done) | (simp; omega)) _)⟩
theorem node_bool (num : Int) (w : World) : Calls Tryz.prog 208 #[.agg #[.int .i64 num]] w (NodePost ⟨2,num,⟨#[]⟩,⟨#[]⟩,⟨#[]⟩,0⟩ w):=by
 go_enter Tryz.func208,Tryz.ntmps208
 go_wp2_with fail
 refine bodyPost_ret (v:=ndV ⟨2,num,⟨#[]⟩,⟨#[]⟩,⟨#[]⟩,0⟩) (by simp [results,Tryz.results208,go_sem,ndV]) rfl ?_;exact⟨rfl,by repeat (first | exact Below.refl _ _ | refine Below.alloc ?_ (by first | (simp; done) | (simp; omega)) _)⟩
theorem node_unit (w : World) : Calls Tryz.prog 212 #[.agg #[]] w (NodePost ⟨3,0,⟨#[]⟩,⟨#[]⟩,⟨#[]⟩,0⟩ w):=by
 go_enter Tryz.func212,Tryz.ntmps212
 go_wp2_with fail
 refine bodyPost_ret (v:=ndV ⟨3,0,⟨#[]⟩,⟨#[]⟩,⟨#[]⟩,0⟩) (by simp [results,Tryz.results212,go_sem,ndV]) rfl ?_;exact⟨rfl,by repeat (first | exact Below.refl _ _ | refine Below.alloc ?_ (by first | (simp; done) | (simp; omega)) _)⟩
theorem node_nil (w : World) : Calls Tryz.prog 214 #[.agg #[]] w (NodePost ⟨4,0,⟨#[]⟩,⟨#[]⟩,⟨#[]⟩,0⟩ w):=by
 go_enter Tryz.func214,Tryz.ntmps214
 go_wp2_with fail
 refine bodyPost_ret (v:=ndV ⟨4,0,⟨#[]⟩,⟨#[]⟩,⟨#[]⟩,0⟩) (by simp [results,Tryz.results214,go_sem,ndV]) rfl ?_;exact⟨rfl,by repeat (first | exact Below.refl _ _ | refine Below.alloc ?_ (by first | (simp; done) | (simp; omega)) _)⟩
theorem node_var (a : ByteArray) (w : World) : Calls Tryz.prog 216 #[.agg #[.string a]] w (NodePost ⟨5,0,a,⟨#[]⟩,⟨#[]⟩,0⟩ w):=by
 go_enter Tryz.func216,Tryz.ntmps216
 go_wp2_with fail
 refine bodyPost_ret (v:=ndV ⟨5,0,a,⟨#[]⟩,⟨#[]⟩,0⟩) (by simp [results,Tryz.results216,go_sem,ndV]) rfl ?_;exact⟨rfl,by repeat (first | exact Below.refl _ _ | refine Below.alloc ?_ (by first | (simp; done) | (simp; omega)) _)⟩
theorem node_fn (a : ByteArray) (T0 : TypeId) (p0 : Value) (w : World) : Calls Tryz.prog 202 #[.agg #[.string a,.iface T0 p0]] w (NodePost ⟨6,0,a,⟨#[]⟩,⟨#[]⟩,0⟩ w):=by
 go_enter Tryz.func202,Tryz.ntmps202
 go_wp2_with fail
 refine bodyPost_ret (v:=ndV ⟨6,0,a,⟨#[]⟩,⟨#[]⟩,0⟩) (by simp [results,Tryz.results202,go_sem,ndV]) rfl ?_;exact⟨rfl,by repeat (first | exact Below.refl _ _ | refine Below.alloc ?_ (by first | (simp; done) | (simp; omega)) _)⟩
theorem node_app (T0 T1 : TypeId) (p0 p1 : Value) (w : World) : Calls Tryz.prog 220 #[.agg #[.iface T0 p0,.iface T1 p1]] w (NodePost ⟨7,0,⟨#[]⟩,⟨#[]⟩,⟨#[]⟩,0⟩ w):=by
 go_enter Tryz.func220,Tryz.ntmps220
 go_wp2_with fail
 refine bodyPost_ret (v:=ndV ⟨7,0,⟨#[]⟩,⟨#[]⟩,⟨#[]⟩,0⟩) (by simp [results,Tryz.results220,go_sem,ndV]) rfl ?_;exact⟨rfl,by repeat (first | exact Below.refl _ _ | refine Below.alloc ?_ (by first | (simp; done) | (simp; omega)) _)⟩
theorem node_bind (a : ByteArray) (T0 T1 : TypeId) (p0 p1 : Value) (w : World) : Calls Tryz.prog 224 #[.agg #[.string a,.iface T0 p0,.iface T1 p1]] w (NodePost ⟨8,0,a,⟨#[]⟩,⟨#[]⟩,0⟩ w):=by
 go_enter Tryz.func224,Tryz.ntmps224
 go_wp2_with fail
 refine bodyPost_ret (v:=ndV ⟨8,0,a,⟨#[]⟩,⟨#[]⟩,0⟩) (by simp [results,Tryz.results224,go_sem,ndV]) rfl ?_;exact⟨rfl,by repeat (first | exact Below.refl _ _ | refine Below.alloc ?_ (by first | (simp; done) | (simp; omega)) _)⟩
theorem node_recur (a b : ByteArray) (T0 T1 : TypeId) (p0 p1 : Value) (w : World) : Calls Tryz.prog 227 #[.agg #[.string a,.string b,.iface T0 p0,.iface T1 p1]] w (NodePost ⟨9,0,a,b,⟨#[]⟩,0⟩ w):=by
 go_enter Tryz.func227,Tryz.ntmps227
 go_wp2_with fail
 refine bodyPost_ret (v:=ndV ⟨9,0,a,b,⟨#[]⟩,0⟩) (by simp [results,Tryz.results227,go_sem,ndV]) rfl ?_;exact⟨rfl,by repeat (first | exact Below.refl _ _ | refine Below.alloc ?_ (by first | (simp; done) | (simp; omega)) _)⟩
theorem node_cond (T0 T1 T2 : TypeId) (p0 p1 p2 : Value) (w : World) : Calls Tryz.prog 230 #[.agg #[.iface T0 p0,.iface T1 p1,.iface T2 p2]] w (NodePost ⟨10,0,⟨#[]⟩,⟨#[]⟩,⟨#[]⟩,0⟩ w):=by
 go_enter Tryz.func230,Tryz.ntmps230
 go_wp2_with fail
 refine bodyPost_ret (v:=ndV ⟨10,0,⟨#[]⟩,⟨#[]⟩,⟨#[]⟩,0⟩) (by simp [results,Tryz.results230,go_sem,ndV]) rfl ?_;exact⟨rfl,by repeat (first | exact Below.refl _ _ | refine Below.alloc ?_ (by first | (simp; done) | (simp; omega)) _)⟩
theorem node_sign (k : Int) (T0 T1 : TypeId) (p0 p1 : Value) (w : World) : Calls Tryz.prog 264 #[.agg #[.int .i64 k,.iface T0 p0,.iface T1 p1]] w (NodePost ⟨k,0,⟨#[]⟩,⟨#[]⟩,⟨#[]⟩,0⟩ w):=by
 go_enter Tryz.func264,Tryz.ntmps264
 go_wp2_with fail
 refine bodyPost_ret (v:=ndV ⟨k,0,⟨#[]⟩,⟨#[]⟩,⟨#[]⟩,0⟩) (by simp [results,Tryz.results264,go_sem,ndV]) rfl ?_;exact⟨rfl,by repeat (first | exact Below.refl _ _ | refine Below.alloc ?_ (by first | (simp; done) | (simp; omega)) _)⟩
theorem node_pair (T0 T1 : TypeId) (p0 p1 : Value) (w : World) : Calls Tryz.prog 234 #[.agg #[.iface T0 p0,.iface T1 p1]] w (NodePost ⟨16,0,⟨#[]⟩,⟨#[]⟩,⟨#[]⟩,0⟩ w):=by
 go_enter Tryz.func234,Tryz.ntmps234
 go_wp2_with fail
 refine bodyPost_ret (v:=ndV ⟨16,0,⟨#[]⟩,⟨#[]⟩,⟨#[]⟩,0⟩) (by simp [results,Tryz.results234,go_sem,ndV]) rfl ?_;exact⟨rfl,by repeat (first | exact Below.refl _ _ | refine Below.alloc ?_ (by first | (simp; done) | (simp; omega)) _)⟩
theorem node_take (k : Int) (T0 : TypeId) (p0 : Value) (w : World) : Calls Tryz.prog 238 #[.agg #[.int .i64 k,.iface T0 p0]] w (NodePost ⟨k,0,⟨#[]⟩,⟨#[]⟩,⟨#[]⟩,0⟩ w):=by
 go_enter Tryz.func238,Tryz.ntmps238
 go_wp2_with fail
 refine bodyPost_ret (v:=ndV ⟨k,0,⟨#[]⟩,⟨#[]⟩,⟨#[]⟩,0⟩) (by simp [results,Tryz.results238,go_sem,ndV]) rfl ?_;exact⟨rfl,by repeat (first | exact Below.refl _ _ | refine Below.alloc ?_ (by first | (simp; done) | (simp; omega)) _)⟩
theorem node_cons (T0 T1 : TypeId) (p0 p1 : Value) (w : World) : Calls Tryz.prog 243 #[.agg #[.iface T0 p0,.iface T1 p1]] w (NodePost ⟨19,0,⟨#[]⟩,⟨#[]⟩,⟨#[]⟩,0⟩ w):=by
 go_enter Tryz.func243,Tryz.ntmps243
 go_wp2_with fail
 refine bodyPost_ret (v:=ndV ⟨19,0,⟨#[]⟩,⟨#[]⟩,⟨#[]⟩,0⟩) (by simp [results,Tryz.results243,go_sem,ndV]) rfl ?_;exact⟨rfl,by repeat (first | exact Below.refl _ _ | refine Below.alloc ?_ (by first | (simp; done) | (simp; omega)) _)⟩
theorem node_case (a b : ByteArray) (T0 T1 T2 : TypeId) (p0 p1 p2 : Value) (w : World) : Calls Tryz.prog 246 #[.agg #[.iface T0 p0,.iface T1 p1,.string a,.string b,.iface T2 p2]] w (NodePost ⟨20,0,a,b,⟨#[]⟩,0⟩ w):=by
 go_enter Tryz.func246,Tryz.ntmps246
 go_wp2_with fail
 refine bodyPost_ret (v:=ndV ⟨20,0,a,b,⟨#[]⟩,0⟩) (by simp [results,Tryz.results246,go_sem,ndV]) rfl ?_;exact⟨rfl,by repeat (first | exact Below.refl _ _ | refine Below.alloc ?_ (by first | (simp; done) | (simp; omega)) _)⟩
theorem node_perform (a : ByteArray) (T0 : TypeId) (p0 : Value) (w : World) : Calls Tryz.prog 250 #[.agg #[.string a,.iface T0 p0]] w (NodePost ⟨22,0,a,⟨#[]⟩,⟨#[]⟩,0⟩ w):=by
 go_enter Tryz.func250,Tryz.ntmps250
 go_wp2_with fail
 refine bodyPost_ret (v:=ndV ⟨22,0,a,⟨#[]⟩,⟨#[]⟩,0⟩) (by simp [results,Tryz.results250,go_sem,ndV]) rfl ?_;exact⟨rfl,by repeat (first | exact Below.refl _ _ | refine Below.alloc ?_ (by first | (simp; done) | (simp; omega)) _)⟩
theorem node_handler (k : Int) (T0 : TypeId) (p0 : Value) (ad : Option Addr) (sn sc : Nat) (w : World) : Calls Tryz.prog 254 #[.agg #[.int .i64 k,.iface T0 p0,.slice ad sn sc]] w (NodePost ⟨k,0,⟨#[]⟩,⟨#[]⟩,⟨#[]⟩,0⟩ w):=by
 go_enter Tryz.func254,Tryz.ntmps254
 go_wp2_with fail
 refine bodyPost_ret (v:=ndV ⟨k,0,⟨#[]⟩,⟨#[]⟩,⟨#[]⟩,0⟩) (by simp [results,Tryz.results254,go_sem,ndV]) rfl ?_;exact⟨rfl,by repeat (first | exact Below.refl _ _ | refine Below.alloc ?_ (by first | (simp; done) | (simp; omega)) _)⟩
theorem node_ret (a : ByteArray) (T0 : TypeId) (p0 : Value) (w : World) : Calls Tryz.prog 257 #[.agg #[.string a,.iface T0 p0]] w (NodePost ⟨25,0,a,⟨#[]⟩,⟨#[]⟩,0⟩ w):=by
 go_enter Tryz.func257,Tryz.ntmps257
 go_wp2_with fail
 refine bodyPost_ret (v:=ndV ⟨25,0,a,⟨#[]⟩,⟨#[]⟩,0⟩) (by simp [results,Tryz.results257,go_sem,ndV]) rfl ?_;exact⟨rfl,by repeat (first | exact Below.refl _ _ | refine Below.alloc ?_ (by first | (simp; done) | (simp; omega)) _)⟩
theorem node_op (a b c : ByteArray) (T0 : TypeId) (p0 : Value) (w : World) : Calls Tryz.prog 260 #[.agg #[.string a,.string b,.string c,.iface T0 p0]] w (NodePost ⟨26,0,a,b,c,0⟩ w):=by
 go_enter Tryz.func260,Tryz.ntmps260
 go_wp2_with fail
 refine bodyPost_ret (v:=ndV ⟨26,0,a,b,c,0⟩) (by simp [results,Tryz.results260,go_sem,ndV]) rfl ?_;exact⟨rfl,by repeat (first | exact Below.refl _ _ | refine Below.alloc ?_ (by first | (simp; done) | (simp; omega)) _)⟩
theorem z35 {w : World} {m m' : Nd} (T : TypeId) (pv : Value) (g : FuncId) (hv : v= .iface T pv) (hm : ∀ w,(method 344 T pv "loop.example/handrail/impl.node").run Tryz.prog w= .ok (g,pv) w)
 (hc : ∀ args w,(callFunc g args).run Tryz.prog w= .ok (.enter g args) w) (he : m'= m) (hK : Calls Tryz.prog g #[pv] w (NodePost m w)) : NodeOf w v m':= by
 subst he;exact⟨T,pv,g,pv,hv,hm,hc,hK⟩
theorem nodeOf {B : Nat} {w : World} {us : List Value} (h : Shape B w n us v) (hi : ∀ u∈us,∃ T p,u= .iface T p) : NodeOf w v (plainZ n):=by
 cases h with
 | int=>
   exact z35 _ _ 206 rfl (fun w=>by kernel_rfl) (fun args w=>by kernel_rfl) rfl (node_int _ w)
 | bool=>
   exact z35 _ _ 208 rfl (fun w=>by kernel_rfl) (fun args w=>by kernel_rfl) rfl (node_bool _ w)
 | unit=>
   exact z35 _ _ 212 rfl (fun w=>by kernel_rfl) (fun args w=>by kernel_rfl) rfl (node_unit w)
 | nil=>
   exact z35 _ _ 214 rfl (fun w=>by kernel_rfl) (fun args w=>by kernel_rfl) rfl (node_nil w)
 | var=>
   exact z35 _ _ 216 rfl (fun w=>by kernel_rfl) (fun args w=>by kernel_rfl) rfl (node_var _ w)
 | fn=>
   obtain⟨T0,p0,rfl⟩:=hi _ (List.mem_of_getElem? (i:=0) rfl);exact z35 _ _ 202 rfl (fun w=>by kernel_rfl) (fun args w=>by kernel_rfl) rfl (node_fn _ _ _ w)
 | app=>
   obtain⟨T0,p0,rfl⟩:=hi _ (List.mem_of_getElem? (i:=0) rfl);obtain⟨T1,p1,rfl⟩:=hi _ (List.mem_of_getElem? (i:=1) rfl);exact z35 _ _ 220 rfl (fun w=>by kernel_rfl) (fun args w=>by kernel_rfl) rfl (node_app _ _ _ _ w)
 | bind=>
   obtain⟨T0,p0,rfl⟩:=hi _ (List.mem_of_getElem? (i:=0) rfl);obtain⟨T1,p1,rfl⟩:=hi _ (List.mem_of_getElem? (i:=1) rfl);exact z35 _ _ 224 rfl (fun w=>by kernel_rfl) (fun args w=>by kernel_rfl) rfl (node_bind _ _ _ _ _ w)
 | recur=>
   obtain⟨T0,p0,rfl⟩:=hi _ (List.mem_of_getElem? (i:=0) rfl);obtain⟨T1,p1,rfl⟩:=hi _ (List.mem_of_getElem? (i:=1) rfl);exact z35 _ _ 227 rfl (fun w=>by kernel_rfl) (fun args w=>by kernel_rfl) rfl (node_recur _ _ _ _ _ _ w)
 | cond=>
   obtain⟨T0,p0,rfl⟩:=hi _ (List.mem_of_getElem? (i:=0) rfl);obtain⟨T1,p1,rfl⟩:=hi _ (List.mem_of_getElem? (i:=1) rfl);obtain⟨T2,p2,rfl⟩:=hi _ (List.mem_of_getElem? (i:=2) rfl);exact z35 _ _ 230 rfl (fun w=>by kernel_rfl) (fun args w=>by kernel_rfl) rfl (node_cond _ _ _ _ _ _ w)
 | sign h=>
   obtain⟨T0,p0,rfl⟩:=hi _ (List.mem_of_getElem? (i:=0) rfl);obtain⟨T1,p1,rfl⟩:=hi _ (List.mem_of_getElem? (i:=1) rfl);exact z35 _ _ 264 rfl (fun w=>by kernel_rfl) (fun args w=>by kernel_rfl) (by rcases h with rfl | rfl | rfl | rfl | rfl <;> rfl) (node_sign _ _ _ _ _ w)
 | pair=>
   obtain⟨T0,p0,rfl⟩:=hi _ (List.mem_of_getElem? (i:=0) rfl);obtain⟨T1,p1,rfl⟩:=hi _ (List.mem_of_getElem? (i:=1) rfl);exact z35 _ _ 234 rfl (fun w=>by kernel_rfl) (fun args w=>by kernel_rfl) rfl (node_pair _ _ _ _ w)
 | take h=>
   obtain⟨T0,p0,rfl⟩:=hi _ (List.mem_of_getElem? (i:=0) rfl);exact z35 _ _ 238 rfl (fun w=>by kernel_rfl) (fun args w=>by kernel_rfl) (by rcases h with rfl | rfl | rfl <;> rfl) (node_take _ _ _ w)
 | cons=>
   obtain⟨T0,p0,rfl⟩:=hi _ (List.mem_of_getElem? (i:=0) rfl);obtain⟨T1,p1,rfl⟩:=hi _ (List.mem_of_getElem? (i:=1) rfl);exact z35 _ _ 243 rfl (fun w=>by kernel_rfl) (fun args w=>by kernel_rfl) rfl (node_cons _ _ _ _ w)
 | case=>
   obtain⟨T0,p0,rfl⟩:=hi _ (List.mem_of_getElem? (i:=0) rfl);obtain⟨T1,p1,rfl⟩:=hi _ (List.mem_of_getElem? (i:=1) rfl);obtain⟨T2,p2,rfl⟩:=hi _ (List.mem_of_getElem? (i:=2) rfl);exact z35 _ _ 246 rfl (fun w=>by kernel_rfl) (fun args w=>by kernel_rfl) rfl (node_case _ _ _ _ _ _ _ _ w)
 | perform=>
   obtain⟨T0,p0,rfl⟩:=hi _ (List.mem_of_getElem? (i:=0) rfl);exact z35 _ _ 250 rfl (fun w=>by kernel_rfl) (fun args w=>by kernel_rfl) rfl (node_perform _ _ _ w)
 | handler h hs hl=>
   obtain⟨T0,p0,rfl⟩:=hi _ (List.mem_of_getElem? (i:=0) rfl);obtain⟨g0,o0,c0,rfl,-⟩:=hs;exact z35 _ _ 254 rfl (fun w=>by kernel_rfl) (fun args w=>by kernel_rfl) (by rcases h with rfl | rfl <;> rfl) (node_handler _ _ _ _ _ _ w)
 | ret=>
   obtain⟨T0,p0,rfl⟩:=hi _ (List.mem_of_getElem? (i:=0) rfl);exact z35 _ _ 257 rfl (fun w=>by kernel_rfl) (fun args w=>by kernel_rfl) rfl (node_ret _ _ _ w)
 | op=>
   obtain⟨T0,p0,rfl⟩:=hi _ (List.mem_of_getElem? (i:=0) rfl);exact z35 _ _ 260 rfl (fun w=>by kernel_rfl) (fun args w=>by kernel_rfl) rfl (node_op _ _ _ _ _ w)
end
section
open Go.RowKit
def BareN (n : Nd) : Prop:=(n.kind=1∨n.kind=2∨n.num=0)∧(1≤namesZ n.kind∨n.a=⟨#[]⟩)∧(2≤namesZ n.kind∨n.b=⟨#[]⟩)∧(3≤namesZ n.kind∨n.c=⟨#[]⟩)
def bareF : Fo→Prop
 | .none=>True
 | .tree n k r=>BareN n∧bareF k∧bareF r
def BareT (t : Tr) : Prop:=BareN t.1∧bareF t.2
theorem bn0 (k : Int) : BareN (nd0 k):=⟨Or.inr (Or.inr rfl),Or.inr rfl,Or.inr rfl,Or.inr rfl⟩
theorem bn1 {k : Int} (h : 1≤namesZ k) : BareN (nd1 k x):=⟨Or.inr (Or.inr rfl),Or.inl h,Or.inr rfl,Or.inr rfl⟩
theorem bn2 {k : Int} {y : ByteArray} (h : 2≤namesZ k) : BareN (nd2 k x y):=⟨Or.inr (Or.inr rfl),Or.inl (by show 1≤namesZ k; omega),Or.inl h,Or.inr rfl⟩
theorem bn3 {k : Int} {y z : ByteArray} (h : 3≤namesZ k) : BareN (nd3 k x y z):=⟨Or.inr (Or.inr rfl),Or.inl (by show 1≤namesZ k; omega),Or.inl (by show 2≤namesZ k; omega),Or.inl h⟩
theorem bnI {n : Int} : BareN (ndN 1 n):=⟨Or.inl rfl,Or.inr rfl,Or.inr rfl,Or.inr rfl⟩
theorem bnB {n : Int} : BareN (ndN 2 n):=⟨Or.inr (Or.inl rfl),Or.inr rfl,Or.inr rfl,Or.inr rfl⟩
theorem foL_bare : ∀ (l : List Tr),(∀ t∈l,BareT t)→bareF (foL l)
 | [],_=>trivial
 | t::r,h=>⟨(h t (by simp)).1,(h t (by simp)).2,foL_bare r (fun x hx=>h x (by simp [hx]))⟩
theorem mk_bare (hn : BareN n) (ks : List Tr) (h : ∀ t∈ks,BareT t) : BareT (mkT n ks):=⟨hn,foL_bare ks h⟩
def NtBare : Nt Tr→Prop
 | .sumL a=>BareT a
 | .prodL a=>BareT a
 | .callL a=>BareT a
 | .opsL _ ks=> ∀ t∈ks,BareT t
 | _=>True
theorem pb0 (hn : BareN n) : BareT (mkT n []):=mk_bare hn [] (fun t ht=>by cases ht)
theorem pb1 (hn : BareN n) (h : BareT a) : BareT (mkT n [a]):=mk_bare hn [a] (fun t ht=>by simp at ht; subst ht; exact h)
theorem pb2 {b : Tr} (hn : BareN n) (h : BareT a) (h' : BareT b) : BareT (mkT n [a,b]):=mk_bare hn [a,b] (fun t ht=>by simp at ht; rcases ht with rfl | rfl; exact h; exact h')
theorem pb3 {b c : Tr} (hn : BareN n) (h : BareT a) (h' : BareT b) (h'' : BareT c) : BareT (mkT n [a,b,c]):=mk_bare hn [a,b,c] (fun t ht=>by simp at ht; rcases ht with rfl | rfl | rfl; exact h; exact h'; exact h'')
section
variable {ws : List Wd} {go : Nt Tr→PI Tr}
theorem step_bare (hg : ∀ nt,NtBare nt→AllI BareT (go nt)) : ∀ nt,NtBare nt→AllI BareT (stepI ws go nt):=by
 have ex:=hg .expr trivial;have at':= hg .atom trivial;have cl:=hg .call trivial;have pr:=hg .prod trivial;have sm:=hg .sum trivial;intro nt hn
 cases nt with
 | expr=>
   refine AllI.or (AllI.or ?_ ?_) (AllI.or ?_ (AllI.or ?_ (AllI.or ?_ (hg .cons trivial))))
   ·exact AllI.skip fun _=>AllI.skip fun _=>AllI.skip fun _=>ex.bind fun a ha=>AllI.skip fun _=>ex.bind fun b hb=>AllI.pure (pb2 (bn2 (by decide)) ha hb)
   ·exact AllI.skip fun _=>AllI.skip fun _=>ex.bind fun a ha=>AllI.skip fun _=>ex.bind fun b hb=>AllI.pure (pb2 (bn1 (by decide)) ha hb)
   ·exact ex.bind fun a ha=>AllI.skip fun _=>ex.bind fun b hb=>AllI.skip fun _=>ex.bind fun c hc=>AllI.pure (pb3 (bn0 _) ha hb hc)
   ·exact AllI.skip fun _=>AllI.skip fun _=>ex.bind fun a ha=>AllI.pure (pb1 (bn1 (by decide)) ha)
   ·exact ex.bind fun a ha=>AllI.skip fun _=>AllI.skip fun _=>AllI.skip fun _=>ex.bind fun b hb=>AllI.skip fun _=>AllI.skip fun _=>AllI.skip fun _=>AllI.skip fun _=>AllI.skip fun _=>ex.bind fun c hc=>AllI.pure (pb3 (bn2 (by decide)) ha hb hc)
 | cons=>exact (hg .comp trivial).bind fun a ha=>AllI.or ((hg .cons trivial).bind fun b hb=>AllI.pure (pb2 (bn0 _) ha hb)) (AllI.pure ha)
 | comp=>exact sm.bind fun a ha=>AllI.or (sm.bind fun b hb=>AllI.pure (pb2 (bn0 _) ha hb)) (AllI.or (sm.bind fun b hb=>AllI.pure (pb2 (bn0 _) ha hb)) (AllI.pure ha))
 | sum=>exact pr.bind fun a ha=>hg (.sumL a) ha
 | prod=>exact cl.bind fun a ha=>hg (.prodL a) ha
 | sumL a=>exact AllI.or (pr.bind fun b hb=>hg (.sumL _) (pb2 (bn0 _) hn hb)) (AllI.or (pr.bind fun b hb=>hg (.sumL _) (pb2 (bn0 _) hn hb)) (AllI.pure hn))
 | prodL a=>exact AllI.or (cl.bind fun b hb=>hg (.prodL _) (pb2 (bn0 _) hn hb)) (AllI.pure hn)
 | call=>
   refine AllI.bind (P:=BareT) ?_ fun a ha=>hg (.callL a) ha
   exact AllI.or (at'.bind fun a ha=>AllI.pure (pb1 (bn0 _) ha)) (AllI.or (at'.bind fun a ha=>AllI.pure (pb1 (bn0 _) ha)) (AllI.or (at'.bind fun a ha=>AllI.pure (pb1 (bn0 _) ha)) (AllI.or (AllI.skip fun _=>at'.bind fun a ha=>AllI.pure (pb1 (bn1 (by decide)) ha)) at')))
 | callL a=>
   intro i r hr;simp only [stepI,callLI] at hr;split at hr
   ·exact (at'.bind fun b hb=>hg (.callL (mkT (nd0 7) [a,b])) (pb2 (bn0 _) hn hb)) i r hr
   ·exact AllI.pure (show BareT a from hn) i r hr
 | atom=>
   intro i r hr;simp only [stepI,atomI] at hr;split at hr
   ·have hb : AllI BareT (brackI ws go):=AllI.or (AllI.pure (pb0 (bn0 _))) (ex.bind fun a ha=>AllI.or (ex.bind fun b hb=>AllI.skip fun _=>AllI.pure (pb2 (bn0 _) ha hb)) (AllI.skip fun _=>AllI.pure ha));have hw : ∀ w,AllI BareT (wordI ws go w):=fun w=>by
     unfold wordI;split
     ·exact AllI.pure (pb0 bnI)
     split
     ·exact AllI.pure (pb0 (bn1 (by decide)))
     split
     ·exact AllI.pure (pb0 bnB)
     split
     ·exact AllI.pure (pb0 (bn0 _))
     split
     ·exact AllI.pure (pb0 (bn0 _))
     split
     ·exact hg (.hand 23) trivial
     split
     ·exact hg (.hand 24) trivial
     ·exact hb
    exact hw _ _ r hr
   ·cases hr
 | hand k=>
   refine ex.bind fun a ha=>AllI.skip fun _=>AllI.skip fun _=>AllI.skip fun x=>AllI.skip fun _=>ex.bind fun b hb=>hg (.opsL k [a,mkT (nd1 25 x) [b]]) (show ∀ t∈ [a,mkT (nd1 25 x) [b]],BareT t from fun t ht=>?_)
   simp only [List.mem_cons,List.not_mem_nil,or_false] at ht;rcases ht with rfl | rfl
   ·exact ha
   ·exact pb1 (bn1 (by decide)) hb
 | opsL k ks=>
   refine AllI.or ?_ (AllI.skip fun _=>AllI.pure (mk_bare (bn0 _) _ hn));refine AllI.skip fun _=>AllI.skip fun _=>AllI.skip fun _=>AllI.skip fun _=>ex.bind fun e he=>hg (.opsL k _) (fun t ht=>?_)
   rw [List.mem_append,List.mem_singleton] at ht;rcases ht with ht | rfl
   ·exact hn t ht
   ·exact pb1 (bn3 (by decide)) he
theorem read_bare : ∀ (f : Nat) (nt : Nt Tr),NtBare nt→AllI BareT (ipz ws f nt)
 | 0,_,_=>fun i r hr=>by cases hr
 | f+1,nt,hn=>step_bare (fun nt hn=>read_bare f nt hn) nt hn
theorem whole_bare {r : (List Ef×Tr)×Nat} (h : wholeI ws= .ok r) : BareT r.1.2:=by
 have hA : AllI (fun x : List Ef×Tr=>BareT x.2) (bindI (effsI ws (ws.length+1) []) (fun es=>bindI (ipz ws (16*ws.length+11) .expr) (fun t=>pureI (es,t)))):=
  AllI.skip fun es=>(read_bare _ .expr trivial).bind fun t ht=>AllI.pure ht
 exact hA 0 r h
end
end
end Go.Proofs.YtfbojelpdccjaaaGreatDoor
