import Derived.Test.YtfbojelpdccjaaaGreatDoorPkB3
import Derived.Test.YtfbojelpdccjaaaGreatDoorPkB18
import Derived.Test.YtfbojelpdccjaaaGreatDoorPkB19
import Derived.Test.YtfbojelpdccjaaaGreatDoorPkB33
import Derived.Test.YtfbojelpdccjaaaGreatDoorPkB40
import Derived.Test.YtfbojelpdccjaaaGreatDoorPkB41
import Derived.Test.YtfbojelpdccjaaaGreatDoorPkB43
set_option maxHeartbeats 8000000
set_option maxRecDepth 100000
namespace Go.Proofs.YtfbojelpdccjaaaGreatDoor
open Go.RowKit Go.Deep
variable {B : Nat} {X : World}
section
open Go.RowKit Go.Deep
def ReadOwn (r : Except (Int×Nat) (List Ef×Tr)) (W : World) (e : Ending) (W' : World) : Prop:=match r with
 | .error x=>e= .returned (.tuple #[.agg #[.slice none 0 0,.slice none 0 0],.agg #[.int .i64 x.1,.int .i64 (x.2 : Int)]])∧Below W.heap.size W W'
 | .ok x=> ∃ ve vt,e= .returned (.tuple #[.agg #[ve,vt],.agg #[.int .i64 0,.int .i64 0]])∧W'.ownsRow W.heap.size 45 3 ve x.1.length (rowZ Ef.cell 3 x.1)∧W'.ownsRow W.heap.size 60 6 vt (Tr.flat x.2).length (rowZ Nd.cell 6 (Tr.flat x.2))∧Below W.heap.size W W'
theorem read_end {tm : Array Value} {a b c e : Value} {R : Ending→World→Prop} (h2 : tm[2]?.getD undef= .pointer (some ⟨B,0,none⟩)) (h3 : tm[3]?.getD undef= .pointer (some ⟨B+1,0,none⟩)) (hb : X.heap[B]? =some (.cells #[a,b] 26)) (hb3 : X.heap[B+1]? =some (.cells #[c,e] 31)) (hR : R (.returned (.tuple #[.agg #[a,b],.agg #[c,e]])) X) :
 bodyPost Tryz.prog Tryz.f9 R .ret { tmps:=tm,defers:= [] } X:=by
 have k20:=z8 hb 0;have k21:=z8 hb 1;have k30:=z8 hb3 0;have k31:=z8 hb3 1;simp at k20 k21 k30 k31;exact bodyPost_ret (v:= .tuple #[.agg #[a,b],.agg #[c,e]]) (by simp [results,Tryz.results9,go_sem,h2,h3,k20,k21,k30,k31]) rfl hR
theorem read_left (t : ByteArray) (T : List Nd→Bool) {ws : List Wd} {p : Nat} (h : lexAll t=(ws,0,p)) : readZ t T=match leftI ws with
 | .error j=> .error (5,(curI ws t.size j).at_)
 | .ok r=>if 300 < (Tr.flat r.2).length∨8 < r.1.length then .error (6,0) else if 40 < r.2.2.deep+1 then .error (7,0) else if progZ r.1 (Tr.flat r.2) (T (Tr.flat r.2))=true then .ok r else .error (8,0):=by
 unfold readZ leftI;rw [h];dsimp only;rw [if_neg (by simp)]
 cases hI : wholeI ws with
 | error j=>
   dsimp only;unfold curI;split <;> rfl
 | ok r=>
   dsimp only;by_cases hl : r.2 < ws.length
   ·rw [if_pos hl,if_pos hl];dsimp only;unfold curI;rw [if_pos hl]
   ·rw [if_neg hl,if_neg hl]
theorem effs_brief {ws : List Wd} (hw : BriefW ws) : ∀ (f : Nat) (es : List Ef),(∀ x∈es,Brief x.name)→AllI (fun l : List Ef=> ∀ x∈l,Brief x.name) (effsI ws f es)
 | 0,es,h=>AllI.pure h
 | f+1,es,h=>by
   have hn : AllI (fun n : ByteArray=>Brief n) (nameI ws):=fun i r hr=>by
    unfold nameI at hr;split at hr
    ·rename_i hc
     cases hr;exact hw _ (cur_mem hc.1)
    ·cases hr
   refine AllI.or (hn.bind fun n hn=>AllI.skip fun _=>AllI.skip fun a=>AllI.skip fun _=>AllI.skip fun r=>AllI.skip fun _=>effs_brief hw f _ (fun x hx=>?_)) (AllI.pure h);rw [List.mem_append,List.mem_singleton] at hx;rcases hx with hx | rfl
   ·exact h x hx
   ·exact hn
def PosI {α : Type} (ws : List Wd) (p : PI α) : Prop:= ∀ i r,i≤ws.length→p i= .ok r→r.2≤ws.length
section
variable {ws : List Wd} {α β : Type}
theorem PosI.bind {p : PI α} {k : α→PI β} (h : PosI ws p) (hk : ∀ a,PosI ws (k a)) : PosI ws (bindI p k):=fun i r hi hr=>by
 cases h1 : p i with
 | error e=>exact absurd (bi_er hr h1) (by simp)
 | ok x=>exact hk x.1 x.2 r (h i x hi h1) (bi_ok hr h1)
theorem PosI.pure (a : α) : PosI ws (pureI a):=fun i r hi hr=>by
 cases hr;exact hi
theorem sees_on {i : Nat} {l : List UInt8} (h : seesI ws i l=true) : i+1≤ws.length:=by
 unfold seesI at h;simp at h;exact h.1
theorem PosI.or {l : List UInt8} {p q : PI α} (h1 : PosI ws p) (h2 : PosI ws q) : PosI ws (orI ws l p q):=fun i r hi hr=>by
 cases hz : seesI ws i l with
 | true=>exact h1 (i+1) r (sees_on hz) (oi_t hr hz)
 | false=>exact h2 i r hi (oi_f hr hz)
theorem PosI.take (l : List UInt8) : PosI ws (takeI ws l):=fun i r hi hr=>by
 unfold takeI at hr;split at hr
 ·rename_i hz
  cases hr;exact sees_on hz
 ·cases hr
theorem PosI.name : PosI ws (nameI ws):=fun i r hi hr=>by
 unfold nameI at hr;split at hr
 ·rename_i hc
  cases hr;exact hc.1
 ·cases hr
theorem PosI.base : PosI ws (baseI ws):= .or (.pure _) (.or (.pure _) (.or (.pure _) (.or (.pure _) (fun i r hi hr=>by cases hr))))
theorem effs_pos : ∀ (f : Nat) (es : List Ef),PosI ws (effsI ws f es)
 | 0,es=> .pure es
 | f+1,es=> .or (.bind .name fun _=> .bind (.take _) fun _=> .bind .base fun _=> .bind (.take _) fun _=> .bind .base fun _=> .bind (.take _) fun _=>effs_pos f _) (.pure es)
end
structure ReadOk (ws : List Wd) (es : List Ef) (t : Tr) : Prop where
 tr : TrOk t
 bare : BareT t
 names : ∀ x∈es,Brief x.name
 nodes : BriefN (Tr.flat t)
 len : (Tr.flat t).length≤3*ws.length+10
theorem left_ok {ws : List Wd} {es : List Ef} {t : Tr} (hw : BriefW ws) (ho : WordsOk ws) (h : leftI ws= .ok (es,t)) : ReadOk ws es t:=by
 unfold leftI at h
 cases hI : wholeI ws with
 | error j=>rw [hI] at h; cases h
 | ok r=>
   rw [hI] at h;dsimp only at h;split at h
   ·cases h
   ·have e : r.1=(es,t):=by simpa using h
    have h1:=whole_ok hI;have h2:=whole_bare hI;rw [e] at h1 h2;have hI2:=hI;unfold wholeI bindI at hI2
    cases hE : effsI ws (ws.length+1) [] 0 with
    | error j=>rw [hE] at hI2; cases hI2
    | ok x=>
      rw [hE] at hI2;dsimp only at hI2;have h3:=effs_brief hw (ws.length+1) [] (fun x hx=>by cases hx) 0 x hE
      cases hP : ipz ws (16*ws.length+11) .expr x.2 with
      | error j=>rw [hP] at hI2; cases hI2
      | ok y=>
        rw [hP] at hI2;have e2 : r=((x.1,y.1),y.2):=by cases hI2; rfl
        rw [e2] at e;simp only [Prod.mk.injEq] at e;rw [e.1] at h3;have hal:=(parse_alike ho (16*ws.length+11) NtR.expr).same x.2;rw [hP] at hal;obtain⟨a,ha,hf⟩:=hal;obtain⟨c,g1,g2,g3,g4⟩:=(part_m hw (16*ws.length+11)).at .expr trivial (by simp) ⟨x.2,false⟩ (effs_pos _ _ 0 x (Nat.zero_le _) hE);rw [ha] at g1 g3 g4;have hfl : a=Tr.flat y.1:=hf;rw [hfl,e.2] at g3 g4;refine⟨h1,h2,h3,g4,?_⟩;dsimp only [accN] at g3 g2;omega
theorem nodes_own {ad : Option Addr} {cp : Nat} {ns : List Nd} (h : X.ownsRow B 60 6 (.slice ad ns.length cp) ns.length (rowZ Nd.cell 6 ns)) (h0 : 0 < ns.length) : ∃ b,ad=some ⟨b,0,none⟩∧b < X.heap.size∧ns.length≤cp∧NodesAt X b 0 ns:=by
 have h':= h;obtain⟨-,⟨-,hn⟩ | ⟨g,cap,cur,e,hB,hc,hn,-⟩⟩:=h
 ·omega
 ·cases e;refine⟨g,rfl,z13 hc,hn,fun i hi c hc'=> ?_⟩;have e1:=h'.cellAt (i*6+c) (by omega);rw [z65 Nd.cell 6 (by decide) ns _ (by omega),cell_div ns Nd.cell 6 i c hc'] at e1;rw [Nat.zero_add];exact e1
theorem effs_own {q : Nat} {ad : Option Addr} {cp : Nat} {es : List Ef} (h : X.ownsRow B 45 3 (.slice ad es.length cp) es.length (rowZ Ef.cell 3 es)) (hq : q < X.heap.size) : ∃ b,(es≠ []→ad=some ⟨b,0,none⟩)∧b < X.heap.size∧es.length≤cp∧EffsAt X b 0 es:=by
 have h':= h;obtain⟨-,⟨-,hn⟩ | ⟨g,cap,cur,e,hB,hc,hn,-⟩⟩:=h
 ·exact⟨q,fun h=>absurd (List.eq_nil_of_length_eq_zero hn) h,hq,by omega,fun i hi=>by omega⟩
 ·cases e;refine⟨g,fun _=>rfl,z13 hc,hn,fun i hi c hc'=> ?_⟩;have e1:=h'.cellAt (i*3+c) (by omega);rw [z65 Ef.cell 3 (by decide) es _ (by omega),cell_div es Ef.cell 3 i c hc'] at e1;rw [Nat.zero_add];exact e1
theorem implRead_calls (t : ByteArray) (T : List Nd→Bool) (hT : ∀ ns,ImplAns ns (T ns)) (W : World) :
 Calls Tryz.prog 9 #[.string t] W fun e W'=> ReadOwn (readZ t T) W e W':= by
 have HT:=hid hT;obtain⟨R,hR⟩ : ∃ R,readZ t T=R:=⟨_,rfl⟩
 rw [hR];have HR:=hid hR;clear hT hR;go_enter Tryz.func9,Tryz.ntmps9
 go_wp2_with fail
 obtain⟨hA,hA2,hA3,hA4⟩:=two_blocks W (.cells #[.slice none 0 0,.slice none 0 0] 26) (.cells #[.int .i64 0,.int .i64 0] 31);refine (implWords_calls t _).mono ?_;rintro e w1 ⟨⟨v,rfl,hrow⟩,hb1⟩;obtain⟨ws,c,p,hL⟩ : ∃ ws c p,lexAll t=(ws,c,p):=⟨_,_,_,rfl⟩
 have HWs:=hid (And.intro (lexAll_brief t) (And.intro (lexAll_num t) (And.intro (lexAll_words t) (And.intro (lexAll_ne t) (lexAll_ok t).2))));rw [hL] at hrow HWs ⊢;dsimp only at hrow ⊢;have HLx:=hid hL;have HRow:=hid hrow;have B2:=hid ((hb1.block _ (by omega)).trans hA2);have B3:=hid ((hb1.block _ (by omega)).trans hA3);have HB:=hid (hA.trans (hb1.mono hA.size));have HN:=hid (show W.heap.size+2≤w1.heap.size from by have:=hb1.size; omega);clear hL hrow hb1 hA hA2 hA3 hA4;by_cases hc : c=0
 case neg=>
  have hcb : (c==0)=false:=by simpa using hc
  have hRR : R= .error (c,p):=by
   rw [← HR.out];unfold readZ;rw [HLx.out,if_pos (show c≠0 from hc)]
  have HRR:=hid hRR;clear hRR;go_upto_region 3 with fail
  have hx:=(Below.refl w1.heap.size w1).alloc (Nat.le_refl _) (.cells #[.int .i64 c,.int .i64 (p : Int)] 31);have hy:=(MapKept.heap_alloc w1 (.cells #[.int .i64 c,.int .i64 (p : Int)] 31)).1;have hn:=HN.out;have b2:=(hx.block _ (by omega)).trans B2.out;have b3:=(hx.block _ (by omega)).trans B3.out;have hB:=HB.out.trans (hx.mono HB.out.size);generalize w1.alloc (.cells #[.int .i64 c,.int .i64 (p : Int)] 31)=w2 at hx hy b2 b3 hB ⊢;generalize w1.heap.size=g5 at hy hn ⊢;have HB2:=hid hB;have K2:=hid b2;have K3:=hid b3;have g20:=z8 b2 0;have g21:=z8 b2 1;have g30:=z8 b3 0;have g31:=z8 b3 1
  have g50:=z8 hy 0;have g51:=z8 hy 1;obtain⟨f20,f21⟩:=ffz2 b2;obtain⟨f30,f31⟩:=ffz2 b3;simp at g20 g21 g30 g31 g50 g51;have e1 : W.heap.size≠g5:=by omega
  have e2 : W.heap.size+1≠g5:=by omega
  clear hx hy hn b2 b3 hB hc hcb;go_region
  go_wp2_with fail
  obtain⟨r2,r3,rB,-⟩:=set4_is (.slice none 0 0) (.slice none 0 0) (.int .i64 c) (.int .i64 (p : Int)) K2.out K3.out;unfold set4 at r2 r3 rB;refine read_end rfl rfl r2 r3 ?_;rw [HRR.out];exact⟨rfl,HB2.out.trans rB.drew⟩
 case pos=>
  subst hc;obtain⟨ad,cpw,rfl⟩:=y_is HRow.out;have HZ:=hid (HR.out.symm.trans (read_left t T HLx.out));go_wp2_with fail
  have hx:=(Below.refl w1.heap.size w1).alloc (Nat.le_refl _) (.cells #[.int .i64 0,.int .i64 (p : Int)] 31);have hy:=(MapKept.heap_alloc w1 (.cells #[.int .i64 0,.int .i64 (p : Int)] 31)).1;have hn:=HN.out;have b2:=(hx.block _ (by omega)).trans B2.out;have b3:=(hx.block _ (by omega)).trans B3.out;have hB:=HB.out.trans (hx.mono HB.out.size);have hrw:=z30 HRow.out hx;generalize w1.alloc (.cells #[.int .i64 0,.int .i64 (p : Int)] 31)=w2 at hx hy b2 b3 hB hrw ⊢;have hgl:=hx.size;generalize w1.heap.size=g5 at hy hn hgl ⊢
  have hli : ∀ d : Dr,w2.heap.size≤d.B→w2.heap.size≤d.G→Lies d w2 (.slice ad ws.length cpw) ws.length 3 (fun i=>wdC (ws.getD (i / 3) default) (i % 3)):=fun d h1 h2=>by
   rw [flatW_row] at hrw;exact lies_old (d:=d) (f:=wdC) (by decide) hrw h1 h2
  have hcall:=readWords_calls (sz:=t.size) HWs.out.1 HWs.out.2.2.1 HWs.out.2.1 HWs.out.2.2.2.1 HWs.out.2.2.2.2 w2 hli;have HCall:=hid hcall;have G5:=hid hy;have K2:=hid b2;have K3:=hid b3;have HB2:=hid hB;have HNe:=hid (show W.heap.size+2≤g5∧g5 < w2.heap.size from⟨hn,z13 hy⟩);clear hx hy hn b2 b3 hB hgl hli hcall hrw;refine HCall.out.mono ?_;intro e X1 hp;clear HCall
  cases hI : leftI ws with
  | error j=>
    rw [hI] at hp;obtain⟨v1,v2,rfl,hb⟩:=hp;unfold faultV;obtain⟨pl,hpl⟩ : ∃ x,(curI ws t.size j).at_=x:=⟨_,rfl⟩
    have hRR : R= .error (5,pl):=by
     rw [HZ.out,hI,← hpl]
    have HRR:=hid hRR;rw [hpl];have G5:=hid ((hb.block _ HNe.out.2).trans G5.out);have K2:=hid ((hb.block _ (by have:=HNe.out; omega)).trans K2.out);have K3:=hid ((hb.block _ (by have:=HNe.out; omega)).trans K3.out);have HB3:=hid (HB2.out.trans (hb.mono HB2.out.size));have c50:=z8 G5.out 0;have c51:=z8 G5.out 1;obtain⟨z50,z51⟩:=ffz2 G5.out;simp at c50 c51;clear hpl hRR hb hI;go_upto_region 6 with fail
    have hne:=HNe.out;have G6:=hid (z33 (i:=1) (.int .i64 (pl : Int)) (z33 (i:=0) (.int .i64 5) G5.out));have kk : ∀ q,q≠g5→((X1.setCell ⟨g5,0,none⟩ (.int .i64 5)).setCell ⟨g5,1,none⟩ (.int .i64 (pl : Int))).heap[q]? =X1.heap[q]? :=fun q hq=>(Below.heap_setCell _ ⟨g5,1,none⟩ _ q hq).trans (Below.heap_setCell _ ⟨g5,0,none⟩ _ q hq)
    have b2:=(kk W.heap.size (by omega)).trans K2.out;have b3:=(kk (W.heap.size+1) (by omega)).trans K3.out;have hB:=(HB3.out.setCell (p:=⟨g5,0,none⟩) (by dsimp only; omega) (.int .i64 5)).setCell (p:=⟨g5,1,none⟩) (by dsimp only; omega) (.int .i64 (pl : Int));generalize (X1.setCell ⟨g5,0,none⟩ (.int .i64 5)).setCell ⟨g5,1,none⟩ (.int .i64 (pl : Int))=X2 at G6 b2 b3 hB ⊢;have HB4:=hid hB;have L2:=hid b2;have L3:=hid b3;have g20:=z8 b2 0;have g21:=z8 b2 1;have g30:=z8 b3 0;have g31:=z8 b3 1;have g50:=z8 G6.out 0;have g51:=z8 G6.out 1;obtain⟨f20,f21⟩:=ffz2 b2;obtain⟨f30,f31⟩:=ffz2 b3
    simp at g20 g21 g30 g31 g50 g51;have e1 : W.heap.size≠g5:=by omega
    have e2 : W.heap.size+1≠g5:=by omega
    clear kk b2 b3 hB hne c50 c51 z50 z51;go_region
    go_wp2_with fail
    obtain⟨r2,r3,rB,-⟩:=set4_is (.slice none 0 0) (.slice none 0 0) (.int .i64 5) (.int .i64 (pl : Int)) L2.out L3.out;unfold set4 at r2 r3 rB;refine read_end rfl rfl r2 r3 ?_;rw [HRR.out];exact⟨rfl,HB4.out.trans rB.drew⟩
  | ok r=>
    obtain⟨es,tr⟩:=r;rw [hI] at hp;obtain⟨ve,T2,p2,lo,hi,rfl,hown,hfm,hlo,hb⟩:=hp;have HOk:=hid (left_ok HWs.out.1 HWs.out.2.2.1 hI);have HZ:=hid (HZ.out.trans (by rw [hI]));dsimp only at HZ;obtain⟨ade,cpe,hve⟩:=y_is hown;subst hve;have G5:=hid ((hb.block _ HNe.out.2).trans G5.out);have K2:=hid ((hb.block _ (by have:=HNe.out; omega)).trans K2.out);have K3:=hid ((hb.block _ (by have:=HNe.out; omega)).trans K3.out);have HBB:=hid (HB2.out.trans (hb.mono HB2.out.size));have c50:=z8 G5.out 0;have c51:=z8 G5.out 1;obtain⟨z50,z51⟩:=ffz2 G5.out;simp at c50 c51;have HOw:=hid hown
    have HFm:=hid (And.intro hfm hlo);have HSz:=hid hb.size;clear hb hI hown hfm hlo HB2;go_upto_region 7 with fail
    have hne:=HNe.out;have kk : ∀ q,q≠g5→((X1.setCell ⟨g5,0,none⟩ (.int .i64 0)).setCell ⟨g5,1,none⟩ (.int .i64 0)).heap[q]? =X1.heap[q]? :=fun q hq=>(Below.heap_setCell _ ⟨g5,1,none⟩ _ q hq).trans (Below.heap_setCell _ ⟨g5,0,none⟩ _ q hq)
    have K2:=hid ((kk W.heap.size (by omega)).trans K2.out);have K3:=hid ((kk (W.heap.size+1) (by omega)).trans K3.out);have HBB:=hid ((HBB.out.setCell (p:=⟨g5,0,none⟩) (by dsimp only; omega) (.int .i64 0)).setCell (p:=⟨g5,1,none⟩) (by dsimp only; omega) (.int .i64 0));have HOw:=hid (y_same HOw.out (fun g hg=>kk g (by have:=(HOw.out.lt g hg).1; omega)));have HFm:=hid (And.intro (HFm.out.1.keep (Nat.le_trans HFm.out.1.top (by simp [World.setCell])) (fun q hq _=>kk q (by have:=HFm.out.2; omega))) HFm.out.2)
    have hsz2 : X1.heap.size=((X1.setCell ⟨g5,0,none⟩ (.int .i64 0)).setCell ⟨g5,1,none⟩ (.int .i64 0)).heap.size:=by simp [World.setCell]
    have HSz:=hid (show w2.heap.size≤((X1.setCell ⟨g5,0,none⟩ (.int .i64 0)).setCell ⟨g5,1,none⟩ (.int .i64 0)).heap.size by rw [← hsz2]; exact HSz.out);generalize (X1.setCell ⟨g5,0,none⟩ (.int .i64 0)).setCell ⟨g5,1,none⟩ (.int .i64 0)=X2 at K2 K3 HBB HOw HFm HSz ⊢;clear kk hne hsz2 c50 c51 z50 z51 G5;obtain⟨v2,us,rest,hv2,hF,hS,-⟩:=HFm.out.1.forms;obtain⟨rfl,rfl⟩ : .iface T2 p2=v2∧rest= []:=by simp at hv2; exact⟨hv2.1,hv2.2⟩
    have hadd:=add_calls X2 (tr.2.flat.length+1) lo tr.1 tr.2 us _ (.slice none 0 0) [] X2 hF hS HOk.out.tr.1 HOk.out.tr.2 HOk.out.bare.1 HOk.out.bare.2 (Below.refl _ _) ⟨rfl,Or.inl ⟨rfl,rfl⟩⟩ (by have h1:=HOk.out.len; have h2:=HWs.out.2.2.2.2; simp only [Tr.flat,List.length_cons] at h1; simp; omega) (Nat.lt_succ_self _);have HAdd:=hid hadd;have HF:=hid (And.intro hF hS);clear hadd hF hS hv2;go_wp2_with fail
    refine HAdd.out.mono ?_;rintro e X3 ⟨vt,rfl,hown3,hgr3,-⟩;obtain⟨adt,cpt,hvt⟩:=y_is hown3;subst hvt;have hb3 : Below X2.heap.size X2 X3:=⟨hgr3.os,hgr3.tape,hgr3.output,hgr3.size,fun q hq=>hgr3.block q hq (by simp [Value.ownBlock])⟩
    have hfl : []++tr.1::tr.2.flat=Tr.flat tr:=rfl;rw [hfl] at hown3;have HOt:=hid hown3;have HOw:=hid (z30 HOw.out hb3);have K2:=hid ((hb3.block _ (z13 K2.out)).trans K2.out);have K3:=hid ((hb3.block _ (z13 K3.out)).trans K3.out);have HBB:=hid (HBB.out.trans (hb3.mono HBB.out.size));have HF:=hid (And.intro (HF.out.1.below hb3) (HF.out.2.below hb3));have HSz3:=hid hb3.size;rw [hfl];clear hown3 hgr3 hb3 hfl HAdd;obtain⟨L,hL⟩ : ∃ L,(Tr.flat tr).length=L:=⟨_,rfl⟩
    rw [hL];have HLn:=hid hL;clear hL;have hb4:=(Below.refl X3.heap.size X3).alloc (Nat.le_refl _) (.cells #[.slice ade es.length cpe,.slice adt L cpt] 26);have PB:=hid (MapKept.heap_alloc X3 (.cells #[.slice ade es.length cpe,.slice adt L cpt] 26)).1;have HOt:=hid (z30 HOt.out hb4);have HOw:=hid (z30 HOw.out hb4);have K2:=hid ((hb4.block _ (z13 K2.out)).trans K2.out);have K3:=hid ((hb4.block _ (z13 K3.out)).trans K3.out);have HBB:=hid (HBB.out.trans (hb4.mono HBB.out.size));have HF:=hid (And.intro (HF.out.1.below hb4) (HF.out.2.below hb4));clear hb4;go_upto_region 8 with fail
    obtain⟨X4,hX4⟩ : ∃ Y,X3.alloc (.cells #[.slice ade es.length cpe,.slice adt L cpt] 26)=Y:=⟨_,rfl⟩
    rw [hX4] at PB HOt HOw K2 K3 HBB HF ⊢;obtain⟨g8,hg8⟩ : ∃ g,X3.heap.size=g:=⟨_,rfl⟩
    have HN8:=hid (show W.heap.size+2≤g8 by have h1:=HNe.out; have h2:=HSz.out; have h3:=HSz3.out; omega);rw [hg8] at PB ⊢;clear hX4 hg8;have c0:=z8 PB.out 0;have c1:=z8 PB.out 1;have g20:=z8 K2.out 0;have g21:=z8 K2.out 1;have g30:=z8 K3.out 0;have g31:=z8 K3.out 1;obtain⟨f20,f21⟩:=ffz2 K2.out;obtain⟨f30,f31⟩:=ffz2 K3.out;simp at c0 c1 g20 g21 g30 g31;by_cases hm : (300 : Int) < (L : Int)
    ·have hRR : R= .error (6,0):=by
      rw [HZ.out,if_pos (Or.inl (by rw [HLn.out]; omega))]
     have HRR:=hid hRR;clear hRR;go_wp2_with fail
     obtain⟨r2,r3,rB,-⟩:=set4_is (.slice none 0 0) (.slice none 0 0) (.int .i64 6) (.int .i64 0) K2.out K3.out;unfold set4 at r2 r3 rB;refine read_end rfl rfl r2 r3 ?_;rw [HRR.out];exact⟨rfl,HBB.out.trans rB⟩
    by_cases hm2 : (8 : Int) < (es.length : Int)
    ·have hRR : R= .error (6,0):=by
      rw [HZ.out,if_pos (Or.inr (by omega))]
     have HRR:=hid hRR;clear hRR;go_wp2_with fail
     obtain⟨r2,r3,rB,-⟩:=set4_is (.slice none 0 0) (.slice none 0 0) (.int .i64 6) (.int .i64 0) K2.out K3.out;unfold set4 at r2 r3 rB;refine read_end rfl rfl r2 r3 ?_;rw [HRR.out];exact⟨rfl,HBB.out.trans rB⟩
    have HM:=hid (And.intro hm hm2);have HZ:=hid (HZ.out.trans (by rw [if_neg (by rw [HLn.out]; omega)]));have hlt : tr.2.flat.length+1=L:=by rw [← HLn.out]; simp [Tr.flat]
    have hdp:=deepOf_calls (tr.2.flat.length+1) lo tr.1 tr.2 us _ X4 HF.out.1 HF.out.2 (by omega) (Nat.lt_succ_self _);have HDp:=hid hdp;obtain⟨D,hD⟩ : ∃ D,tr.2.deep+1=D:=⟨_,rfl⟩
    rw [hD] at HDp;have HD:=hid hD;clear hD hdp hlt;go_wp2_with fail
    refine HDp.out.mono ?_;rintro e X5 ⟨rfl,hb5⟩;have PB:=hid ((hb5.block _ (z13 PB.out)).trans PB.out);have HOt:=hid (z30 HOt.out hb5);have HOw:=hid (z30 HOw.out hb5);have K2:=hid ((hb5.block _ (z13 K2.out)).trans K2.out);have K3:=hid ((hb5.block _ (z13 K3.out)).trans K3.out);have HBB:=hid (HBB.out.trans (hb5.mono HBB.out.size));clear hb5 HDp HF c0 c1 g20 g21 g30 g31 f20 f21 f30 f31;have c0:=z8 PB.out 0;have c1:=z8 PB.out 1;have g20:=z8 K2.out 0;have g21:=z8 K2.out 1;have g30:=z8 K3.out 0;have g31:=z8 K3.out 1;obtain⟨f20,f21⟩:=ffz2 K2.out;obtain⟨f30,f31⟩:=ffz2 K3.out;simp at c0 c1 g20 g21 g30 g31
    by_cases hdm : (40 : Int) < (D : Int)
    ·have hRR : R= .error (7,0):=by
      rw [HZ.out,if_pos (by rw [HD.out]; omega)]
     have HRR:=hid hRR;clear hRR;go_wp2_with fail
     obtain⟨r2,r3,rB,-⟩:=set4_is (.slice none 0 0) (.slice none 0 0) (.int .i64 7) (.int .i64 0) K2.out K3.out;unfold set4 at r2 r3 rB;refine read_end rfl rfl r2 r3 ?_;rw [HRR.out];exact⟨rfl,HBB.out.trans rB⟩
    have HZ:=hid (HZ.out.trans (by rw [if_neg (by rw [HD.out]; omega)]));obtain⟨bt,hadt,hbt,hcpt,hNA⟩:=nodes_own HOt.out (by rw [HLn.out]; have h1:=HLn.out; simp [Tr.flat] at h1; omega);obtain⟨be,hae,hbe,hce,hEA⟩:=effs_own HOw.out hbt
    have hok:=implProgC_calls ade be bt cpe cpt es (Tr.flat tr) (T (Tr.flat tr)) X5 hce hae hbe hbt hEA hNA (by have:=HM.out.2; omega) (by rw [HLn.out]; have:=HM.out.1; omega) (fun x hx=>by have:=HOk.out.names x hx; unfold Brief at this; unfold maxLen; omega) (fun w' h1 h2=>implTree_calls bt 0 cpt (Tr.flat tr) w' (T (Tr.flat tr)) (by rw [HLn.out]; have:=HM.out.1; omega) h1 h2 (fun n hn=>by
     obtain⟨g1,g2,g3⟩:=HOk.out.nodes n hn;unfold Brief at g1 g2 g3;unfold maxLen;omega) (HT.out (Tr.flat tr)))
    subst hadt;obtain⟨P,hP⟩ : ∃ P,progZ es (Tr.flat tr) (T (Tr.flat tr))=P:=⟨_,rfl⟩
    rw [hP] at HZ hok;rw [HLn.out] at hok;have HOkc:=hid hok;clear hP hok hNA hEA hae hbe hce hcpt hbt;go_wp2_with fail
    refine HOkc.out.mono ?_;rintro e X6 ⟨rfl,hb6⟩;have PB:=hid ((hb6.block _ (z13 PB.out)).trans PB.out);have HOt:=hid (z30 HOt.out hb6);have HOw:=hid (z30 HOw.out hb6);have K2:=hid ((hb6.block _ (z13 K2.out)).trans K2.out);have K3:=hid ((hb6.block _ (z13 K3.out)).trans K3.out);have HBB:=hid (HBB.out.trans (hb6.mono HBB.out.size));clear hb6 HOkc c0 c1 g20 g21 g30 g31 f20 f21 f30 f31;have c0:=z8 PB.out 0;have c1:=z8 PB.out 1;have g20:=z8 K2.out 0;have g21:=z8 K2.out 1;have g30:=z8 K3.out 0;have g31:=z8 K3.out 1;obtain⟨f20,f21⟩:=ffz2 K2.out;obtain⟨f30,f31⟩:=ffz2 K3.out;simp at c0 c1 g20 g21 g30 g31
    cases P with
    | false=>
      have HRR:=hid (HZ.out.trans (show (if false=true then (Except.ok (es,tr) : Except (Int×Nat) (List Ef×Tr)) else .error (8,0))= .error (8,0) from rfl));go_wp2_with fail
      obtain⟨r2,r3,rB,-⟩:=set4_is (.slice none 0 0) (.slice none 0 0) (.int .i64 8) (.int .i64 0) K2.out K3.out;unfold set4 at r2 r3 rB;refine read_end rfl rfl r2 r3 ?_;rw [HRR.out];exact⟨rfl,HBB.out.trans rB⟩
    | true=>
      have HRR:=hid (HZ.out.trans (show (if true=true then (Except.ok (es,tr) : Except (Int×Nat) (List Ef×Tr)) else .error (8,0))= .ok (es,tr) from rfl));go_wp2_with fail
      obtain⟨r2,r3,rB,rO⟩:=set4_is (.slice ade es.length cpe) (.slice (some ⟨bt,0,none⟩) L cpt) (.int .i64 0) (.int .i64 0) K2.out K3.out;unfold set4 at r2 r3 rB rO;refine read_end rfl rfl r2 r3 ?_;rw [HRR.out];have h1:=HNe.out;have h2:=HSz.out;refine⟨_,_,rfl,own_mono (y_same HOw.out (fun g hg=>rO g (by have:=(HOw.out.lt g hg).1; omega) (by have:=(HOw.out.lt g hg).1; omega))) (by omega),?_,HBB.out.trans rB⟩;have hOt:=HOt.out;rw [HLn.out] at hOt;show World.ownsRow _ _ _ _ _ (Tr.flat tr).length _;rw [HLn.out]
      exact own_mono (y_same hOt (fun g hg=>rO g (by have:=(hOt.lt g hg).1; omega) (by have:=(hOt.lt g hg).1; omega))) (by omega)
end
end Go.Proofs.YtfbojelpdccjaaaGreatDoor
