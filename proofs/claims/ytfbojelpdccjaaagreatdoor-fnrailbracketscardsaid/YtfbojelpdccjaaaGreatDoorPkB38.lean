import Derived.Lib.SmallJoins
import Derived.Test.YtfbojelpdccjaaaGreatDoorPkBS
import Derived.Test.YtfbojelpdccjaaaGreatDoorPkB33
import Derived.Test.YtfbojelpdccjaaaGreatDoorPkB36
set_option maxHeartbeats 8000000
set_option maxRecDepth 100000
namespace Go.Proofs.YtfbojelpdccjaaaGreatDoor
section
open Go.RowKit Go.Deep
theorem starts_cur {ws : List Wd} {sz i : Nat} : startsI ws i=begins (curI ws sz i):=by
 unfold startsI curI;by_cases hi : i < ws.length
 ·rw [if_pos hi,decide_eq_true hi,Bool.true_and]
 ·rw [if_neg hi,decide_eq_false hi,Bool.false_and];have:=no_bytes;unfold begins;dsimp only;rw [this];rfl
theorem dec_num : ∀ (l : List UInt8) (a : Nat),(∀ b∈l,48≤b.toNat∧b.toNat≤57)→Lib.decFrom a l=some (l.foldl (fun n b=>10*n+(b.toNat - 48)) a)
 | [],_,_=>rfl
 | b::r,a,h=>by
   unfold Lib.decFrom Lib.digitVal;rw [if_pos (h b (by simp))];dsimp only;rw [Nat.mul_comm a 10];exact dec_num r _ (fun x hx=>h x (by simp [hx]))
theorem atoi_num {t : ByteArray} (h : NumB t) (h0 : t.toList≠ []) : Lib.atoi t.data.toList=some (numZ t.toList : Int):=by
 have e:=bytes_list t;rw [e] at h0 ⊢;have h2:=h.2;rw [e] at h2;generalize t.data.toList=l at h0 h2 ⊢;match l,h0,h2 with
 | b::r,_,h2=>
   have hb:=h2 b (by simp);unfold Lib.atoi;dsimp only;rw [if_neg (by simp; intro e; subst e; revert hb; decide),if_neg (by simp; intro e; subst e; revert hb; decide)];unfold Lib.decNat;rw [if_neg (by simp),dec_num _ _ h2];rfl
section
variable {d : Dr} {ws : List Wd} {ad : Option Addr} {cp sz : Nat}
theorem isees_atom (i : Nat) (W : World) (h : RdAt d ws ad cp sz i W) :
 Calls Tryz.prog 150 #[.pointer (some ⟨d.B,0,none⟩)] W fun e W'=> e= .returned (.bool (startsI ws i))∧Below W.heap.size W W':= by
 have H:=hid h;rw [starts_cur (ws:=ws) (sz:=sz) (i:=i)];obtain⟨⟨kd,tx,wa⟩,hc⟩ : ∃ c,curI ws sz i=c:=⟨_,rfl⟩
 rw [hc];have HC:=hid hc;obtain⟨B,hB⟩ : ∃ b,begins ⟨kd,tx,wa⟩=b:=⟨_,rfl⟩
 rw [hB];have HB:=hid hB;clear h hc hB;go_enter Tryz.func150,Tryz.ntmps150
 go_wp2_with fail
 refine (peek_at H.out HC.out).mono ?_;rintro e X ⟨rfl,hb⟩;have HX:=hid (hb.trans (((Below.refl X.heap.size X).alloc (Nat.le_refl _) (.cells #[.int .i64 kd,.string tx,.int .i64 (wa : Int)] 76)).mono hb.size));clear hb;by_cases a0 : (tx.toList==([116,114,117,101] : List UInt8))=true
 ·have HV:=hid (HB.out.symm.trans (show begins ⟨kd,tx,wa⟩=true by simp [begins,kTrue,beq_iff_eq.1 a0]));go_wp2_with fail
  go_ret;rw [HV.out];exact⟨rfl,HX.out⟩
 have f0 : (tx.toList==([116,114,117,101] : List UInt8))=false:=by simpa using a0
 clear a0;by_cases a1 : (tx.toList==([102,97,108,115,101] : List UInt8))=true
 ·have HV:=hid (HB.out.symm.trans (show begins ⟨kd,tx,wa⟩=true by simp [begins,kFalse,beq_iff_eq.1 a1]));go_wp2_with fail
  go_ret;rw [HV.out];exact⟨rfl,HX.out⟩
 have f1 : (tx.toList==([102,97,108,115,101] : List UInt8))=false:=by simpa using a1
 clear a1;by_cases a2 : (tx.toList==([110,105,108] : List UInt8))=true
 ·have HV:=hid (HB.out.symm.trans (show begins ⟨kd,tx,wa⟩=true by simp [begins,kNil,beq_iff_eq.1 a2]));go_wp2_with fail
  go_ret;rw [HV.out];exact⟨rfl,HX.out⟩
 have f2 : (tx.toList==([110,105,108] : List UInt8))=false:=by simpa using a2
 clear a2;by_cases a3 : (tx.toList==([40] : List UInt8))=true
 ·have HV:=hid (HB.out.symm.trans (show begins ⟨kd,tx,wa⟩=true by simp [begins,gOpen,beq_iff_eq.1 a3]));go_wp2_with fail
  go_ret;rw [HV.out];exact⟨rfl,HX.out⟩
 have f3 : (tx.toList==([40] : List UInt8))=false:=by simpa using a3
 clear a3;by_cases a4 : (tx.toList==([104,97,110,100,108,101] : List UInt8))=true
 ·have HV:=hid (HB.out.symm.trans (show begins ⟨kd,tx,wa⟩=true by simp [begins,kHandle,beq_iff_eq.1 a4]));go_wp2_with fail
  go_ret;rw [HV.out];exact⟨rfl,HX.out⟩
 have f4 : (tx.toList==([104,97,110,100,108,101] : List UInt8))=false:=by simpa using a4
 clear a4;by_cases a5 : (tx.toList==([115,104,97,108,108,111,119] : List UInt8))=true
 ·have HV:=hid (HB.out.symm.trans (show begins ⟨kd,tx,wa⟩=true by simp [begins,kShallow,beq_iff_eq.1 a5]));go_wp2_with fail
  go_ret;rw [HV.out];exact⟨rfl,HX.out⟩
 have f5 : (tx.toList==([115,104,97,108,108,111,119] : List UInt8))=false:=by simpa using a5
 clear a5;have HV:=hid (HB.out.symm.trans (show begins ⟨kd,tx,wa⟩=(decide (kd=1) || decide (kd=2)) by simp only [begins,gOpen,kTrue,kFalse,kNil,kHandle,kShallow,f0,f1,f2,f3,f4,f5,Bool.or_false]));by_cases k1 : kd=1
 ·subst k1;go_wp2_with fail
  go_ret;rw [HV.out];exact⟨rfl,HX.out⟩
 by_cases k2 : kd=2
 ·subst k2;go_wp2_with fail
  go_ret;rw [HV.out];exact⟨rfl,HX.out⟩
 have k1' : (kd==1)=false:=by simpa using k1
 have k2' : (kd==2)=false:=by simpa using k2
 have HW:=hid (HV.out.trans (by rw [decide_eq_false k1,decide_eq_false k2]; rfl : _=false));go_wp2_with fail
 go_ret;rw [HW.out];exact⟨rfl,HX.out⟩
theorem inumber_calls {i : Nat} {W : World} {tx : ByteArray} {wa : Nat} (h : RdAt d ws ad cp sz i W) (hc : curI ws sz i=⟨1,tx,wa⟩) (hn : NumB tx) (h0 : tx.toList≠ []) (hi : i < ws.length) :
 Calls Tryz.prog 154 #[.pointer (some ⟨d.B,0,none⟩)] W (PostT d ws ad cp sz (.ok (mkT (ndN 1 (numZ tx.toList : Int)) [],i+1)) W):=by
 obtain⟨R,hR⟩ : ∃ R,(Except.ok (mkT (ndN 1 (numZ tx.toList : Int)) [],i+1) : Except Nat (Tr×Nat))=R:=⟨_,rfl⟩
 rw [hR];have HR:=hid hR;have S:=hid (St.start h);have hP:=peek_at h hc;have HP:=hid hP;have hat:=atoi_num hn h0;obtain⟨n,hnn⟩ : ∃ n : Int,(numZ tx.toList : Int)=n:=⟨_,rfl⟩
 rw [hnn] at hat HR;have HA:=hid (fun (X : World)=>Tryz.strconv_Atoi tx n (by have:=hn.1; omega) hat X);have hf:=fld_1 1 tx (wa : Int);have HW:=hid (And.intro (z17 (by have:=h.few; omega) : wrap64 ((i : Int)+1)=((i+1 : Nat) : Int)) hi);clear h hR hc hn h0 hP hat hnn hi;go_enter Tryz.func154,Tryz.ntmps154
 go_wp2_with fail
 refine HP.out.mono ?_;rintro e X ⟨rfl,hb⟩;have S:=hid (S.out.below hb);clear hb;go_wp2_with fail
 refine (HA.out X).mono ?_;rintro e Y ⟨rfl,t,hY⟩;have hbl : Below X.heap.size X Y:=by
  rw [hY];exact Joins.below_bytesWorld _ X _ t (Nat.le_refl _)
 have S:=hid (S.out.below hbl);clear hY hbl;have q1:=z8 S.out.rd.blk 1;have z1:=z12 S.out.rd.blk 1;simp at q1;go_wp2_with fail
 go_ret;rw [HW.out.1];have S:=S.out.go (S.out.rd.move (k:=i+1) HW.out.2) (grew_set Y 1 _);exact S.fin HR.out (S.mk0 .int)
theorem ibrack_calls (hw : BriefW ws) (ho : WordsOk ws) {f : Nat} (hc : PiAll d ws ad cp sz f) (i : Nat) (W : World) (h : RdAt d ws ad cp sz i W) (hm : mi ws 11 i≤f) :
 Calls Tryz.prog 155 #[.pointer (some ⟨d.B,0,none⟩)] W (PostT d ws ad cp sz (brackI ws (ipz ws f) i) W):=by
 obtain⟨R,hR⟩ : ∃ R,brackI ws (ipz ws f) i=R:=⟨_,rfl⟩
 rw [hR];have HR:=hid hR;have S:=hid (St.start h);have H:=hid (And.intro hw (And.intro ho hc));have M:=hid hm;have G:=hid (show i+0≤i from Nat.le_refl _);clear h hm hR hw ho hc;go_enter Tryz.func155,Tryz.ntmps155
 go_wp2_with fail
 by_cases z : seesI ws i gShut=true
 ·refine (z37 S.out.rd (by kernel_rfl) (by decide) z).mono ?_;rintro e X1 ⟨rfl,hr,hg⟩;have S:=hid (S.out.go hr hg);have HR:=hid (oi_t HR.out z);have G:=hid (show i+1≤i+1 by have:=G.out; omega);clear hr hg z;go_wp2_with fail
  go_ret;exact S.out.fin HR.out (S.out.mk0 .unit)
 refine (z34 (l:=gShut) S.out.rd (by kernel_rfl) (by decide) (by simpa using z)).mono ?_;rintro e X1 ⟨rfl,hr,hg⟩;have S:=hid (S.out.go hr hg);have HR:=hid (oi_f HR.out (by simpa using z));clear hr hg z;go_wp2_with fail
 refine (H.out.2.2.expr _ _ S.out.rd (by have h1:=G.out; have h2:=M.out; have h3:=S.out.rd.lt; unfold mi at h2 ⊢; omega)).mono ?_;intro e X2 hp;rcases z22 hp with ⟨j,hq,rfl,hg⟩ | ⟨t2,i2,hq,⟨T2,p2,rfl,hf⟩,hr,hg⟩
 ·exact⟨rfl,S.out.err (bi_er HR.out hq) hg⟩
 have G:=hid (show i+0≤i2 by have h1:=G.out; have h2:=z31 H.out.1 H.out.2.1 f NtR.expr trivial S.out.rd.lt hq; omega);have S:=hid (S.out.form hr hg hf);have HR:=hid (bi_ok HR.out hq);clear hp hq hf hr hg;go_wp2_with fail
 by_cases z : seesI ws i2 gComma=true
 ·refine (z37 S.out.rd (by kernel_rfl) (by decide) z).mono ?_;rintro e X3 ⟨rfl,hr,hg⟩;have S:=hid (S.out.go hr hg);have HR:=hid (oi_t HR.out z);have G:=hid (show i+1≤i2+1 by have:=G.out; omega);clear hr hg z;go_wp2_with fail
  refine (H.out.2.2.expr _ _ S.out.rd (by have h1:=G.out; have h2:=M.out; have h3:=S.out.rd.lt; unfold mi at h2 ⊢; omega)).mono ?_;intro e X4 hp;rcases z22 hp with ⟨j,hq,rfl,hg⟩ | ⟨t4,i4,hq,⟨T4,p4,rfl,hf⟩,hr,hg⟩
  ·exact⟨rfl,S.out.err (bi_er HR.out hq) hg⟩
  have G:=hid (show i+1≤i4 by have h1:=G.out; have h2:=z31 H.out.1 H.out.2.1 f NtR.expr trivial S.out.rd.lt hq; omega);have S:=hid (S.out.form hr hg hf);have HR:=hid (bi_ok HR.out hq);clear hp hq hf hr hg;go_wp2_with fail
  have S:=hid (S.out.fold (S.out.mk2 (.tail _ (.head _)) (.head _) (n:=nd0 16) (v:= .iface 168 (.agg #[.iface T2 p2,.iface T4 p4])) .pair));refine (must1 _ S.out.rd (l1:=gShut) (by kernel_rfl) (by decide)).mono ?_;intro e X5 hp;rcases z22 hp with ⟨j,hq,rfl,hg⟩ | ⟨u,i5,hq,⟨v,rfl⟩,hr,hg⟩
  ·exact⟨rfl,S.out.err (m1_er HR.out hq) hg⟩
  have HQ:=m1_ok HR.out hq;have G:=hid (show i+2≤i5 by have h1:=G.out; have h2:=HQ.2; omega);have S:=hid (S.out.go hr hg);have HR:=hid HQ.1;clear hp hq hr hg HQ;go_wp2_with fail
  go_ret;exact S.out.fin HR.out (S.out.same (.head _))
 refine (z34 (l:=gComma) S.out.rd (by kernel_rfl) (by decide) (by simpa using z)).mono ?_;rintro e X3 ⟨rfl,hr,hg⟩;have S:=hid (S.out.go hr hg);have HR:=hid (oi_f HR.out (by simpa using z));clear hr hg z;go_wp2_with fail
 refine (must1 _ S.out.rd (l1:=gShut) (by kernel_rfl) (by decide)).mono ?_;intro e X6 hp;rcases z22 hp with ⟨j,hq,rfl,hg⟩ | ⟨u,i6,hq,⟨v,rfl⟩,hr,hg⟩
 ·exact⟨rfl,S.out.err (m1_er HR.out hq) hg⟩
 have HQ:=m1_ok HR.out hq;have G:=hid (show i+1≤i6 by have h1:=G.out; have h2:=HQ.2; omega);have S:=hid (S.out.go hr hg);have HR:=hid HQ.1;clear hp hq hr hg HQ;go_wp2_with fail
 go_ret;exact S.out.fin HR.out (S.out.same (.head _))
theorem iatom_calls (hw : BriefW ws) (ho : WordsOk ws) {f : Nat} (hc : PiAll d ws ad cp sz f) (i : Nat) (W : World) (h : RdAt d ws ad cp sz i W) (hm : mi ws 2 i≤f+1) (hnum : NumW ws) (hne : ∀ w∈ws,w.kind=1→w.text.toList≠ []) :
 Calls Tryz.prog 151 #[.pointer (some ⟨d.B,0,none⟩)] W (PostT d ws ad cp sz (ipz ws (f+1) .atom i) W):=by
 obtain⟨R,hR⟩ : ∃ R,ipz ws (f+1) .atom i=R:=⟨_,rfl⟩
 rw [hR];have HR:=hid (show atomI ws (ipz ws f) i=R from hR);obtain⟨⟨kd,tx,wa⟩,hcc⟩ : ∃ c,curI ws sz i=c:=⟨_,rfl⟩
 have HC:=hid hcc;have HN:=hid (And.intro hnum hne);have S:=hid (St.start h);have H:=hid (And.intro hw (And.intro ho hc));have M:=hid hm;have G:=hid (show i+0≤i from Nat.le_refl _);clear hnum hne hcc h hm hR hw ho hc;go_enter Tryz.func151,Tryz.ntmps151
 go_wp2_with fail
 refine (peek_at S.out.rd HC.out).mono ?_;rintro e X0 ⟨rfl,hb⟩;have S:=hid (S.out.below hb);have hf:=fld_0 kd tx (wa : Int);clear hb;have hlt : begins ⟨kd,tx,wa⟩=true→i < ws.length:=fun hx=>by
  have h1:=HC.out;unfold curI at h1;split at h1
  ·assumption
  ·simp at h1;obtain⟨h2,h3,-⟩:=h1;subst h2 h3;exact absurd hx (by unfold begins; dsimp only; rw [no_bytes]; exact Bool.false_ne_true)
 have HL:=hid hlt;clear hlt;have hat : begins ⟨kd,tx,wa⟩=true→wordI ws (ipz ws f) ⟨kd,tx,wa⟩ (i+1)=R:=fun hx=>by
  have h1:=HR.out;have h2:=HC.out;unfold curI at h2;rw [if_pos (HL.out hx)] at h2;unfold atomI startsI at h1;rw [h2,hx,decide_eq_true (HL.out hx)] at h1;exact h1
 have hno : begins ⟨kd,tx,wa⟩=false→Except.error i=R:=fun hx=>by
  have h1:=HR.out;have h2:=starts_cur (ws:=ws) (sz:=sz) (i:=i);rw [HC.out,hx] at h2;unfold atomI at h1;rw [h2] at h1;exact h1
 have HAt:=hid hat;have HNo:=hid hno;have M2:=hid (fun (hx : begins ⟨kd,tx,wa⟩=true)=>show mi ws 12 (i+1)≤f by have h1:=HL.out hx; have h2:=M.out; unfold mi at h2 ⊢; omega);clear hat hno;by_cases k1 : kd=1
 ·subst k1;go_wp2_with fail
  have hmem : curW ws i∈ws:=cur_mem (HL.out (by simp [begins]));have h2:=HC.out;unfold curI at h2;rw [if_pos (HL.out (by simp [begins]))] at h2;rw [h2] at hmem;refine (inumber_calls S.out.rd HC.out (HN.out.1 _ hmem rfl) (HN.out.2 _ hmem rfl) (HL.out (by simp [begins]))).mono ?_;rintro e X1 ⟨⟨T1,p1,rfl,hf⟩,hr,hg⟩;have S:=hid (S.out.form hr hg hf);have HR:=hid (HAt.out (by simp [begins]));clear hf hr hg hmem h2;go_wp2_with fail
  go_ret;exact S.out.fin (show Except.ok (_,i+1)=R from (by have h1:=HR.out; unfold wordI at h1; rw [if_pos rfl] at h1; exact h1)) (S.out.same (.head _))
 have g1 : (kd==1)=false:=by simpa using k1
 go_wp2_with fail
 refine (peek_at S.out.rd HC.out).mono ?_;rintro e X1 ⟨rfl,hb⟩;have S:=hid (S.out.below hb);clear hb;by_cases k2 : kd=2
 ·subst k2;go_wp2_with fail
  have hn : nameI ws i= .ok (tx,i+1):=by
   have h2:=HC.out;unfold curI at h2;rw [if_pos (HL.out (by simp [begins]))] at h2;unfold nameI;rw [h2,if_pos ⟨HL.out (by simp [begins]),rfl⟩]
  have hnc:=z41 (d:=d) (ws:=ws) (ad:=ad) (cp:=cp) (sz:=sz) i X1 S.out.rd;rw [hn] at hnc;refine hnc.mono ?_;rintro e X2 ⟨rfl,hr,hg⟩;have S:=hid (S.out.go hr hg);have HR:=hid (HAt.out (by simp [begins]));clear hr hg hn hnc;go_wp2_with fail
  go_ret;exact S.out.fin (show Except.ok (mkT (nd1 5 tx) [],i+1)=R from (by have h1:=HR.out; unfold wordI at h1; rw [if_neg (show ¬ (2 : Int)=1 by decide),if_pos rfl] at h1; exact h1)) (S.out.mk0 .var)
 have g2 : (kd==2)=false:=by simpa using k2
 have HB:=hid (show begins ⟨kd,tx,wa⟩=((tx.toList==gOpen) || ((tx.toList==kTrue) || ((tx.toList==kFalse) || ((tx.toList==kNil) || ((tx.toList==kHandle) || (tx.toList==kShallow)))))) by simp [begins,k1,k2]);have HS:=hid (fun (l : List UInt8) (hl : l≠ [])=>(show (tx.toList==l)=seesI ws i l by have h1:=sees_cur (ws:=ws) (sz:=sz) (i:=i) hl; rw [HC.out] at h1; exact h1));have HK:=hid (And.intro k1 k2);clear k1 k2;go_wp2_with fail
 clear g1 g2 hf;by_cases z : seesI ws i kTrue=true
 ·refine (z37 S.out.rd (by kernel_rfl) (by decide) z).mono ?_;rintro e X2 ⟨rfl,hr,hg⟩;have S:=hid (S.out.go hr hg);have hx : begins ⟨kd,tx,wa⟩=true:=by rw [HB.out,HS.out kTrue (by decide),z]; simp
  have h1:=HAt.out hx;have M:=hid (M2.out hx);unfold wordI at h1;rw [if_neg HK.out.1,if_neg HK.out.2] at h1;dsimp only at h1;rw [if_pos (by rw [HS.out kTrue (by decide)]; exact z)] at h1;have HR:=hid h1;clear hr hg z hx h1;go_wp2_with fail
  go_ret;exact S.out.fin HR.out (S.out.mk0 .bool)
 refine (z34 (l:=kTrue) S.out.rd (by kernel_rfl) (by decide) (by simpa using z)).mono ?_;rintro e X2 ⟨rfl,hr,hg⟩;have S:=hid (S.out.go hr hg);have FkTrue:=hid (show seesI ws i kTrue=false by simpa using z);clear hr hg z;go_wp2_with fail
 by_cases z : seesI ws i kFalse=true
 ·refine (z37 S.out.rd (by kernel_rfl) (by decide) z).mono ?_;rintro e X3 ⟨rfl,hr,hg⟩;have S:=hid (S.out.go hr hg);have hx : begins ⟨kd,tx,wa⟩=true:=by rw [HB.out,HS.out kFalse (by decide),z]; simp
  have h1:=HAt.out hx;have M:=hid (M2.out hx);unfold wordI at h1;rw [if_neg HK.out.1,if_neg HK.out.2] at h1;dsimp only at h1;rw [if_neg (by rw [HS.out kTrue (by decide),FkTrue.out]; decide)] at h1;rw [if_pos (by rw [HS.out kFalse (by decide)]; exact z)] at h1;have HR:=hid h1;clear hr hg z hx h1;go_wp2_with fail
  go_ret;exact S.out.fin HR.out (S.out.mk0 .bool)
 refine (z34 (l:=kFalse) S.out.rd (by kernel_rfl) (by decide) (by simpa using z)).mono ?_;rintro e X3 ⟨rfl,hr,hg⟩;have S:=hid (S.out.go hr hg);have FkFalse:=hid (show seesI ws i kFalse=false by simpa using z);clear hr hg z;go_wp2_with fail
 by_cases z : seesI ws i kNil=true
 ·refine (z37 S.out.rd (by kernel_rfl) (by decide) z).mono ?_;rintro e X4 ⟨rfl,hr,hg⟩;have S:=hid (S.out.go hr hg);have hx : begins ⟨kd,tx,wa⟩=true:=by rw [HB.out,HS.out kNil (by decide),z]; simp
  have h1:=HAt.out hx;have M:=hid (M2.out hx);unfold wordI at h1;rw [if_neg HK.out.1,if_neg HK.out.2] at h1;dsimp only at h1;rw [if_neg (by rw [HS.out kTrue (by decide),FkTrue.out]; decide)] at h1;rw [if_neg (by rw [HS.out kFalse (by decide),FkFalse.out]; decide)] at h1;rw [if_pos (by rw [HS.out kNil (by decide)]; exact z)] at h1;have HR:=hid h1;clear hr hg z hx h1;go_wp2_with fail
  go_ret;exact S.out.fin HR.out (S.out.mk0 .nil)
 refine (z34 (l:=kNil) S.out.rd (by kernel_rfl) (by decide) (by simpa using z)).mono ?_;rintro e X4 ⟨rfl,hr,hg⟩;have S:=hid (S.out.go hr hg);have FkNil:=hid (show seesI ws i kNil=false by simpa using z);clear hr hg z;go_wp2_with fail
 by_cases z : seesI ws i gOpen=true
 ·refine (z37 S.out.rd (by kernel_rfl) (by decide) z).mono ?_;rintro e X5 ⟨rfl,hr,hg⟩;have S:=hid (S.out.go hr hg);have hx : begins ⟨kd,tx,wa⟩=true:=by rw [HB.out,HS.out gOpen (by decide),z]; simp
  have h1:=HAt.out hx;have M:=hid (M2.out hx);unfold wordI at h1;rw [if_neg HK.out.1,if_neg HK.out.2] at h1;dsimp only at h1;rw [if_neg (by rw [HS.out kTrue (by decide),FkTrue.out]; decide)] at h1;rw [if_neg (by rw [HS.out kFalse (by decide),FkFalse.out]; decide)] at h1;rw [if_neg (by rw [HS.out kNil (by decide),FkNil.out]; decide)] at h1;rw [if_neg (fun e=>(by have e1:=beq_iff_eq.1 ((HS.out gOpen (by decide)).trans z); rw [e1] at e; exact absurd e (by decide)))] at h1
  rw [if_neg (fun e=>(by have e1:=beq_iff_eq.1 ((HS.out gOpen (by decide)).trans z); rw [e1] at e; exact absurd e (by decide)))] at h1;have HR:=hid h1;clear hr hg z hx h1;go_wp2_with fail
  refine (ibrack_calls H.out.1 H.out.2.1 H.out.2.2 _ _ S.out.rd (by have h1:=M.out; unfold mi at h1 ⊢; omega)).mono ?_;intro e X5 hp;rcases z22 hp with ⟨j,hq,rfl,hg⟩ | ⟨t5,i5,hq,⟨T5,p5,rfl,hf⟩,hr,hg⟩
  ·exact⟨rfl,S.out.err (hq.symm.trans HR.out) hg⟩
  have S:=hid (S.out.form hr hg hf);have HR:=hid (hq.symm.trans HR.out);clear hp hq hf hr hg;go_wp2_with fail
  go_ret;exact S.out.fin HR.out (S.out.same (.head _))
 refine (z34 (l:=gOpen) S.out.rd (by kernel_rfl) (by decide) (by simpa using z)).mono ?_;rintro e X5 ⟨rfl,hr,hg⟩;have S:=hid (S.out.go hr hg);have FgOpen:=hid (show seesI ws i gOpen=false by simpa using z);clear hr hg z;go_wp2_with fail
 by_cases z : seesI ws i kHandle=true
 ·refine (z37 S.out.rd (by kernel_rfl) (by decide) z).mono ?_;rintro e X6 ⟨rfl,hr,hg⟩;have S:=hid (S.out.go hr hg);have hx : begins ⟨kd,tx,wa⟩=true:=by rw [HB.out,HS.out kHandle (by decide),z]; simp
  have h1:=HAt.out hx;have M:=hid (M2.out hx);unfold wordI at h1;rw [if_neg HK.out.1,if_neg HK.out.2] at h1;dsimp only at h1;rw [if_neg (by rw [HS.out kTrue (by decide),FkTrue.out]; decide)] at h1;rw [if_neg (by rw [HS.out kFalse (by decide),FkFalse.out]; decide)] at h1;rw [if_neg (by rw [HS.out kNil (by decide),FkNil.out]; decide)] at h1;rw [if_pos (by rw [HS.out kHandle (by decide)]; exact z)] at h1;have HR:=hid h1;clear hr hg z hx h1;go_wp2_with fail
  refine (H.out.2.2.hand 23 _ _ S.out.rd M.out (by simp)).mono ?_;intro e X6 hp;rcases z22 hp with ⟨j,hq,rfl,hg⟩ | ⟨t6,i6,hq,⟨T6,p6,rfl,hf⟩,hr,hg⟩
  ·exact⟨rfl,S.out.err (hq.symm.trans HR.out) hg⟩
  have S:=hid (S.out.form hr hg hf);have HR:=hid (hq.symm.trans HR.out);clear hp hq hf hr hg;go_wp2_with fail
  go_ret;exact S.out.fin HR.out (S.out.same (.head _))
 refine (z34 (l:=kHandle) S.out.rd (by kernel_rfl) (by decide) (by simpa using z)).mono ?_;rintro e X6 ⟨rfl,hr,hg⟩;have S:=hid (S.out.go hr hg);have FkHandle:=hid (show seesI ws i kHandle=false by simpa using z);clear hr hg z;go_wp2_with fail
 by_cases z : seesI ws i kShallow=true
 ·refine (z37 S.out.rd (by kernel_rfl) (by decide) z).mono ?_;rintro e X7 ⟨rfl,hr,hg⟩;have S:=hid (S.out.go hr hg);have hx : begins ⟨kd,tx,wa⟩=true:=by rw [HB.out,HS.out kShallow (by decide),z]; simp
  have h1:=HAt.out hx;have M:=hid (M2.out hx);unfold wordI at h1;rw [if_neg HK.out.1,if_neg HK.out.2] at h1;dsimp only at h1;rw [if_neg (by rw [HS.out kTrue (by decide),FkTrue.out]; decide)] at h1;rw [if_neg (by rw [HS.out kFalse (by decide),FkFalse.out]; decide)] at h1;rw [if_neg (by rw [HS.out kNil (by decide),FkNil.out]; decide)] at h1;rw [if_neg (by rw [HS.out kHandle (by decide),FkHandle.out]; decide)] at h1;rw [if_pos (by rw [HS.out kShallow (by decide)]; exact z)] at h1;have HR:=hid h1;clear hr hg z hx h1;go_wp2_with fail
  refine (H.out.2.2.hand 24 _ _ S.out.rd M.out (by simp)).mono ?_;intro e X7 hp;rcases z22 hp with ⟨j,hq,rfl,hg⟩ | ⟨t7,i7,hq,⟨T7,p7,rfl,hf⟩,hr,hg⟩
  ·exact⟨rfl,S.out.err (hq.symm.trans HR.out) hg⟩
  have S:=hid (S.out.form hr hg hf);have HR:=hid (hq.symm.trans HR.out);clear hp hq hf hr hg;go_wp2_with fail
  go_ret;exact S.out.fin HR.out (S.out.same (.head _))
 refine (z34 (l:=kShallow) S.out.rd (by kernel_rfl) (by decide) (by simpa using z)).mono ?_;rintro e X7 ⟨rfl,hr,hg⟩;have S:=hid (S.out.go hr hg);have FkShallow:=hid (show seesI ws i kShallow=false by simpa using z);clear hr hg z;go_wp2_with fail
 refine (misfit_calls _ _ S.out.rd).mono ?_;rintro e Y ⟨rfl,hb⟩;go_wp2_with fail
 refine⟨rfl,S.out.err (HNo.out ?_) (Grew.of_below hb)⟩;rw [HB.out,HS.out gOpen (by decide),HS.out kTrue (by decide),HS.out kFalse (by decide),HS.out kNil (by decide),HS.out kHandle (by decide),HS.out kShallow (by decide),FgOpen.out,FkTrue.out,FkFalse.out,FkNil.out,FkHandle.out,FkShallow.out];rfl
end
end
end Go.Proofs.YtfbojelpdccjaaaGreatDoor
