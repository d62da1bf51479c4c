import Derived.Test.YtfbojelpdccjaaaGreatDoorPkB38
import Derived.Test.YtfbojelpdccjaaaGreatDoorPkB37
import Derived.Test.YtfbojelpdccjaaaGreatDoorPkB33
import Derived.Test.YtfbojelpdccjaaaGreatDoorPkB36
set_option maxHeartbeats 8000000
set_option maxRecDepth 100000
namespace Go.Proofs.YtfbojelpdccjaaaGreatDoor
open Go.RowKit Go.Deep
variable {f k : Nat}
section
open Go.RowKit Go.Deep
theorem cl_t {ws : List Wd} {go : Nt Tr→PI Tr} {a : Tr} {R : Except Nat (Tr×Nat)} (h : callLI ws go a k=R) (hs : startsI ws k=true) : bindI (go .atom) (fun b=>go (.callL (mkT (nd0 7) [a,b]))) k=R:=by
 unfold callLI at h;rw [if_pos hs] at h;exact h
theorem cl_f {ws : List Wd} {go : Nt Tr→PI Tr} {a : Tr} {R : Except Nat (Tr×Nat)} (h : callLI ws go a k=R) (hs : startsI ws k=false) : Except.ok (a,k)=R:=by
 unfold callLI at h;rw [hs] at h;exact h
section
variable {d : Dr} {ws : List Wd} {ad : Option Addr} {cp sz : Nat}
theorem ihead_calls (hw : BriefW ws) (ho : WordsOk ws) (hc : PiAll d ws ad cp sz f) (i : Nat) (W : World) (h : RdAt d ws ad cp sz i W) (hm : mi ws 3 i≤f) :
 Calls Tryz.prog 149 #[.pointer (some ⟨d.B,0,none⟩)] W (PostT d ws ad cp sz (headI ws (ipz ws f) i) W):=by
 obtain⟨R,hR⟩ : ∃ R,headI ws (ipz ws f) i=R:=⟨_,rfl⟩
 rw [hR];have HR:=hid hR;have S:=hid (St.start h);have H:=hid (And.intro hw (And.intro ho hc));have M:=hid hm;have G:=hid (show i+0≤i from Nat.le_refl _);clear h hm hR hw ho hc;go_enter Tryz.func149,Tryz.ntmps149
 go_wp2_with fail
 by_cases z : seesI ws i kFst=true
 ·refine (z37 S.out.rd (by kernel_rfl) (by decide) z).mono ?_;rintro e X1 ⟨rfl,hr,hg⟩;have S:=hid (S.out.go hr hg);have HR:=hid (oi_t HR.out z);have G:=hid (show i+1≤i+1 by have:=G.out; omega);clear hr hg z;go_wp2_with fail
  refine (H.out.2.2.atom _ _ S.out.rd (by have h1:=G.out; have h2:=M.out; have h3:=S.out.rd.lt; unfold mi at h2 ⊢; omega)).mono ?_;intro e X2 hp;rcases z22 hp with ⟨j,hq,rfl,hg⟩ | ⟨t2,i2,hq,⟨T2,p2,rfl,hf⟩,hr,hg⟩
  ·exact⟨rfl,S.out.err (bi_er HR.out hq) hg⟩
  have G:=hid (show i+1≤i2 by have h1:=G.out; have h2:=z31 H.out.1 H.out.2.1 f NtR.atom trivial S.out.rd.lt hq; omega);have S:=hid (S.out.form hr hg hf);have HR:=hid (bi_ok HR.out hq);clear hp hq hf hr hg;go_wp2_with fail
  go_ret;exact S.out.fin HR.out (S.out.mk1 (.head _) (.take (k:=17) (by simp)))
 refine (z34 (l:=kFst) S.out.rd (by kernel_rfl) (by decide) (by simpa using z)).mono ?_;rintro e X1 ⟨rfl,hr,hg⟩;have S:=hid (S.out.go hr hg);have HR:=hid (oi_f HR.out (by simpa using z));clear hr hg z;go_wp2_with fail
 by_cases z : seesI ws i kSnd=true
 ·refine (z37 S.out.rd (by kernel_rfl) (by decide) z).mono ?_;rintro e X3 ⟨rfl,hr,hg⟩;have S:=hid (S.out.go hr hg);have HR:=hid (oi_t HR.out z);have G:=hid (show i+1≤i+1 by have:=G.out; omega);clear hr hg z;go_wp2_with fail
  refine (H.out.2.2.atom _ _ S.out.rd (by have h1:=G.out; have h2:=M.out; have h3:=S.out.rd.lt; unfold mi at h2 ⊢; omega)).mono ?_;intro e X4 hp;rcases z22 hp with ⟨j,hq,rfl,hg⟩ | ⟨t4,i4,hq,⟨T4,p4,rfl,hf⟩,hr,hg⟩
  ·exact⟨rfl,S.out.err (bi_er HR.out hq) hg⟩
  have G:=hid (show i+1≤i4 by have h1:=G.out; have h2:=z31 H.out.1 H.out.2.1 f NtR.atom trivial S.out.rd.lt hq; omega);have S:=hid (S.out.form hr hg hf);have HR:=hid (bi_ok HR.out hq);clear hp hq hf hr hg;go_wp2_with fail
  go_ret;exact S.out.fin HR.out (S.out.mk1 (.head _) (.take (k:=18) (by simp)))
 refine (z34 (l:=kSnd) S.out.rd (by kernel_rfl) (by decide) (by simpa using z)).mono ?_;rintro e X3 ⟨rfl,hr,hg⟩;have S:=hid (S.out.go hr hg);have HR:=hid (oi_f HR.out (by simpa using z));clear hr hg z;go_wp2_with fail
 by_cases z : seesI ws i kPrint=true
 ·refine (z37 S.out.rd (by kernel_rfl) (by decide) z).mono ?_;rintro e X5 ⟨rfl,hr,hg⟩;have S:=hid (S.out.go hr hg);have HR:=hid (oi_t HR.out z);have G:=hid (show i+1≤i+1 by have:=G.out; omega);clear hr hg z;go_wp2_with fail
  refine (H.out.2.2.atom _ _ S.out.rd (by have h1:=G.out; have h2:=M.out; have h3:=S.out.rd.lt; unfold mi at h2 ⊢; omega)).mono ?_;intro e X6 hp;rcases z22 hp with ⟨j,hq,rfl,hg⟩ | ⟨t6,i6,hq,⟨T6,p6,rfl,hf⟩,hr,hg⟩
  ·exact⟨rfl,S.out.err (bi_er HR.out hq) hg⟩
  have G:=hid (show i+1≤i6 by have h1:=G.out; have h2:=z31 H.out.1 H.out.2.1 f NtR.atom trivial S.out.rd.lt hq; omega);have S:=hid (S.out.form hr hg hf);have HR:=hid (bi_ok HR.out hq);clear hp hq hf hr hg;go_wp2_with fail
  go_ret;exact S.out.fin HR.out (S.out.mk1 (.head _) (.take (k:=21) (by simp)))
 refine (z34 (l:=kPrint) S.out.rd (by kernel_rfl) (by decide) (by simpa using z)).mono ?_;rintro e X5 ⟨rfl,hr,hg⟩;have S:=hid (S.out.go hr hg);have HR:=hid (oi_f HR.out (by simpa using z));clear hr hg z;go_wp2_with fail
 by_cases z : seesI ws i kDo=true
 ·refine (z37 S.out.rd (by kernel_rfl) (by decide) z).mono ?_;rintro e X7 ⟨rfl,hr,hg⟩;have S:=hid (S.out.go hr hg);have HR:=hid (oi_t HR.out z);have G:=hid (show i+1≤i+1 by have:=G.out; omega);clear hr hg z;go_wp2_with fail
  refine (z41 _ _ S.out.rd).mono ?_;intro e X8 hp;rcases z22 hp with ⟨j,hq,rfl,hg⟩ | ⟨n8,i8,hq,rfl,hr,hg⟩
  ·exact⟨rfl,S.out.err (bi_er HR.out hq) hg⟩
  have G:=hid (show i+2≤i8 by have h1:=G.out; have h2:=name_on hq; omega);have S:=hid (S.out.go hr hg);have HR:=hid (bi_ok HR.out hq);clear hp hq hr hg;go_wp2_with fail
  have S:=hid (S.out.alloc #[.string n8,.nilIface] 176);try rw [show X8.heap.size+1=(X8.alloc (.cells #[.string n8,.nilIface] 176)).heap.size by simp]
  obtain⟨Y9,hY⟩ : ∃ y,X8.alloc (.cells #[.string n8,.nilIface] 176)=y:=⟨_,rfl⟩
  rw [hY] at S ⊢;obtain⟨g9,hg⟩ : ∃ g,X8.heap.size=g:=⟨_,rfl⟩
  rw [hg] at S ⊢;clear hY hg;refine (H.out.2.2.atom _ _ S.out.rd (by have h1:=G.out; have h2:=M.out; have h3:=S.out.rd.lt; unfold mi at h2 ⊢; omega)).mono ?_;intro e X10 hp;rcases z22 hp with ⟨j,hq,rfl,hg⟩ | ⟨t10,i10,hq,⟨T10,p10,rfl,hf⟩,hr,hg⟩
  ·exact⟨rfl,S.out.err (bi_er HR.out hq) hg⟩
  have G:=hid (show i+2≤i10 by have h1:=G.out; have h2:=z31 H.out.1 H.out.2.1 f NtR.atom trivial S.out.rd.lt hq; omega);have S:=hid (S.out.form hr hg hf);have HR:=hid (bi_ok HR.out hq);clear hp hq hf hr hg;have b0:=z8 S.out.box 0;have b1:=z8 S.out.box 1;have z:=z12 S.out.box 1;simp at b0 b1;go_wp2_with fail
  have S:=hid (S.out.put 1 (.iface T10 p10));go_ret;exact S.out.fin HR.out (S.out.mk1 (.head _) .perform)
 refine (z34 (l:=kDo) S.out.rd (by kernel_rfl) (by decide) (by simpa using z)).mono ?_;rintro e X7 ⟨rfl,hr,hg⟩;have S:=hid (S.out.go hr hg);have HR:=hid (oi_f HR.out (by simpa using z));clear hr hg z;go_wp2_with fail
 refine (H.out.2.2.atom _ _ S.out.rd (by have h1:=G.out; have h2:=M.out; have h3:=S.out.rd.lt; unfold mi at h2 ⊢; omega)).mono ?_;intro e X11 hp;rcases z22 hp with ⟨j,hq,rfl,hg⟩ | ⟨t11,i11,hq,⟨T11,p11,rfl,hf⟩,hr,hg⟩
 ·exact⟨rfl,S.out.err (hq.symm.trans HR.out) hg⟩
 have G:=hid (show i+0≤i11 by have h1:=G.out; have h2:=z31 H.out.1 H.out.2.1 f NtR.atom trivial S.out.rd.lt hq; omega);have S:=hid (S.out.form hr hg hf);have HR:=hid (hq.symm.trans HR.out);clear hp hq hf hr hg;go_wp2_with fail
 go_ret;exact S.out.fin HR.out (S.out.same (.head _))
theorem head_goes (hw : BriefW ws) (ho : WordsOk ws) {i : Nat} {t : Tr} (hi : i≤ws.length) (h : headI ws (ipz ws f) i= .ok (t,k)) : i≤k:=by
 have hat : ∀ {j k : Nat} {t : Tr},j≤ws.length→ipz ws f .atom j= .ok (t,k)→j≤k:=fun hj hq=>(z31 hw ho f NtR.atom trivial hj hq).1
 have hone : ∀ {n : Nd} {j k : Nat} {t : Tr},j≤ws.length→bindI (ipz ws f .atom) (fun a=>pureI (mkT n [a])) j= .ok (t,k)→j≤k:=fun {n j k t} hj hq=>by
  cases h1 : ipz ws f .atom j with
  | error e=>exact absurd (bi_er hq h1) (by simp)
  | ok r=>
    obtain⟨a,b⟩:=r;have h2:=bi_ok hq h1;have h3:=hat hj h1;simp only [pureI,Except.ok.injEq,Prod.mk.injEq] at h2;omega
 have hs : ∀ l,seesI ws i l=true→i+1≤ws.length:=fun l hz=>by unfold seesI at hz; simp at hz; exact hz.1
 unfold headI orI at h;repeat' split at h
 ·have:=hone (hs _ (by assumption)) h; omega
 ·have:=hone (hs _ (by assumption)) h; omega
 ·have:=hone (hs _ (by assumption)) h; omega
 ·cases h1 : nameI ws (i+1) with
  | error e=>exact absurd (bi_er h h1) (by simp)
  | ok r=>
    obtain⟨a,b⟩:=r;have h2:=bi_ok h h1;have h3:=name_on h1;have h4 : b≤ws.length:=by
     unfold nameI at h1;split at h1
     ·rename_i hc;have:=hc.1;omega
     ·cases h1
    have:=hone h4 h2;omega
 ·exact hat hi h
theorem icall_calls (hw : BriefW ws) (ho : WordsOk ws) (ha : ∀ g,g≤f→PiAll d ws ad cp sz g) (i : Nat) (W : World) (h : RdAt d ws ad cp sz i W) (hm : mi ws 4 i≤f+1) :
 Calls Tryz.prog 145 #[.pointer (some ⟨d.B,0,none⟩)] W (PostT d ws ad cp sz (ipz ws (f+1) .call i) W):=by
 obtain⟨R,hR⟩ : ∃ R,ipz ws (f+1) .call i=R:=⟨_,rfl⟩
 rw [hR];have HR:=hid (show callI ws (ipz ws f) i=R from hR);have S:=hid (St.start h);have H:=hid (And.intro hw (And.intro ho (ha f (Nat.le_refl f))));have M:=hid hm;have G:=hid (show i+0≤i from Nat.le_refl _);have HA:=hid ha;clear h hm hR hw ho ha;go_enter Tryz.func145,Tryz.ntmps145
 go_wp2_with fail
 refine (ihead_calls H.out.1 H.out.2.1 H.out.2.2 _ _ S.out.rd (by have h1:=G.out; have h2:=M.out; have h3:=S.out.rd.lt; unfold mi at h2 ⊢; omega)).mono ?_;intro e X1 hp;rcases z22 hp with ⟨j,hq,rfl,hg⟩ | ⟨t1,i1,hq,⟨T1,p1,rfl,hf⟩,hr,hg⟩
 ·exact⟨rfl,S.out.err (bi_er HR.out hq) hg⟩
 have HGo:=hid (show i≤i1 from head_goes H.out.1 H.out.2.1 S.out.rd.lt hq);have S:=hid (S.out.form hr hg hf);have HR:=hid (bi_ok HR.out hq);clear hp hq hf hr hg;go_wp2_with fail
 have G:=hid (show i+0≤i1 from HGo.out);have S:=hid (S.out.fold (S.out.same (.head _)));go_loopw [3] (fun v wr=>Hid (LoopR d ws ad cp sz f Nt.callL 3 R W v wr)) (fun _ wr=>ws.length - posOf d wr)
 case atStart=>exact hid ⟨t1,T1,p1,f,i1,rfl,S.out,HR.out,(by have h1:=G.out; have h2:=M.out; have h3:=S.out.rd.lt; unfold mi at h2 ⊢; omega),Nat.le_refl _⟩
 case round=>
  obtain⟨t,T,p,g,k,rfl,hS,hF,hm,hg⟩:=hrel.out;clear hrel;obtain⟨g,rfl⟩ : ∃ x,g=x+1:=⟨g - 1,by unfold mi at hm; omega⟩
  have S:=hid hS;have HR:=hid (show callLI ws (ipz ws g) t k=R from hF);have M:=hid hm;have HG:=hid hg;have HP:=hid (rd_pos hS.rd);have H:=hid (And.intro H.out.1 (And.intro H.out.2.1 (HA.out g (by omega))));have G:=hid (show k+0≤k from Nat.le_refl _);clear hS hF hm hg;go_wp2_with fail
  refine (isees_atom _ _ S.out.rd).mono ?_;rintro e Xs ⟨rfl,hb⟩;have S:=hid (S.out.below hb);clear hb;by_cases z : startsI ws k=true
  ·rw [z];have HR:=hid (cl_t HR.out z);clear z;go_wp2_with fail
   refine (H.out.2.2.atom _ _ S.out.rd (by have h1:=G.out; have h2:=M.out; have h3:=S.out.rd.lt; unfold mi at h2 ⊢; omega)).mono ?_;intro e X2 hp;rcases z22 hp with ⟨j,hq,rfl,hg⟩ | ⟨t2,i2,hq,⟨T2,p2,rfl,hf⟩,hr,hg⟩
   ·exact⟨rfl,S.out.err (bi_er HR.out hq) hg⟩
   have G:=hid (show k+1≤i2 from ip_atom H.out.1 H.out.2.1 g S.out.rd.lt hq);have S:=hid (S.out.form hr hg hf);have HR:=hid (bi_ok HR.out hq);clear hp hq hf hr hg;go_wp2_with fail
   have S:=hid (S.out.fold (S.out.mk2 (.tail _ (.head _)) (.head _) (n:=nd0 7) (v:= .iface 160 (.agg #[.iface T p,.iface T2 p2])) .app));exact⟨hid ⟨_,_,_,g,i2,rfl,S.out,HR.out,(by have h1:=G.out; have h2:=M.out; have h3:=S.out.rd.lt; unfold mi at h2 ⊢; omega),(by have:=HG.out; omega)⟩,by
    rw [HP.out,rd_pos S.out.rd];have h1:=G.out;have h2:=S.out.rd.lt;omega⟩
  have z2 : startsI ws k=false:=by simpa using z
  rw [z2];have HR:=hid (cl_f HR.out z2);clear z z2;go_wp2_with fail
  go_ret;exact S.out.fin HR.out (S.out.same (.head _))
end
section
variable {d : Dr} {ws : List Wd} {ad : Option Addr} {cp sz : Nat}
theorem pi_all (hw : BriefW ws) (ho : WordsOk ws) (hnum : NumW ws) (hne : ∀ w∈ws,w.kind=1→w.text.toList≠ []) : ∀ f g,g≤f→PiAll d ws ad cp sz g
 | 0,g,hg=>by
   have e : g=0:=by omega
   subst e;exact⟨fun i W _ h=>absurd h (by unfold mi; omega),fun i W _ h=>absurd h (by unfold mi; omega),fun i W _ h=>absurd h (by unfold mi; omega),fun i W _ h=>absurd h (by unfold mi; omega),fun i W _ h=>absurd h (by unfold mi; omega),fun i W _ h=>absurd h (by unfold mi; omega),fun i W _ h=>absurd h (by unfold mi; omega),fun k i W _ h=>absurd h (by unfold mi; omega)⟩
 | f+1,g,hg=>by
   have ih:=pi_all hw ho hnum hne f;by_cases h : g≤f
   ·exact ih g h
   ·have e : g=f+1:=by omega
    subst e;have hc:=ih f (Nat.le_refl _);exact⟨fun i W hr hm=>iexpr_calls hw ho hc i W hr hm,fun i W hr hm=>icons_calls hw ho hc i W hr hm,fun i W hr hm=>icomp_calls hw ho hc i W hr hm,fun i W hr hm=>isum_calls hw ho ih i W hr hm,fun i W hr hm=>iprod_calls hw ho ih i W hr hm,fun i W hr hm=>icall_calls hw ho ih i W hr hm,fun i W hr hm=>iatom_calls hw ho hc i W hr hm hnum hne,fun k i W hr hm hk=>ihand_calls hw ho ih i W hr hm k hk⟩
theorem iwhole_calls (hw : BriefW ws) (ho : WordsOk ws) (hnum : NumW ws) (hne : ∀ w∈ws,w.kind=1→w.text.toList≠ []) (i : Nat) (W : World) (h : RdAt d ws ad cp sz i W) :
 Calls Tryz.prog 57 #[.pointer (some ⟨d.B,0,none⟩)] W (PostT d ws ad cp sz (ipz ws (16*ws.length+11) .expr i) W):=
 (pi_all hw ho hnum hne (16*ws.length+11) _ (Nat.le_refl _)).expr i W h (by unfold mi; omega)
end
theorem base_text (k : Int) (t : ByteArray) (h : (k=1∧t=⟨#[105,110,116]⟩)∨(k=2∧t=⟨#[98,111,111,108]⟩)∨(k=3∧t=⟨#[117,110,105,116]⟩)∨(k=4∧t=⟨#[108,105,115,116]⟩)) (W : World) : Calls Tryz.prog 18 #[.int .i64 k] W fun e W'=> e= .returned (.string t)∧W'= W:=by
 rcases h with ⟨rfl,rfl⟩ | ⟨rfl,rfl⟩ | ⟨rfl,rfl⟩ | ⟨rfl,rfl⟩
 all_goals
  go_enter Tryz.func18,Tryz.ntmps18
  go_wp2_with fail
  go_ret;exact⟨rfl,rfl⟩
section
variable {d : Dr} {ws : List Wd} {ad : Option Addr} {cp sz : Nat}
theorem ibase_calls (i : Nat) (W : World) (h : RdAt d ws ad cp sz i W) :
 Calls Tryz.prog 97 #[.pointer (some ⟨d.B,0,none⟩)] W (PostN' d ws ad cp sz (baseI ws i) W):=by
 obtain⟨R,hR⟩ : ∃ R,baseI ws i=R:=⟨_,rfl⟩
 rw [hR];have HR:=hid hR;have S:=hid (St.start h);have G:=hid (show i+0≤i from Nat.le_refl _);clear h hR;go_enter Tryz.func97,Tryz.ntmps97
 go_wp2_with fail
 refine wp_loop_rounds 5 ?_;rw [rounds_succ];go_wp2_with fail
 refine (base_text 1 ⟨#[105,110,116]⟩ (by simp) _).mono ?_;rintro e Y ⟨rfl,rfl⟩;go_wp2_with fail
 by_cases z : seesI ws i kInt=true
 ·refine (z37 S.out.rd (by kernel_rfl) (by decide) z).mono ?_;rintro e X1 ⟨rfl,hr,hg⟩;have S:=hid (S.out.go hr hg);have HR:=hid (oi_t HR.out z);have G:=hid (show i+1≤i+1 by have:=G.out; omega);clear hr hg z;go_wp2_with fail
  go_ret;rw [← HR.out];exact⟨rfl,S.out.rd,S.out.gr⟩
 refine (z34 (l:=kInt) S.out.rd (by kernel_rfl) (by decide) (by simpa using z)).mono ?_;rintro e X1 ⟨rfl,hr,hg⟩;have S:=hid (S.out.go hr hg);have HR:=hid (oi_f HR.out (by simpa using z));clear hr hg z;go_wp2_with fail
 rw [rounds_succ];go_wp2_with fail
 refine (base_text 2 ⟨#[98,111,111,108]⟩ (by simp) _).mono ?_;rintro e Y ⟨rfl,rfl⟩;go_wp2_with fail
 by_cases z : seesI ws i kBool=true
 ·refine (z37 S.out.rd (by kernel_rfl) (by decide) z).mono ?_;rintro e X2 ⟨rfl,hr,hg⟩;have S:=hid (S.out.go hr hg);have HR:=hid (oi_t HR.out z);have G:=hid (show i+1≤i+1 by have:=G.out; omega);clear hr hg z;go_wp2_with fail
  go_ret;rw [← HR.out];exact⟨rfl,S.out.rd,S.out.gr⟩
 refine (z34 (l:=kBool) S.out.rd (by kernel_rfl) (by decide) (by simpa using z)).mono ?_;rintro e X2 ⟨rfl,hr,hg⟩;have S:=hid (S.out.go hr hg);have HR:=hid (oi_f HR.out (by simpa using z));clear hr hg z;go_wp2_with fail
 rw [rounds_succ];go_wp2_with fail
 refine (base_text 3 ⟨#[117,110,105,116]⟩ (by simp) _).mono ?_;rintro e Y ⟨rfl,rfl⟩;go_wp2_with fail
 by_cases z : seesI ws i kUnit=true
 ·refine (z37 S.out.rd (by kernel_rfl) (by decide) z).mono ?_;rintro e X3 ⟨rfl,hr,hg⟩;have S:=hid (S.out.go hr hg);have HR:=hid (oi_t HR.out z);have G:=hid (show i+1≤i+1 by have:=G.out; omega);clear hr hg z;go_wp2_with fail
  go_ret;rw [← HR.out];exact⟨rfl,S.out.rd,S.out.gr⟩
 refine (z34 (l:=kUnit) S.out.rd (by kernel_rfl) (by decide) (by simpa using z)).mono ?_;rintro e X3 ⟨rfl,hr,hg⟩;have S:=hid (S.out.go hr hg);have HR:=hid (oi_f HR.out (by simpa using z));clear hr hg z;go_wp2_with fail
 rw [rounds_succ];go_wp2_with fail
 refine (base_text 4 ⟨#[108,105,115,116]⟩ (by simp) _).mono ?_;rintro e Y ⟨rfl,rfl⟩;go_wp2_with fail
 by_cases z : seesI ws i kList=true
 ·refine (z37 S.out.rd (by kernel_rfl) (by decide) z).mono ?_;rintro e X4 ⟨rfl,hr,hg⟩;have S:=hid (S.out.go hr hg);have HR:=hid (oi_t HR.out z);have G:=hid (show i+1≤i+1 by have:=G.out; omega);clear hr hg z;go_wp2_with fail
  go_ret;rw [← HR.out];exact⟨rfl,S.out.rd,S.out.gr⟩
 refine (z34 (l:=kList) S.out.rd (by kernel_rfl) (by decide) (by simpa using z)).mono ?_;rintro e X4 ⟨rfl,hr,hg⟩;have S:=hid (S.out.go hr hg);have HR:=hid (oi_f HR.out (by simpa using z));clear hr hg z;go_wp2_with fail
 rw [rounds_succ];go_wp2_with fail
 refine (misfit_calls _ _ S.out.rd).mono ?_;rintro e Y ⟨rfl,hb⟩;go_wp2_with fail
 exact⟨rfl,S.out.err HR.out (Grew.of_below hb)⟩
def effI' (ws : List Wd) : PI Ef:=bindI (takeI ws kEffect) fun _=>bindI (nameI ws) fun x=>bindI (takeI ws gColon) fun _=>bindI (baseI ws) fun a=>bindI (takeI ws gGives) fun _=>bindI (baseI ws) fun r=>bindI (takeI ws gSemi) fun _=>pureI ⟨x,a,r⟩
def QE (x : Ef) (e : Ending) (_ : World) : Prop:=e= .returned (.agg #[.string x.name,.int .i64 x.arg,.int .i64 x.res])
theorem ibase_on {i : Nat} {n : Int} (h : baseI ws i= .ok (n,k)) : i+1≤k:=by
 unfold baseI orI pureI badI at h;repeat' split at h
 all_goals first
  | (simp at h; omega)
  | (cases h)
theorem ieff_calls (i : Nat) (W : World) (h : RdAt d ws ad cp sz i W) :
 Calls Tryz.prog 56 #[.pointer (some ⟨d.B,0,none⟩)] W (PostX d ws ad cp sz QE (effI' ws i) W):=by
 obtain⟨R,hR⟩ : ∃ R,effI' ws i=R:=⟨_,rfl⟩
 rw [hR];have HR:=hid hR;have S:=hid (St.start h);have G:=hid (show i+0≤i from Nat.le_refl _);clear h hR;go_enter Tryz.func56,Tryz.ntmps56
 go_wp2_with fail
 have S:=hid (S.out.alloc #[.string ⟨#[]⟩,.int .i64 0,.int .i64 0] 45);try rw [show W.heap.size+1=(W.alloc (.cells #[.string ⟨#[]⟩,.int .i64 0,.int .i64 0] 45)).heap.size by simp]
 obtain⟨Y1,hY⟩ : ∃ y,W.alloc (.cells #[.string ⟨#[]⟩,.int .i64 0,.int .i64 0] 45)=y:=⟨_,rfl⟩
 rw [hY] at S ⊢;obtain⟨g1,hg⟩ : ∃ g,W.heap.size=g:=⟨_,rfl⟩
 rw [hg] at S ⊢;clear hY hg;have S:=hid (S.out.alloc #[.string ⟨#[]⟩,.int .i64 0,.int .i64 0] 45);try rw [show Y1.heap.size+1=(Y1.alloc (.cells #[.string ⟨#[]⟩,.int .i64 0,.int .i64 0] 45)).heap.size by simp]
 obtain⟨Y2,hY⟩ : ∃ y,Y1.alloc (.cells #[.string ⟨#[]⟩,.int .i64 0,.int .i64 0] 45)=y:=⟨_,rfl⟩
 rw [hY] at S ⊢;obtain⟨g2,hg⟩ : ∃ g,Y1.heap.size=g:=⟨_,rfl⟩
 rw [hg] at S ⊢;clear hY hg;refine (must1 _ S.out.rd (l1:=kEffect) (by kernel_rfl) (by decide)).mono ?_;intro e X3 hp;rcases z22 hp with ⟨j,hq,rfl,hg⟩ | ⟨u,i3,hq,⟨v,rfl⟩,hr,hg⟩
 ·exact⟨rfl,S.out.err (m1_er HR.out hq) hg⟩
 have HQ:=m1_ok HR.out hq;have G:=hid (show i+1≤i3 by have h1:=G.out; have h2:=HQ.2; omega);have S:=hid (S.out.go hr hg);have HR:=hid HQ.1;clear hp hq hr hg HQ;go_wp2_with fail
 refine (z41 _ _ S.out.rd).mono ?_;intro e X4 hp;rcases z22 hp with ⟨j,hq,rfl,hg⟩ | ⟨n4,i4,hq,rfl,hr,hg⟩
 ·exact⟨rfl,S.out.err (bi_er HR.out hq) hg⟩
 have G:=hid (show i+2≤i4 by have h1:=G.out; have h2:=name_on hq; omega);have S:=hid (S.out.go hr hg);have HR:=hid (bi_ok HR.out hq);clear hp hq hr hg;have b:=z8 S.out.box 0;have z:=z12 S.out.box 0;simp at b;go_wp2_with fail
 have S:=hid (S.out.put 0 (.string n4));try rw [put_size X4 g2 0 (.string n4)]
 obtain⟨Z5,hZ⟩ : ∃ Z,X4.setCell ⟨g2,0,none⟩ (.string n4)=Z:=⟨_,rfl⟩
 rw [hZ] at S ⊢;clear hZ b z;refine (must1 _ S.out.rd (l1:=gColon) (by kernel_rfl) (by decide)).mono ?_;intro e X6 hp;rcases z22 hp with ⟨j,hq,rfl,hg⟩ | ⟨u,i6,hq,⟨v,rfl⟩,hr,hg⟩
 ·exact⟨rfl,S.out.err (m1_er HR.out hq) hg⟩
 have HQ:=m1_ok HR.out hq;have G:=hid (show i+3≤i6 by have h1:=G.out; have h2:=HQ.2; omega);have S:=hid (S.out.go hr hg);have HR:=hid HQ.1;clear hp hq hr hg HQ;go_wp2_with fail
 refine (ibase_calls _ _ S.out.rd).mono ?_;intro e X7 hp;rcases z22 hp with ⟨j,hq,rfl,hg⟩ | ⟨n7,i7,hq,rfl,hr,hg⟩
 ·exact⟨rfl,S.out.err (bi_er HR.out hq) hg⟩
 have G:=hid (show i+4≤i7 by have h1:=G.out; have h2:=ibase_on hq; omega);have S:=hid (S.out.go hr hg);have HR:=hid (bi_ok HR.out hq);clear hp hq hr hg;have b:=z8 S.out.box 1;have z:=z12 S.out.box 1;simp at b;go_wp2_with fail
 have S:=hid (S.out.put 1 (.int .i64 n7));try rw [put_size X7 g2 1 (.int .i64 n7)]
 obtain⟨Z8,hZ⟩ : ∃ Z,X7.setCell ⟨g2,1,none⟩ (.int .i64 n7)=Z:=⟨_,rfl⟩
 rw [hZ] at S ⊢;clear hZ b z;refine (must1 _ S.out.rd (l1:=gGives) (by kernel_rfl) (by decide)).mono ?_;intro e X9 hp;rcases z22 hp with ⟨j,hq,rfl,hg⟩ | ⟨u,i9,hq,⟨v,rfl⟩,hr,hg⟩
 ·exact⟨rfl,S.out.err (m1_er HR.out hq) hg⟩
 have HQ:=m1_ok HR.out hq;have G:=hid (show i+5≤i9 by have h1:=G.out; have h2:=HQ.2; omega);have S:=hid (S.out.go hr hg);have HR:=hid HQ.1;clear hp hq hr hg HQ;go_wp2_with fail
 refine (ibase_calls _ _ S.out.rd).mono ?_;intro e X10 hp;rcases z22 hp with ⟨j,hq,rfl,hg⟩ | ⟨n10,i10,hq,rfl,hr,hg⟩
 ·exact⟨rfl,S.out.err (bi_er HR.out hq) hg⟩
 have G:=hid (show i+6≤i10 by have h1:=G.out; have h2:=ibase_on hq; omega);have S:=hid (S.out.go hr hg);have HR:=hid (bi_ok HR.out hq);clear hp hq hr hg;have b:=z8 S.out.box 2;have z:=z12 S.out.box 2;simp at b;go_wp2_with fail
 have S:=hid (S.out.put 2 (.int .i64 n10));try rw [put_size X10 g2 2 (.int .i64 n10)]
 obtain⟨Z11,hZ⟩ : ∃ Z,X10.setCell ⟨g2,2,none⟩ (.int .i64 n10)=Z:=⟨_,rfl⟩
 rw [hZ] at S ⊢;clear hZ b z;refine (must1 _ S.out.rd (l1:=gSemi) (by kernel_rfl) (by decide)).mono ?_;intro e X12 hp;rcases z22 hp with ⟨j,hq,rfl,hg⟩ | ⟨u,i12,hq,⟨v,rfl⟩,hr,hg⟩
 ·exact⟨rfl,S.out.err (m1_er HR.out hq) hg⟩
 have HQ:=m1_ok HR.out hq;have G:=hid (show i+7≤i12 by have h1:=G.out; have h2:=HQ.2; omega);have S:=hid (S.out.go hr hg);have HR:=hid HQ.1;clear hp hq hr hg HQ;have b0:=z8 S.out.box 0;have c0:=z8 S.out.drop.box 0;have z0:=z12 S.out.drop.box 0;have b1:=z8 S.out.box 1;have c1:=z8 S.out.drop.box 1;have z1:=z12 S.out.drop.box 1;have b2:=z8 S.out.box 2;have c2:=z8 S.out.drop.box 2;have z2:=z12 S.out.drop.box 2;simp at b0 b1 b2 c0 c1 c2;go_wp2_with fail
 have S:=((S.out.drop.put 0 (.string n4)).put 1 (.int .i64 n7)).put 2 (.int .i64 n10);obtain⟨k0,k1,k2⟩:=fcl3 S.box;refine bodyPost_ret (v:= .agg #[.string n4,.int .i64 n7,.int .i64 n10]) (by simp [results,Tryz.results56,go_sem,k0,k1,k2]) rfl ?_;rw [← HR.out];exact⟨rfl,S.rd,S.gr⟩
end
end
end Go.Proofs.YtfbojelpdccjaaaGreatDoor
