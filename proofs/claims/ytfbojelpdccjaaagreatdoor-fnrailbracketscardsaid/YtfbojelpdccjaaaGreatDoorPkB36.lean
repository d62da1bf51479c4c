import Derived.Test.YtfbojelpdccjaaaGreatDoorPkB35
set_option maxHeartbeats 8000000
set_option maxRecDepth 100000
namespace Go.Proofs.YtfbojelpdccjaaaGreatDoor
open Go.RowKit Go.Deep
variable {f : Nat}
section
open Go.RowKit Go.Deep
section
variable {d : Dr} {ws : List Wd} {ad : Option Addr} {cp sz : Nat}
theorem irec_calls (hw : BriefW ws) (ho : WordsOk ws) (hc : PiAll d ws ad cp sz f) (i : Nat) (W : World) (h : RdAt d ws ad cp sz i W) (hm : mi ws 11 i≤f) :
 Calls Tryz.prog 123 #[.pointer (some ⟨d.B,0,none⟩)] W (PostT d ws ad cp sz (recI' ws (ipz ws f) i) W):=by
 obtain⟨R,hR⟩ : ∃ R,recI' ws (ipz ws f) i=R:=⟨_,rfl⟩
 rw [hR];have HR:=hid hR;have S:=hid (St.start h);have H:=hid (And.intro hw (And.intro ho hc));have M:=hid hm;have G:=hid (show i+0≤i from Nat.le_refl _);clear h hm hR hw ho hc;go_enter Tryz.func123,Tryz.ntmps123
 go_wp2_with fail
 refine (z41 _ _ S.out.rd).mono ?_;intro e X1 hp;rcases z22 hp with ⟨j,hq,rfl,hg⟩ | ⟨n1,i1,hq,rfl,hr,hg⟩
 ·exact⟨rfl,S.out.err (bi_er HR.out hq) hg⟩
 have G:=hid (show i+1≤i1 by have h1:=G.out; have h2:=name_on hq; omega);have S:=hid (S.out.go hr hg);have HR:=hid (bi_ok HR.out hq);clear hp hq hr hg;go_wp2_with fail
 have S:=hid (S.out.alloc #[.string n1,.string ⟨#[]⟩,.nilIface,.nilIface] 164);try rw [show X1.heap.size+1=(X1.alloc (.cells #[.string n1,.string ⟨#[]⟩,.nilIface,.nilIface] 164)).heap.size by simp]
 obtain⟨Y2,hY⟩ : ∃ y,X1.alloc (.cells #[.string n1,.string ⟨#[]⟩,.nilIface,.nilIface] 164)=y:=⟨_,rfl⟩
 rw [hY] at S ⊢;obtain⟨g2,hg⟩ : ∃ g,X1.heap.size=g:=⟨_,rfl⟩
 rw [hg] at S ⊢;clear hY hg;refine (z41 _ _ S.out.rd).mono ?_;intro e X3 hp;rcases z22 hp with ⟨j,hq,rfl,hg⟩ | ⟨n3,i3,hq,rfl,hr,hg⟩
 ·exact⟨rfl,S.out.err (bi_er HR.out hq) hg⟩
 have G:=hid (show i+2≤i3 by have h1:=G.out; have h2:=name_on hq; omega);have S:=hid (S.out.go hr hg);have HR:=hid (bi_ok HR.out hq);clear hp hq hr hg;have b:=z8 S.out.box 1;have z:=z12 S.out.box 1;simp at b;go_wp2_with fail
 have S:=hid (S.out.put 1 (.string n3));try rw [put_size X3 g2 1 (.string n3)]
 obtain⟨Z4,hZ⟩ : ∃ Z,X3.setCell ⟨g2,1,none⟩ (.string n3)=Z:=⟨_,rfl⟩
 rw [hZ] at S ⊢;clear hZ b z;refine (must1 _ S.out.rd (l1:=gEq) (by kernel_rfl) (by decide)).mono ?_;intro e X5 hp;rcases z22 hp with ⟨j,hq,rfl,hg⟩ | ⟨u,i5,hq,⟨v,rfl⟩,hr,hg⟩
 ·exact⟨rfl,S.out.err (m1_er HR.out hq) hg⟩
 have HQ:=m1_ok HR.out hq;have G:=hid (show i+3≤i5 by have h1:=G.out; have h2:=HQ.2; omega);have S:=hid (S.out.go hr hg);have HR:=hid HQ.1;clear hp hq hr hg HQ;go_wp2_with fail
 refine (H.out.2.2.expr _ _ S.out.rd (by have h1:=G.out; have h2:=M.out; have h3:=S.out.rd.lt; unfold mi at h2 ⊢; omega)).mono ?_;intro e X6 hp;rcases z22 hp with ⟨j,hq,rfl,hg⟩ | ⟨t6,i6,hq,⟨T6,p6,rfl,hf⟩,hr,hg⟩
 ·exact⟨rfl,S.out.err (bi_er HR.out hq) hg⟩
 have G:=hid (show i+3≤i6 by have h1:=G.out; have h2:=z31 H.out.1 H.out.2.1 f NtR.expr trivial S.out.rd.lt hq; omega);have S:=hid (S.out.form hr hg hf);have HR:=hid (bi_ok HR.out hq);clear hp hq hf hr hg;have b:=z8 S.out.box 2;have z:=z12 S.out.box 2;simp at b;go_wp2_with fail
 have S:=hid (S.out.put 2 (.iface T6 p6));try rw [put_size X6 g2 2 (.iface T6 p6)]
 obtain⟨Z7,hZ⟩ : ∃ Z,X6.setCell ⟨g2,2,none⟩ (.iface T6 p6)=Z:=⟨_,rfl⟩
 rw [hZ] at S ⊢;clear hZ b z;refine (must1 _ S.out.rd (l1:=kIn) (by kernel_rfl) (by decide)).mono ?_;intro e X8 hp;rcases z22 hp with ⟨j,hq,rfl,hg⟩ | ⟨u,i8,hq,⟨v,rfl⟩,hr,hg⟩
 ·exact⟨rfl,S.out.err (m1_er HR.out hq) hg⟩
 have HQ:=m1_ok HR.out hq;have G:=hid (show i+4≤i8 by have h1:=G.out; have h2:=HQ.2; omega);have S:=hid (S.out.go hr hg);have HR:=hid HQ.1;clear hp hq hr hg HQ;go_wp2_with fail
 refine (H.out.2.2.expr _ _ S.out.rd (by have h1:=G.out; have h2:=M.out; have h3:=S.out.rd.lt; unfold mi at h2 ⊢; omega)).mono ?_;intro e X9 hp;rcases z22 hp with ⟨j,hq,rfl,hg⟩ | ⟨t9,i9,hq,⟨T9,p9,rfl,hf⟩,hr,hg⟩
 ·exact⟨rfl,S.out.err (bi_er HR.out hq) hg⟩
 have G:=hid (show i+4≤i9 by have h1:=G.out; have h2:=z31 H.out.1 H.out.2.1 f NtR.expr trivial S.out.rd.lt hq; omega);have S:=hid (S.out.form hr hg hf);have HR:=hid (bi_ok HR.out hq);clear hp hq hf hr hg;have b0:=z8 S.out.box 0;have b1:=z8 S.out.box 1;have b2:=z8 S.out.box 2;have b3:=z8 S.out.box 3;have z:=z12 S.out.box 3;simp at b0 b1 b2 b3;go_wp2_with fail
 have S:=hid (S.out.put 3 (.iface T9 p9));go_ret;exact S.out.fin HR.out (S.out.mk2 (.tail _ (.head _)) (.head _) .recur)
theorem ilet_calls (hw : BriefW ws) (ho : WordsOk ws) (hc : PiAll d ws ad cp sz f) (i : Nat) (W : World) (h : RdAt d ws ad cp sz i W) (hm : mi ws 11 i≤f) :
 Calls Tryz.prog 99 #[.pointer (some ⟨d.B,0,none⟩)] W (PostT d ws ad cp sz (orI ws kRec (recI' ws (ipz ws f)) (letI' ws (ipz ws f)) i) W):=by
 obtain⟨R,hR⟩ : ∃ R,orI ws kRec (recI' ws (ipz ws f)) (letI' ws (ipz ws f)) i=R:=⟨_,rfl⟩
 rw [hR];have HR:=hid hR;have S:=hid (St.start h);have H:=hid (And.intro hw (And.intro ho hc));have M:=hid hm;have G:=hid (show i+0≤i from Nat.le_refl _);clear h hm hR hw ho hc;go_enter Tryz.func99,Tryz.ntmps99
 go_wp2_with fail
 by_cases z : seesI ws i kRec=true
 ·refine (z37 S.out.rd (by kernel_rfl) (by decide) z).mono ?_;rintro e X1 ⟨rfl,hr,hg⟩;have S:=hid (S.out.go hr hg);have HR:=hid (oi_t HR.out z);have G:=hid (show i+1≤i+1 by have:=G.out; omega);clear hr hg z;go_wp2_with fail
  refine (irec_calls H.out.1 H.out.2.1 H.out.2.2 _ _ S.out.rd (by have h1:=G.out; have h2:=M.out; have h3:=S.out.rd.lt; unfold mi at h2 ⊢; omega)).mono ?_;intro e X2 hp;rcases z22 hp with ⟨j,hq,rfl,hg⟩ | ⟨t2,i2,hq,⟨T2,p2,rfl,hf⟩,hr,hg⟩
  ·exact⟨rfl,S.out.err (hq.symm.trans HR.out) hg⟩
  have S:=hid (S.out.form hr hg hf);have HR:=hid (hq.symm.trans HR.out);clear hp hq hf hr hg;go_wp2_with fail
  go_ret;exact S.out.fin HR.out (S.out.same (.head _))
 refine (z34 (l:=kRec) S.out.rd (by kernel_rfl) (by decide) (by simpa using z)).mono ?_;rintro e X1 ⟨rfl,hr,hg⟩;have S:=hid (S.out.go hr hg);have HR:=hid (oi_f HR.out (by simpa using z));clear hr hg z;go_wp2_with fail
 refine (z41 _ _ S.out.rd).mono ?_;intro e X3 hp;rcases z22 hp with ⟨j,hq,rfl,hg⟩ | ⟨n3,i3,hq,rfl,hr,hg⟩
 ·exact⟨rfl,S.out.err (bi_er HR.out hq) hg⟩
 have G:=hid (show i+1≤i3 by have h1:=G.out; have h2:=name_on hq; omega);have S:=hid (S.out.go hr hg);have HR:=hid (bi_ok HR.out hq);clear hp hq hr hg;go_wp2_with fail
 have S:=hid (S.out.alloc #[.string n3,.nilIface,.nilIface] 162);try rw [show X3.heap.size+1=(X3.alloc (.cells #[.string n3,.nilIface,.nilIface] 162)).heap.size by simp]
 obtain⟨Y4,hY⟩ : ∃ y,X3.alloc (.cells #[.string n3,.nilIface,.nilIface] 162)=y:=⟨_,rfl⟩
 rw [hY] at S ⊢;obtain⟨g4,hg⟩ : ∃ g,X3.heap.size=g:=⟨_,rfl⟩
 rw [hg] at S ⊢;clear hY hg;refine (must1 _ S.out.rd (l1:=gEq) (by kernel_rfl) (by decide)).mono ?_;intro e X5 hp;rcases z22 hp with ⟨j,hq,rfl,hg⟩ | ⟨u,i5,hq,⟨v,rfl⟩,hr,hg⟩
 ·exact⟨rfl,S.out.err (m1_er HR.out hq) hg⟩
 have HQ:=m1_ok HR.out hq;have G:=hid (show i+2≤i5 by have h1:=G.out; have h2:=HQ.2; omega);have S:=hid (S.out.go hr hg);have HR:=hid HQ.1;clear hp hq hr hg HQ;go_wp2_with fail
 refine (H.out.2.2.expr _ _ S.out.rd (by have h1:=G.out; have h2:=M.out; have h3:=S.out.rd.lt; unfold mi at h2 ⊢; omega)).mono ?_;intro e X6 hp;rcases z22 hp with ⟨j,hq,rfl,hg⟩ | ⟨t6,i6,hq,⟨T6,p6,rfl,hf⟩,hr,hg⟩
 ·exact⟨rfl,S.out.err (bi_er HR.out hq) hg⟩
 have G:=hid (show i+2≤i6 by have h1:=G.out; have h2:=z31 H.out.1 H.out.2.1 f NtR.expr trivial S.out.rd.lt hq; omega);have S:=hid (S.out.form hr hg hf);have HR:=hid (bi_ok HR.out hq);clear hp hq hf hr hg;have b:=z8 S.out.box 1;have z:=z12 S.out.box 1;simp at b;go_wp2_with fail
 have S:=hid (S.out.put 1 (.iface T6 p6));try rw [put_size X6 g4 1 (.iface T6 p6)]
 obtain⟨Z7,hZ⟩ : ∃ Z,X6.setCell ⟨g4,1,none⟩ (.iface T6 p6)=Z:=⟨_,rfl⟩
 rw [hZ] at S ⊢;clear hZ b z;refine (must1 _ S.out.rd (l1:=kIn) (by kernel_rfl) (by decide)).mono ?_;intro e X8 hp;rcases z22 hp with ⟨j,hq,rfl,hg⟩ | ⟨u,i8,hq,⟨v,rfl⟩,hr,hg⟩
 ·exact⟨rfl,S.out.err (m1_er HR.out hq) hg⟩
 have HQ:=m1_ok HR.out hq;have G:=hid (show i+3≤i8 by have h1:=G.out; have h2:=HQ.2; omega);have S:=hid (S.out.go hr hg);have HR:=hid HQ.1;clear hp hq hr hg HQ;go_wp2_with fail
 refine (H.out.2.2.expr _ _ S.out.rd (by have h1:=G.out; have h2:=M.out; have h3:=S.out.rd.lt; unfold mi at h2 ⊢; omega)).mono ?_;intro e X9 hp;rcases z22 hp with ⟨j,hq,rfl,hg⟩ | ⟨t9,i9,hq,⟨T9,p9,rfl,hf⟩,hr,hg⟩
 ·exact⟨rfl,S.out.err (bi_er HR.out hq) hg⟩
 have G:=hid (show i+3≤i9 by have h1:=G.out; have h2:=z31 H.out.1 H.out.2.1 f NtR.expr trivial S.out.rd.lt hq; omega);have S:=hid (S.out.form hr hg hf);have HR:=hid (bi_ok HR.out hq);clear hp hq hf hr hg;have b0:=z8 S.out.box 0;have b1:=z8 S.out.box 1;have b2:=z8 S.out.box 2;have z:=z12 S.out.box 2;simp at b0 b1 b2;go_wp2_with fail
 have S:=hid (S.out.put 2 (.iface T9 p9));go_ret;exact S.out.fin HR.out (S.out.mk2 (.tail _ (.head _)) (.head _) .bind)
theorem icond_calls (hw : BriefW ws) (ho : WordsOk ws) (hc : PiAll d ws ad cp sz f) (i : Nat) (W : World) (h : RdAt d ws ad cp sz i W) (hm : mi ws 11 i≤f) :
 Calls Tryz.prog 100 #[.pointer (some ⟨d.B,0,none⟩)] W (PostT d ws ad cp sz (condI ws (ipz ws f) i) W):=by
 obtain⟨R,hR⟩ : ∃ R,condI ws (ipz ws f) i=R:=⟨_,rfl⟩
 rw [hR];have HR:=hid hR;have S:=hid (St.start h);have H:=hid (And.intro hw (And.intro ho hc));have M:=hid hm;have G:=hid (show i+0≤i from Nat.le_refl _);clear h hm hR hw ho hc;go_enter Tryz.func100,Tryz.ntmps100
 go_wp2_with fail
 refine (H.out.2.2.expr _ _ S.out.rd (by have h1:=G.out; have h2:=M.out; have h3:=S.out.rd.lt; unfold mi at h2 ⊢; omega)).mono ?_;intro e X1 hp;rcases z22 hp with ⟨j,hq,rfl,hg⟩ | ⟨t1,i1,hq,⟨T1,p1,rfl,hf⟩,hr,hg⟩
 ·exact⟨rfl,S.out.err (bi_er HR.out hq) hg⟩
 have G:=hid (show i+0≤i1 by have h1:=G.out; have h2:=z31 H.out.1 H.out.2.1 f NtR.expr trivial S.out.rd.lt hq; omega);have S:=hid (S.out.form hr hg hf);have HR:=hid (bi_ok HR.out hq);clear hp hq hf hr hg;go_wp2_with fail
 have S:=hid (S.out.alloc #[.iface T1 p1,.nilIface,.nilIface] 166);try rw [show X1.heap.size+1=(X1.alloc (.cells #[.iface T1 p1,.nilIface,.nilIface] 166)).heap.size by simp]
 obtain⟨Y2,hY⟩ : ∃ y,X1.alloc (.cells #[.iface T1 p1,.nilIface,.nilIface] 166)=y:=⟨_,rfl⟩
 rw [hY] at S ⊢;obtain⟨g2,hg⟩ : ∃ g,X1.heap.size=g:=⟨_,rfl⟩
 rw [hg] at S ⊢;clear hY hg;refine (must1 _ S.out.rd (l1:=kThen) (by kernel_rfl) (by decide)).mono ?_;intro e X3 hp;rcases z22 hp with ⟨j,hq,rfl,hg⟩ | ⟨u,i3,hq,⟨v,rfl⟩,hr,hg⟩
 ·exact⟨rfl,S.out.err (m1_er HR.out hq) hg⟩
 have HQ:=m1_ok HR.out hq;have G:=hid (show i+1≤i3 by have h1:=G.out; have h2:=HQ.2; omega);have S:=hid (S.out.go hr hg);have HR:=hid HQ.1;clear hp hq hr hg HQ;go_wp2_with fail
 refine (H.out.2.2.expr _ _ S.out.rd (by have h1:=G.out; have h2:=M.out; have h3:=S.out.rd.lt; unfold mi at h2 ⊢; omega)).mono ?_;intro e X4 hp;rcases z22 hp with ⟨j,hq,rfl,hg⟩ | ⟨t4,i4,hq,⟨T4,p4,rfl,hf⟩,hr,hg⟩
 ·exact⟨rfl,S.out.err (bi_er HR.out hq) hg⟩
 have G:=hid (show i+1≤i4 by have h1:=G.out; have h2:=z31 H.out.1 H.out.2.1 f NtR.expr trivial S.out.rd.lt hq; omega);have S:=hid (S.out.form hr hg hf);have HR:=hid (bi_ok HR.out hq);clear hp hq hf hr hg;have b:=z8 S.out.box 1;have z:=z12 S.out.box 1;simp at b;go_wp2_with fail
 have S:=hid (S.out.put 1 (.iface T4 p4));try rw [put_size X4 g2 1 (.iface T4 p4)]
 obtain⟨Z5,hZ⟩ : ∃ Z,X4.setCell ⟨g2,1,none⟩ (.iface T4 p4)=Z:=⟨_,rfl⟩
 rw [hZ] at S ⊢;clear hZ b z;refine (must1 _ S.out.rd (l1:=kElse) (by kernel_rfl) (by decide)).mono ?_;intro e X6 hp;rcases z22 hp with ⟨j,hq,rfl,hg⟩ | ⟨u,i6,hq,⟨v,rfl⟩,hr,hg⟩
 ·exact⟨rfl,S.out.err (m1_er HR.out hq) hg⟩
 have HQ:=m1_ok HR.out hq;have G:=hid (show i+2≤i6 by have h1:=G.out; have h2:=HQ.2; omega);have S:=hid (S.out.go hr hg);have HR:=hid HQ.1;clear hp hq hr hg HQ;go_wp2_with fail
 refine (H.out.2.2.expr _ _ S.out.rd (by have h1:=G.out; have h2:=M.out; have h3:=S.out.rd.lt; unfold mi at h2 ⊢; omega)).mono ?_;intro e X7 hp;rcases z22 hp with ⟨j,hq,rfl,hg⟩ | ⟨t7,i7,hq,⟨T7,p7,rfl,hf⟩,hr,hg⟩
 ·exact⟨rfl,S.out.err (bi_er HR.out hq) hg⟩
 have G:=hid (show i+2≤i7 by have h1:=G.out; have h2:=z31 H.out.1 H.out.2.1 f NtR.expr trivial S.out.rd.lt hq; omega);have S:=hid (S.out.form hr hg hf);have HR:=hid (bi_ok HR.out hq);clear hp hq hf hr hg;have b0:=z8 S.out.box 0;have b1:=z8 S.out.box 1;have b2:=z8 S.out.box 2;have z:=z12 S.out.box 2;simp at b0 b1 b2;go_wp2_with fail
 have S:=hid (S.out.put 2 (.iface T7 p7));go_ret;exact S.out.fin HR.out (S.out.mk3 (.tail _ (.tail _ (.head _))) (.tail _ (.head _)) (.head _) .cond)
theorem icase_calls (hw : BriefW ws) (ho : WordsOk ws) (hc : PiAll d ws ad cp sz f) (i : Nat) (W : World) (h : RdAt d ws ad cp sz i W) (hm : mi ws 11 i≤f) :
 Calls Tryz.prog 101 #[.pointer (some ⟨d.B,0,none⟩)] W (PostT d ws ad cp sz (caseI ws (ipz ws f) i) W):=by
 obtain⟨R,hR⟩ : ∃ R,caseI ws (ipz ws f) i=R:=⟨_,rfl⟩
 rw [hR];have HR:=hid hR;have S:=hid (St.start h);have H:=hid (And.intro hw (And.intro ho hc));have M:=hid hm;have G:=hid (show i+0≤i from Nat.le_refl _);clear h hm hR hw ho hc;go_enter Tryz.func101,Tryz.ntmps101
 go_wp2_with fail
 refine (H.out.2.2.expr _ _ S.out.rd (by have h1:=G.out; have h2:=M.out; have h3:=S.out.rd.lt; unfold mi at h2 ⊢; omega)).mono ?_;intro e X1 hp;rcases z22 hp with ⟨j,hq,rfl,hg⟩ | ⟨t1,i1,hq,⟨T1,p1,rfl,hf⟩,hr,hg⟩
 ·exact⟨rfl,S.out.err (bi_er HR.out hq) hg⟩
 have G:=hid (show i+0≤i1 by have h1:=G.out; have h2:=z31 H.out.1 H.out.2.1 f NtR.expr trivial S.out.rd.lt hq; omega);have S:=hid (S.out.form hr hg hf);have HR:=hid (bi_ok HR.out hq);clear hp hq hf hr hg;go_wp2_with fail
 have S:=hid (S.out.alloc #[.iface T1 p1,.nilIface,.string ⟨#[]⟩,.string ⟨#[]⟩,.nilIface] 174);try rw [show X1.heap.size+1=(X1.alloc (.cells #[.iface T1 p1,.nilIface,.string ⟨#[]⟩,.string ⟨#[]⟩,.nilIface] 174)).heap.size by simp]
 obtain⟨Y2,hY⟩ : ∃ y,X1.alloc (.cells #[.iface T1 p1,.nilIface,.string ⟨#[]⟩,.string ⟨#[]⟩,.nilIface] 174)=y:=⟨_,rfl⟩
 rw [hY] at S ⊢;obtain⟨g2,hg⟩ : ∃ g,X1.heap.size=g:=⟨_,rfl⟩
 rw [hg] at S ⊢;clear hY hg;refine (must3 _ _ _ S.out.rd (l1:=kOf) (l2:=kNil) (l3:=gTo) (by kernel_rfl) (by decide) (by kernel_rfl) (by decide) (by kernel_rfl) (by decide)).mono ?_;intro e X3 hp;rcases z22 hp with ⟨j,hq,rfl,hg⟩ | ⟨u,i3,hq,⟨v,rfl⟩,hr,hg⟩
 ·exact⟨rfl,S.out.err (m3_er HR.out hq) hg⟩
 have HQ:=m3_ok HR.out hq;have G:=hid (show i+3≤i3 by have h1:=G.out; have h2:=HQ.2; omega);have S:=hid (S.out.go hr hg);have HR:=hid HQ.1;clear hp hq hr hg HQ;go_wp2_with fail
 refine (H.out.2.2.expr _ _ S.out.rd (by have h1:=G.out; have h2:=M.out; have h3:=S.out.rd.lt; unfold mi at h2 ⊢; omega)).mono ?_;intro e X4 hp;rcases z22 hp with ⟨j,hq,rfl,hg⟩ | ⟨t4,i4,hq,⟨T4,p4,rfl,hf⟩,hr,hg⟩
 ·exact⟨rfl,S.out.err (bi_er HR.out hq) hg⟩
 have G:=hid (show i+3≤i4 by have h1:=G.out; have h2:=z31 H.out.1 H.out.2.1 f NtR.expr trivial S.out.rd.lt hq; omega);have S:=hid (S.out.form hr hg hf);have HR:=hid (bi_ok HR.out hq);clear hp hq hf hr hg;have b:=z8 S.out.box 1;have z:=z12 S.out.box 1;simp at b;go_wp2_with fail
 have S:=hid (S.out.put 1 (.iface T4 p4));try rw [put_size X4 g2 1 (.iface T4 p4)]
 obtain⟨Z5,hZ⟩ : ∃ Z,X4.setCell ⟨g2,1,none⟩ (.iface T4 p4)=Z:=⟨_,rfl⟩
 rw [hZ] at S ⊢;clear hZ b z;refine (must1 _ S.out.rd (l1:=gBar) (by kernel_rfl) (by decide)).mono ?_;intro e X6 hp;rcases z22 hp with ⟨j,hq,rfl,hg⟩ | ⟨u,i6,hq,⟨v,rfl⟩,hr,hg⟩
 ·exact⟨rfl,S.out.err (m1_er HR.out hq) hg⟩
 have HQ:=m1_ok HR.out hq;have G:=hid (show i+4≤i6 by have h1:=G.out; have h2:=HQ.2; omega);have S:=hid (S.out.go hr hg);have HR:=hid HQ.1;clear hp hq hr hg HQ;go_wp2_with fail
 refine (z41 _ _ S.out.rd).mono ?_;intro e X7 hp;rcases z22 hp with ⟨j,hq,rfl,hg⟩ | ⟨n7,i7,hq,rfl,hr,hg⟩
 ·exact⟨rfl,S.out.err (bi_er HR.out hq) hg⟩
 have G:=hid (show i+5≤i7 by have h1:=G.out; have h2:=name_on hq; omega);have S:=hid (S.out.go hr hg);have HR:=hid (bi_ok HR.out hq);clear hp hq hr hg;have b:=z8 S.out.box 2;have z:=z12 S.out.box 2;simp at b;go_wp2_with fail
 have S:=hid (S.out.put 2 (.string n7));try rw [put_size X7 g2 2 (.string n7)]
 obtain⟨Z8,hZ⟩ : ∃ Z,X7.setCell ⟨g2,2,none⟩ (.string n7)=Z:=⟨_,rfl⟩
 rw [hZ] at S ⊢;clear hZ b z;refine (must1 _ S.out.rd (l1:=gCons) (by kernel_rfl) (by decide)).mono ?_;intro e X9 hp;rcases z22 hp with ⟨j,hq,rfl,hg⟩ | ⟨u,i9,hq,⟨v,rfl⟩,hr,hg⟩
 ·exact⟨rfl,S.out.err (m1_er HR.out hq) hg⟩
 have HQ:=m1_ok HR.out hq;have G:=hid (show i+6≤i9 by have h1:=G.out; have h2:=HQ.2; omega);have S:=hid (S.out.go hr hg);have HR:=hid HQ.1;clear hp hq hr hg HQ;go_wp2_with fail
 refine (z41 _ _ S.out.rd).mono ?_;intro e X10 hp;rcases z22 hp with ⟨j,hq,rfl,hg⟩ | ⟨n10,i10,hq,rfl,hr,hg⟩
 ·exact⟨rfl,S.out.err (bi_er HR.out hq) hg⟩
 have G:=hid (show i+7≤i10 by have h1:=G.out; have h2:=name_on hq; omega);have S:=hid (S.out.go hr hg);have HR:=hid (bi_ok HR.out hq);clear hp hq hr hg;have b:=z8 S.out.box 3;have z:=z12 S.out.box 3;simp at b;go_wp2_with fail
 have S:=hid (S.out.put 3 (.string n10));try rw [put_size X10 g2 3 (.string n10)]
 obtain⟨Z11,hZ⟩ : ∃ Z,X10.setCell ⟨g2,3,none⟩ (.string n10)=Z:=⟨_,rfl⟩
 rw [hZ] at S ⊢;clear hZ b z;refine (must1 _ S.out.rd (l1:=gTo) (by kernel_rfl) (by decide)).mono ?_;intro e X12 hp;rcases z22 hp with ⟨j,hq,rfl,hg⟩ | ⟨u,i12,hq,⟨v,rfl⟩,hr,hg⟩
 ·exact⟨rfl,S.out.err (m1_er HR.out hq) hg⟩
 have HQ:=m1_ok HR.out hq;have G:=hid (show i+8≤i12 by have h1:=G.out; have h2:=HQ.2; omega);have S:=hid (S.out.go hr hg);have HR:=hid HQ.1;clear hp hq hr hg HQ;go_wp2_with fail
 refine (H.out.2.2.expr _ _ S.out.rd (by have h1:=G.out; have h2:=M.out; have h3:=S.out.rd.lt; unfold mi at h2 ⊢; omega)).mono ?_;intro e X13 hp;rcases z22 hp with ⟨j,hq,rfl,hg⟩ | ⟨t13,i13,hq,⟨T13,p13,rfl,hf⟩,hr,hg⟩
 ·exact⟨rfl,S.out.err (bi_er HR.out hq) hg⟩
 have G:=hid (show i+8≤i13 by have h1:=G.out; have h2:=z31 H.out.1 H.out.2.1 f NtR.expr trivial S.out.rd.lt hq; omega);have S:=hid (S.out.form hr hg hf);have HR:=hid (bi_ok HR.out hq);clear hp hq hf hr hg;have b0:=z8 S.out.box 0;have b1:=z8 S.out.box 1;have b2:=z8 S.out.box 2;have b3:=z8 S.out.box 3;have b4:=z8 S.out.box 4;have z:=z12 S.out.box 4;simp at b0 b1 b2 b3 b4;go_wp2_with fail
 have S:=hid (S.out.put 4 (.iface T13 p13));go_ret;exact S.out.fin HR.out (S.out.mk3 (.tail _ (.tail _ (.head _))) (.tail _ (.head _)) (.head _) .case)
theorem iexpr_calls (hw : BriefW ws) (ho : WordsOk ws) (hc : PiAll d ws ad cp sz f) (i : Nat) (W : World) (h : RdAt d ws ad cp sz i W) (hm : mi ws 11 i≤f+1) :
 Calls Tryz.prog 57 #[.pointer (some ⟨d.B,0,none⟩)] W (PostT d ws ad cp sz (ipz ws (f+1) .expr i) W):=by
 obtain⟨R,hR⟩ : ∃ R,ipz ws (f+1) .expr i=R:=⟨_,rfl⟩
 rw [hR];have HR:=hid (show exprI ws (ipz ws f) i=R from hR);have S:=hid (St.start h);have H:=hid (And.intro hw (And.intro ho hc));have M:=hid hm;have G:=hid (show i+0≤i from Nat.le_refl _);clear h hm hR hw ho hc;go_enter Tryz.func57,Tryz.ntmps57
 go_wp2_with fail
 by_cases z : seesI ws i kLet=true
 ·refine (z37 S.out.rd (by kernel_rfl) (by decide) z).mono ?_;rintro e X1 ⟨rfl,hr,hg⟩;have S:=hid (S.out.go hr hg);have HR:=hid (oi_t HR.out z);have G:=hid (show i+1≤i+1 by have:=G.out; omega);clear hr hg z;go_wp2_with fail
  refine (ilet_calls H.out.1 H.out.2.1 H.out.2.2 _ _ S.out.rd (by have h1:=G.out; have h2:=M.out; have h3:=S.out.rd.lt; unfold mi at h2 ⊢; omega)).mono ?_;intro e X2 hp;rcases z22 hp with ⟨j,hq,rfl,hg⟩ | ⟨t2,i2,hq,⟨T2,p2,rfl,hf⟩,hr,hg⟩
  ·exact⟨rfl,S.out.err (hq.symm.trans HR.out) hg⟩
  have S:=hid (S.out.form hr hg hf);have HR:=hid (hq.symm.trans HR.out);clear hp hq hf hr hg;go_wp2_with fail
  go_ret;exact S.out.fin HR.out (S.out.same (.head _))
 refine (z34 (l:=kLet) S.out.rd (by kernel_rfl) (by decide) (by simpa using z)).mono ?_;rintro e X1 ⟨rfl,hr,hg⟩;have S:=hid (S.out.go hr hg);have HR:=hid (oi_f HR.out (by simpa using z));clear hr hg z;go_wp2_with fail
 by_cases z : seesI ws i kIf=true
 ·refine (z37 S.out.rd (by kernel_rfl) (by decide) z).mono ?_;rintro e X3 ⟨rfl,hr,hg⟩;have S:=hid (S.out.go hr hg);have HR:=hid (oi_t HR.out z);have G:=hid (show i+1≤i+1 by have:=G.out; omega);clear hr hg z;go_wp2_with fail
  refine (icond_calls H.out.1 H.out.2.1 H.out.2.2 _ _ S.out.rd (by have h1:=G.out; have h2:=M.out; have h3:=S.out.rd.lt; unfold mi at h2 ⊢; omega)).mono ?_;intro e X4 hp;rcases z22 hp with ⟨j,hq,rfl,hg⟩ | ⟨t4,i4,hq,⟨T4,p4,rfl,hf⟩,hr,hg⟩
  ·exact⟨rfl,S.out.err (hq.symm.trans HR.out) hg⟩
  have S:=hid (S.out.form hr hg hf);have HR:=hid (hq.symm.trans HR.out);clear hp hq hf hr hg;go_wp2_with fail
  go_ret;exact S.out.fin HR.out (S.out.same (.head _))
 refine (z34 (l:=kIf) S.out.rd (by kernel_rfl) (by decide) (by simpa using z)).mono ?_;rintro e X3 ⟨rfl,hr,hg⟩;have S:=hid (S.out.go hr hg);have HR:=hid (oi_f HR.out (by simpa using z));clear hr hg z;go_wp2_with fail
 by_cases z : seesI ws i kFn=true
 ·refine (z37 S.out.rd (by kernel_rfl) (by decide) z).mono ?_;rintro e X5 ⟨rfl,hr,hg⟩;have S:=hid (S.out.go hr hg);have HR:=hid (oi_t HR.out z);have G:=hid (show i+1≤i+1 by have:=G.out; omega);clear hr hg z;go_wp2_with fail
  refine (z41 _ _ S.out.rd).mono ?_;intro e X6 hp;rcases z22 hp with ⟨j,hq,rfl,hg⟩ | ⟨n6,i6,hq,rfl,hr,hg⟩
  ·exact⟨rfl,S.out.err (bi_er HR.out hq) hg⟩
  have G:=hid (show i+2≤i6 by have h1:=G.out; have h2:=name_on hq; omega);have S:=hid (S.out.go hr hg);have HR:=hid (bi_ok HR.out hq);clear hp hq hr hg;go_wp2_with fail
  have S:=hid (S.out.alloc #[.string n6,.nilIface] 135);try rw [show X6.heap.size+1=(X6.alloc (.cells #[.string n6,.nilIface] 135)).heap.size by simp]
  obtain⟨Y7,hY⟩ : ∃ y,X6.alloc (.cells #[.string n6,.nilIface] 135)=y:=⟨_,rfl⟩
  rw [hY] at S ⊢;obtain⟨g7,hg⟩ : ∃ g,X6.heap.size=g:=⟨_,rfl⟩
  rw [hg] at S ⊢;clear hY hg;refine (must1 _ S.out.rd (l1:=gTo) (by kernel_rfl) (by decide)).mono ?_;intro e X8 hp;rcases z22 hp with ⟨j,hq,rfl,hg⟩ | ⟨u,i8,hq,⟨v,rfl⟩,hr,hg⟩
  ·exact⟨rfl,S.out.err (m1_er HR.out hq) hg⟩
  have HQ:=m1_ok HR.out hq;have G:=hid (show i+3≤i8 by have h1:=G.out; have h2:=HQ.2; omega);have S:=hid (S.out.go hr hg);have HR:=hid HQ.1;clear hp hq hr hg HQ;go_wp2_with fail
  refine (H.out.2.2.expr _ _ S.out.rd (by have h1:=G.out; have h2:=M.out; have h3:=S.out.rd.lt; unfold mi at h2 ⊢; omega)).mono ?_;intro e X9 hp;rcases z22 hp with ⟨j,hq,rfl,hg⟩ | ⟨t9,i9,hq,⟨T9,p9,rfl,hf⟩,hr,hg⟩
  ·exact⟨rfl,S.out.err (bi_er HR.out hq) hg⟩
  have G:=hid (show i+3≤i9 by have h1:=G.out; have h2:=z31 H.out.1 H.out.2.1 f NtR.expr trivial S.out.rd.lt hq; omega);have S:=hid (S.out.form hr hg hf);have HR:=hid (bi_ok HR.out hq);clear hp hq hf hr hg;have b0:=z8 S.out.box 0;have b1:=z8 S.out.box 1;have z:=z12 S.out.box 1;simp at b0 b1;go_wp2_with fail
  have S:=hid (S.out.put 1 (.iface T9 p9));go_ret;exact S.out.fin HR.out (S.out.mk1 (.head _) .fn)
 refine (z34 (l:=kFn) S.out.rd (by kernel_rfl) (by decide) (by simpa using z)).mono ?_;rintro e X5 ⟨rfl,hr,hg⟩;have S:=hid (S.out.go hr hg);have HR:=hid (oi_f HR.out (by simpa using z));clear hr hg z;go_wp2_with fail
 by_cases z : seesI ws i kCase=true
 ·refine (z37 S.out.rd (by kernel_rfl) (by decide) z).mono ?_;rintro e X10 ⟨rfl,hr,hg⟩;have S:=hid (S.out.go hr hg);have HR:=hid (oi_t HR.out z);have G:=hid (show i+1≤i+1 by have:=G.out; omega);clear hr hg z;go_wp2_with fail
  refine (icase_calls H.out.1 H.out.2.1 H.out.2.2 _ _ S.out.rd (by have h1:=G.out; have h2:=M.out; have h3:=S.out.rd.lt; unfold mi at h2 ⊢; omega)).mono ?_;intro e X11 hp;rcases z22 hp with ⟨j,hq,rfl,hg⟩ | ⟨t11,i11,hq,⟨T11,p11,rfl,hf⟩,hr,hg⟩
  ·exact⟨rfl,S.out.err (hq.symm.trans HR.out) hg⟩
  have S:=hid (S.out.form hr hg hf);have HR:=hid (hq.symm.trans HR.out);clear hp hq hf hr hg;go_wp2_with fail
  go_ret;exact S.out.fin HR.out (S.out.same (.head _))
 refine (z34 (l:=kCase) S.out.rd (by kernel_rfl) (by decide) (by simpa using z)).mono ?_;rintro e X10 ⟨rfl,hr,hg⟩;have S:=hid (S.out.go hr hg);have HR:=hid (oi_f HR.out (by simpa using z));clear hr hg z;go_wp2_with fail
 refine (H.out.2.2.cons _ _ S.out.rd (by have h1:=G.out; have h2:=M.out; have h3:=S.out.rd.lt; unfold mi at h2 ⊢; omega)).mono ?_;intro e X12 hp;rcases z22 hp with ⟨j,hq,rfl,hg⟩ | ⟨t12,i12,hq,⟨T12,p12,rfl,hf⟩,hr,hg⟩
 ·exact⟨rfl,S.out.err (hq.symm.trans HR.out) hg⟩
 have G:=hid (show i+0≤i12 by have h1:=G.out; have h2:=z31 H.out.1 H.out.2.1 f NtR.cons trivial S.out.rd.lt hq; omega);have S:=hid (S.out.form hr hg hf);have HR:=hid (hq.symm.trans HR.out);clear hp hq hf hr hg;go_wp2_with fail
 go_ret;exact S.out.fin HR.out (S.out.same (.head _))
theorem icons_calls (hw : BriefW ws) (ho : WordsOk ws) (hc : PiAll d ws ad cp sz f) (i : Nat) (W : World) (h : RdAt d ws ad cp sz i W) (hm : mi ws 10 i≤f+1) :
 Calls Tryz.prog 102 #[.pointer (some ⟨d.B,0,none⟩)] W (PostT d ws ad cp sz (ipz ws (f+1) .cons i) W):=by
 obtain⟨R,hR⟩ : ∃ R,ipz ws (f+1) .cons i=R:=⟨_,rfl⟩
 rw [hR];have HR:=hid (show consI ws (ipz ws f) i=R from hR);have S:=hid (St.start h);have H:=hid (And.intro hw (And.intro ho hc));have M:=hid hm;have G:=hid (show i+0≤i from Nat.le_refl _);clear h hm hR hw ho hc;go_enter Tryz.func102,Tryz.ntmps102
 go_wp2_with fail
 refine (H.out.2.2.comp _ _ S.out.rd (by have h1:=G.out; have h2:=M.out; have h3:=S.out.rd.lt; unfold mi at h2 ⊢; omega)).mono ?_;intro e X1 hp;rcases z22 hp with ⟨j,hq,rfl,hg⟩ | ⟨t1,i1,hq,⟨T1,p1,rfl,hf⟩,hr,hg⟩
 ·exact⟨rfl,S.out.err (bi_er HR.out hq) hg⟩
 have G:=hid (show i+0≤i1 by have h1:=G.out; have h2:=z31 H.out.1 H.out.2.1 f NtR.comp trivial S.out.rd.lt hq; omega);have S:=hid (S.out.form hr hg hf);have HR:=hid (bi_ok HR.out hq);clear hp hq hf hr hg;go_wp2_with fail
 by_cases z : seesI ws i1 gCons=true
 ·refine (z37 S.out.rd (by kernel_rfl) (by decide) z).mono ?_;rintro e X2 ⟨rfl,hr,hg⟩;have S:=hid (S.out.go hr hg);have HR:=hid (oi_t HR.out z);have G:=hid (show i+1≤i1+1 by have:=G.out; omega);clear hr hg z;go_wp2_with fail
  refine (H.out.2.2.cons _ _ S.out.rd (by have h1:=G.out; have h2:=M.out; have h3:=S.out.rd.lt; unfold mi at h2 ⊢; omega)).mono ?_;intro e X3 hp;rcases z22 hp with ⟨j,hq,rfl,hg⟩ | ⟨t3,i3,hq,⟨T3,p3,rfl,hf⟩,hr,hg⟩
  ·exact⟨rfl,S.out.err (bi_er HR.out hq) hg⟩
  have G:=hid (show i+1≤i3 by have h1:=G.out; have h2:=z31 H.out.1 H.out.2.1 f NtR.cons trivial S.out.rd.lt hq; omega);have S:=hid (S.out.form hr hg hf);have HR:=hid (bi_ok HR.out hq);clear hp hq hf hr hg;go_wp2_with fail
  go_ret;exact S.out.fin HR.out (S.out.mk2 (.tail _ (.head _)) (.head _) .cons)
 refine (z34 (l:=gCons) S.out.rd (by kernel_rfl) (by decide) (by simpa using z)).mono ?_;rintro e X2 ⟨rfl,hr,hg⟩;have S:=hid (S.out.go hr hg);have HR:=hid (oi_f HR.out (by simpa using z));clear hr hg z;go_wp2_with fail
 go_ret;exact S.out.fin HR.out (S.out.same (.head _))
end
theorem sign_text (k : Int) (t : ByteArray) (h : (k=14∧t=⟨#[61]⟩)∨(k=15∧t=⟨#[60]⟩)) (W : World) : Calls Tryz.prog 136 #[.int .i64 k] W fun e W'=> e= .returned (.string t)∧W'= W:=by
 rcases h with ⟨rfl,rfl⟩ | ⟨rfl,rfl⟩
 all_goals
  go_enter Tryz.func136,Tryz.ntmps136
  go_wp2_with fail
  go_ret;exact⟨rfl,rfl⟩
section
variable {d : Dr} {ws : List Wd} {ad : Option Addr} {cp sz : Nat}
theorem icomp_calls (hw : BriefW ws) (ho : WordsOk ws) (hc : PiAll d ws ad cp sz f) (i : Nat) (W : World) (h : RdAt d ws ad cp sz i W) (hm : mi ws 9 i≤f+1) :
 Calls Tryz.prog 124 #[.pointer (some ⟨d.B,0,none⟩)] W (PostT d ws ad cp sz (ipz ws (f+1) .comp i) W):=by
 obtain⟨R,hR⟩ : ∃ R,ipz ws (f+1) .comp i=R:=⟨_,rfl⟩
 rw [hR];have HR:=hid (show compI ws (ipz ws f) i=R from hR);have S:=hid (St.start h);have H:=hid (And.intro hw (And.intro ho hc));have M:=hid hm;have G:=hid (show i+0≤i from Nat.le_refl _);clear h hm hR hw ho hc;go_enter Tryz.func124,Tryz.ntmps124
 go_wp2_with fail
 refine (H.out.2.2.sum _ _ S.out.rd (by have h1:=G.out; have h2:=M.out; have h3:=S.out.rd.lt; unfold mi at h2 ⊢; omega)).mono ?_;intro e X1 hp;rcases z22 hp with ⟨j,hq,rfl,hg⟩ | ⟨t1,i1,hq,⟨T1,p1,rfl,hf⟩,hr,hg⟩
 ·exact⟨rfl,S.out.err (bi_er HR.out hq) hg⟩
 have G:=hid (show i+0≤i1 by have h1:=G.out; have h2:=z31 H.out.1 H.out.2.1 f NtR.sum trivial S.out.rd.lt hq; omega);have S:=hid (S.out.form hr hg hf);have HR:=hid (bi_ok HR.out hq);clear hp hq hf hr hg;go_wp2_with fail
 refine wp_loop_rounds 3 ?_;rw [rounds_succ];go_wp2_with fail
 refine (sign_text 14 ⟨#[61]⟩ (by simp) _).mono ?_;rintro e Y ⟨rfl,rfl⟩;go_wp2_with fail
 by_cases z : seesI ws i1 gEq=true
 ·refine (z37 S.out.rd (by kernel_rfl) (by decide) z).mono ?_;rintro e X2 ⟨rfl,hr,hg⟩;have S:=hid (S.out.go hr hg);have HR:=hid (oi_t HR.out z);have G:=hid (show i+1≤i1+1 by have:=G.out; omega);clear hr hg z;go_wp2_with fail
  refine (H.out.2.2.sum _ _ S.out.rd (by have h1:=G.out; have h2:=M.out; have h3:=S.out.rd.lt; unfold mi at h2 ⊢; omega)).mono ?_;intro e X3 hp;rcases z22 hp with ⟨j,hq,rfl,hg⟩ | ⟨t3,i3,hq,⟨T3,p3,rfl,hf⟩,hr,hg⟩
  ·exact⟨rfl,S.out.err (bi_er HR.out hq) hg⟩
  have G:=hid (show i+1≤i3 by have h1:=G.out; have h2:=z31 H.out.1 H.out.2.1 f NtR.sum trivial S.out.rd.lt hq; omega);have S:=hid (S.out.form hr hg hf);have HR:=hid (bi_ok HR.out hq);clear hp hq hf hr hg;go_wp2_with fail
  go_ret;exact S.out.fin HR.out (S.out.mk2 (.tail _ (.head _)) (.head _) (.sign (k:=14) (by simp)))
 refine (z34 (l:=gEq) S.out.rd (by kernel_rfl) (by decide) (by simpa using z)).mono ?_;rintro e X2 ⟨rfl,hr,hg⟩;have S:=hid (S.out.go hr hg);have HR:=hid (oi_f HR.out (by simpa using z));clear hr hg z;go_wp2_with fail
 rw [rounds_succ];go_wp2_with fail
 refine (sign_text 15 ⟨#[60]⟩ (by simp) _).mono ?_;rintro e Y ⟨rfl,rfl⟩;go_wp2_with fail
 by_cases z : seesI ws i1 gLt=true
 ·refine (z37 S.out.rd (by kernel_rfl) (by decide) z).mono ?_;rintro e X4 ⟨rfl,hr,hg⟩;have S:=hid (S.out.go hr hg);have HR:=hid (oi_t HR.out z);have G:=hid (show i+1≤i1+1 by have:=G.out; omega);clear hr hg z;go_wp2_with fail
  refine (H.out.2.2.sum _ _ S.out.rd (by have h1:=G.out; have h2:=M.out; have h3:=S.out.rd.lt; unfold mi at h2 ⊢; omega)).mono ?_;intro e X5 hp;rcases z22 hp with ⟨j,hq,rfl,hg⟩ | ⟨t5,i5,hq,⟨T5,p5,rfl,hf⟩,hr,hg⟩
  ·exact⟨rfl,S.out.err (bi_er HR.out hq) hg⟩
  have G:=hid (show i+1≤i5 by have h1:=G.out; have h2:=z31 H.out.1 H.out.2.1 f NtR.sum trivial S.out.rd.lt hq; omega);have S:=hid (S.out.form hr hg hf);have HR:=hid (bi_ok HR.out hq);clear hp hq hf hr hg;go_wp2_with fail
  go_ret;exact S.out.fin HR.out (S.out.mk2 (.tail _ (.head _)) (.head _) (.sign (k:=15) (by simp)))
 refine (z34 (l:=gLt) S.out.rd (by kernel_rfl) (by decide) (by simpa using z)).mono ?_;rintro e X4 ⟨rfl,hr,hg⟩;have S:=hid (S.out.go hr hg);have HR:=hid (oi_f HR.out (by simpa using z));clear hr hg z;go_wp2_with fail
 rw [rounds_succ];go_wp2_with fail
 go_ret;exact S.out.fin HR.out (S.out.same (.head _))
theorem rd_pos {i : Nat} {W : World} (h : RdAt d ws ad cp sz i W) : posOf d W=i:=by
 have q:=z8 h.blk 1;simp at q;unfold posOf;rw [q];simp [intOf]
def LoopR (d : Dr) (ws : List Wd) (ad : Option Addr) (cp sz f : Nat) (nt : Tr→Nt Tr) (lv : Nat) (R : Except Nat (Tr×Nat)) (W : World) (v : Value) (wr : World) : Prop:=
 ∃ (t : Tr) (T : TypeId) (p : Value) (g k : Nat),v= .iface T p∧St d ws ad cp sz W [] [⟨W.heap.size,wr.heap.size,t,.iface T p⟩] k wr∧ipz ws g (nt t) k=R∧mi ws lv k≤g∧g≤f
theorem iprod_calls (hw : BriefW ws) (ho : WordsOk ws) (ha : ∀ g,g≤f→PiAll d ws ad cp sz g) (i : Nat) (W : World) (h : RdAt d ws ad cp sz i W) (hm : mi ws 6 i≤f+1) :
 Calls Tryz.prog 142 #[.pointer (some ⟨d.B,0,none⟩)] W (PostT d ws ad cp sz (ipz ws (f+1) .prod i) W):=by
 obtain⟨R,hR⟩ : ∃ R,ipz ws (f+1) .prod i=R:=⟨_,rfl⟩
 rw [hR];have HR:=hid (show prodI (ipz ws f) i=R from hR);have S:=hid (St.start h);have H:=hid (And.intro hw (And.intro ho (ha f (Nat.le_refl f))));have M:=hid hm;have G:=hid (show i+0≤i from Nat.le_refl _);have HA:=hid ha;clear h hm hR hw ho ha;go_enter Tryz.func142,Tryz.ntmps142
 go_wp2_with fail
 refine (H.out.2.2.call _ _ S.out.rd (by have h1:=G.out; have h2:=M.out; have h3:=S.out.rd.lt; unfold mi at h2 ⊢; omega)).mono ?_;intro e X1 hp;rcases z22 hp with ⟨j,hq,rfl,hg⟩ | ⟨t1,i1,hq,⟨T1,p1,rfl,hf⟩,hr,hg⟩
 ·exact⟨rfl,S.out.err (bi_er HR.out hq) hg⟩
 have G:=hid (show i+0≤i1 by have h1:=G.out; have h2:=z31 H.out.1 H.out.2.1 f NtR.call trivial S.out.rd.lt hq; omega);have S:=hid (S.out.form hr hg hf);have HR:=hid (bi_ok HR.out hq);clear hp hq hf hr hg;go_wp2_with fail
 have S:=hid (S.out.fold (S.out.same (.head _)));go_loopw [3] (fun v wr=>Hid (LoopR d ws ad cp sz f Nt.prodL 5 R W v wr)) (fun _ wr=>ws.length - posOf d wr)
 case atStart=>exact hid ⟨t1,T1,p1,f,i1,rfl,S.out,HR.out,(by have h1:=G.out; have h2:=M.out; have h3:=S.out.rd.lt; unfold mi at h2 ⊢; omega),Nat.le_refl _⟩
 case round=>
  obtain⟨t,T,p,g,k,rfl,hS,hF,hm,hg⟩:=hrel.out;clear hrel;obtain⟨g,rfl⟩ : ∃ x,g=x+1:=⟨g - 1,by unfold mi at hm; omega⟩
  have S:=hid hS;have HR:=hid (show prodLI ws (ipz ws g) t k=R from hF);have M:=hid hm;have HG:=hid hg;have HP:=hid (rd_pos hS.rd);have H:=hid (And.intro H.out.1 (And.intro H.out.2.1 (HA.out g (by omega))));have G:=hid (show k+0≤k from Nat.le_refl _);clear hS hF hm hg;go_wp2_with fail
  by_cases z : seesI ws k gStar=true
  ·refine (z37 S.out.rd (by kernel_rfl) (by decide) z).mono ?_;rintro e X2 ⟨rfl,hr,hg⟩;have S:=hid (S.out.go hr hg);have HR:=hid (oi_t HR.out z);have G:=hid (show k+1≤k+1 by have:=G.out; omega);clear hr hg z;go_wp2_with fail
   refine (H.out.2.2.call _ _ S.out.rd (by have h1:=G.out; have h2:=M.out; have h3:=S.out.rd.lt; unfold mi at h2 ⊢; omega)).mono ?_;intro e X3 hp;rcases z22 hp with ⟨j,hq,rfl,hg⟩ | ⟨t3,i3,hq,⟨T3,p3,rfl,hf⟩,hr,hg⟩
   ·exact⟨rfl,S.out.err (bi_er HR.out hq) hg⟩
   have G:=hid (show k+1≤i3 by have h1:=G.out; have h2:=z31 H.out.1 H.out.2.1 g NtR.call trivial S.out.rd.lt hq; omega);have S:=hid (S.out.form hr hg hf);have HR:=hid (bi_ok HR.out hq);clear hp hq hf hr hg;go_wp2_with fail
   have S:=hid (S.out.fold (S.out.mk2 (.tail _ (.head _)) (.head _) (n:=nd0 13) (v:= .iface 183 (.agg #[.int .i64 13,.iface T p,.iface T3 p3])) (.sign (k:=13) (by simp))));exact⟨hid ⟨_,_,_,g,i3,rfl,S.out,HR.out,(by have h1:=G.out; have h2:=M.out; have h3:=S.out.rd.lt; unfold mi at h2 ⊢; omega),(by have:=HG.out; omega)⟩,by
    rw [HP.out,rd_pos S.out.rd];have h1:=G.out;have h2:=S.out.rd.lt;omega⟩
  refine (z34 (l:=gStar) S.out.rd (by kernel_rfl) (by decide) (by simpa using z)).mono ?_;rintro e X2 ⟨rfl,hr,hg⟩;have S:=hid (S.out.go hr hg);have HR:=hid (oi_f HR.out (by simpa using z));clear hr hg z;go_wp2_with fail
  go_ret;exact S.out.fin HR.out (S.out.same (.head _))
theorem isum_calls (hw : BriefW ws) (ho : WordsOk ws) (ha : ∀ g,g≤f→PiAll d ws ad cp sz g) (i : Nat) (W : World) (h : RdAt d ws ad cp sz i W) (hm : mi ws 8 i≤f+1) :
 Calls Tryz.prog 135 #[.pointer (some ⟨d.B,0,none⟩)] W (PostT d ws ad cp sz (ipz ws (f+1) .sum i) W):=by
 obtain⟨R,hR⟩ : ∃ R,ipz ws (f+1) .sum i=R:=⟨_,rfl⟩
 rw [hR];have HR:=hid (show sumI (ipz ws f) i=R from hR);have S:=hid (St.start h);have H:=hid (And.intro hw (And.intro ho (ha f (Nat.le_refl f))));have M:=hid hm;have G:=hid (show i+0≤i from Nat.le_refl _);have HA:=hid ha;clear h hm hR hw ho ha;go_enter Tryz.func135,Tryz.ntmps135
 go_wp2_with fail
 refine (H.out.2.2.prod _ _ S.out.rd (by have h1:=G.out; have h2:=M.out; have h3:=S.out.rd.lt; unfold mi at h2 ⊢; omega)).mono ?_;intro e X1 hp;rcases z22 hp with ⟨j,hq,rfl,hg⟩ | ⟨t1,i1,hq,⟨T1,p1,rfl,hf⟩,hr,hg⟩
 ·exact⟨rfl,S.out.err (bi_er HR.out hq) hg⟩
 have G:=hid (show i+0≤i1 by have h1:=G.out; have h2:=z31 H.out.1 H.out.2.1 f NtR.prod trivial S.out.rd.lt hq; omega);have S:=hid (S.out.form hr hg hf);have HR:=hid (bi_ok HR.out hq);clear hp hq hf hr hg;go_wp2_with fail
 have S:=hid (S.out.fold (S.out.same (.head _)));go_loopw [3] (fun v wr=>Hid (LoopR d ws ad cp sz f Nt.sumL 7 R W v wr)) (fun _ wr=>ws.length - posOf d wr)
 case atStart=>exact hid ⟨t1,T1,p1,f,i1,rfl,S.out,HR.out,(by have h1:=G.out; have h2:=M.out; have h3:=S.out.rd.lt; unfold mi at h2 ⊢; omega),Nat.le_refl _⟩
 case round=>
  obtain⟨t,T,p,g,k,rfl,hS,hF,hm,hg⟩:=hrel.out;clear hrel;obtain⟨g,rfl⟩ : ∃ x,g=x+1:=⟨g - 1,by unfold mi at hm; omega⟩
  have S:=hid hS;have HR:=hid (show sumLI ws (ipz ws g) t k=R from hF);have M:=hid hm;have HG:=hid hg;have HP:=hid (rd_pos hS.rd);have H:=hid (And.intro H.out.1 (And.intro H.out.2.1 (HA.out g (by omega))));have G:=hid (show k+0≤k from Nat.le_refl _);clear hS hF hm hg;go_wp2_with fail
  by_cases z : seesI ws k gPlus=true
  ·refine (z37 S.out.rd (by kernel_rfl) (by decide) z).mono ?_;rintro e X2 ⟨rfl,hr,hg⟩;have S:=hid (S.out.go hr hg);have HR:=hid (oi_t HR.out z);have G:=hid (show k+1≤k+1 by have:=G.out; omega);clear hr hg z;go_wp2_with fail
   refine (H.out.2.2.prod _ _ S.out.rd (by have h1:=G.out; have h2:=M.out; have h3:=S.out.rd.lt; unfold mi at h2 ⊢; omega)).mono ?_;intro e X3 hp;rcases z22 hp with ⟨j,hq,rfl,hg⟩ | ⟨t3,i3,hq,⟨T3,p3,rfl,hf⟩,hr,hg⟩
   ·exact⟨rfl,S.out.err (bi_er HR.out hq) hg⟩
   have G:=hid (show k+1≤i3 by have h1:=G.out; have h2:=z31 H.out.1 H.out.2.1 g NtR.prod trivial S.out.rd.lt hq; omega);have S:=hid (S.out.form hr hg hf);have HR:=hid (bi_ok HR.out hq);clear hp hq hf hr hg;go_wp2_with fail
   have S:=hid (S.out.fold (S.out.mk2 (.tail _ (.head _)) (.head _) (n:=nd0 11) (v:= .iface 183 (.agg #[.int .i64 11,.iface T p,.iface T3 p3])) (.sign (k:=11) (by simp))));exact⟨hid ⟨_,_,_,g,i3,rfl,S.out,HR.out,(by have h1:=G.out; have h2:=M.out; have h3:=S.out.rd.lt; unfold mi at h2 ⊢; omega),(by have:=HG.out; omega)⟩,by
    rw [HP.out,rd_pos S.out.rd];have h1:=G.out;have h2:=S.out.rd.lt;omega⟩
  refine (z34 (l:=gPlus) S.out.rd (by kernel_rfl) (by decide) (by simpa using z)).mono ?_;rintro e X2 ⟨rfl,hr,hg⟩;have S:=hid (S.out.go hr hg);have HR:=hid (oi_f HR.out (by simpa using z));clear hr hg z;go_wp2_with fail
  by_cases z : seesI ws k gMinus=true
  ·refine (z37 S.out.rd (by kernel_rfl) (by decide) z).mono ?_;rintro e X4 ⟨rfl,hr,hg⟩;have S:=hid (S.out.go hr hg);have HR:=hid (oi_t HR.out z);have G:=hid (show k+1≤k+1 by have:=G.out; omega);clear hr hg z;go_wp2_with fail
   refine (H.out.2.2.prod _ _ S.out.rd (by have h1:=G.out; have h2:=M.out; have h3:=S.out.rd.lt; unfold mi at h2 ⊢; omega)).mono ?_;intro e X5 hp;rcases z22 hp with ⟨j,hq,rfl,hg⟩ | ⟨t5,i5,hq,⟨T5,p5,rfl,hf⟩,hr,hg⟩
   ·exact⟨rfl,S.out.err (bi_er HR.out hq) hg⟩
   have G:=hid (show k+1≤i5 by have h1:=G.out; have h2:=z31 H.out.1 H.out.2.1 g NtR.prod trivial S.out.rd.lt hq; omega);have S:=hid (S.out.form hr hg hf);have HR:=hid (bi_ok HR.out hq);clear hp hq hf hr hg;go_wp2_with fail
   have S:=hid (S.out.fold (S.out.mk2 (.tail _ (.head _)) (.head _) (n:=nd0 12) (v:= .iface 183 (.agg #[.int .i64 12,.iface T p,.iface T5 p5])) (.sign (k:=12) (by simp))));exact⟨hid ⟨_,_,_,g,i5,rfl,S.out,HR.out,(by have h1:=G.out; have h2:=M.out; have h3:=S.out.rd.lt; unfold mi at h2 ⊢; omega),(by have:=HG.out; omega)⟩,by
    rw [HP.out,rd_pos S.out.rd];have h1:=G.out;have h2:=S.out.rd.lt;omega⟩
  refine (z34 (l:=gMinus) S.out.rd (by kernel_rfl) (by decide) (by simpa using z)).mono ?_;rintro e X4 ⟨rfl,hr,hg⟩;have S:=hid (S.out.go hr hg);have HR:=hid (oi_f HR.out (by simpa using z));clear hr hg z;go_wp2_with fail
  go_ret;exact S.out.fin HR.out (S.out.same (.head _))
end
end
end Go.Proofs.YtfbojelpdccjaaaGreatDoor
