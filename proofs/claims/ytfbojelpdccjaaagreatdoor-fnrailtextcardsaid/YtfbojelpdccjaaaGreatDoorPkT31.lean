import Derived.Test.YtfbojelpdccjaaaGreatDoorPkT30
open Go.Proofs.Tryz
set_option maxHeartbeats 8000000
set_option maxRecDepth 100000
namespace Go.Proofs.YtfbojelpdccjaaaGreatDoor
open Go.RowKit Go.Deep
variable {args:Array Value}{t1:ByteArray}{F:FuncId}{l1:List UInt8}{f:Nat}
section
open Go.RowKit Go.Deep
section
variable {d:Dr}{ws:List Wd}{ad:Option Addr}{cp sz:Nat}{W X:World}{bx:List (Nat×Array Value×TypeId)}{fs:List Fr}{i b c:Nat}{K:Ending->World->Prop}
theorem ev_x {α:Type}{Q:α->Ending->World->Prop}{r:Except Nat (α×Nat)}{Y:World}(h:Calls prog F args Y (PostX d ws ad cp sz Q r X)) (he:∀j X',r=.error j->Grew d X X'->K (.panicked [faultAt ws sz j]) X') (hv:∀a k e X',r=.ok (a,k)->Q a e X'->RdAt d ws ad cp sz k X'->Grew d X X'->K e X'):Calls prog F args Y K:=by
 refine h.mono fun e X' hp=>?_
 rcases post_x hp with ⟨j,hq,rfl,hg⟩|⟨a,k,hq,h1,hr,hg⟩
 .exact he j X' hq hg
 .exact hv a k e X' hq h1 hr hg
theorem open_x (S:St d ws ad cp sz W bx fs i X) (a:Array Value) (t:TypeId):∃Y g,X.alloc (.cells a t)=Y/\X.heap.size=g/\X.heap.size+1=Y.heap.size/\I (St d ws ad cp sz W ((g,a,t)::bx) fs i Y):=
 ⟨_,_,rfl,rfl,yn,S.alloc a t⟩
theorem put_x {g:Nat}{a:Array Value}{t:TypeId}(S:St d ws ad cp sz W ((g,a,t)::bx) fs i X) (j:Nat) (v:Value):∃Z,X.setCell ⟨g,j,none⟩ v=Z/\X.heap.size=Z.heap.size/\I (St d ws ad cp sz W ((g,a.setIfInBounds j v,t)::bx) fs i Z):=
 ⟨_,rfl,put_size X g j v,S.put j v⟩
section
variable {α:Type}{R:Except Nat (α×Nat)}{Q:α->Ending->World->Prop}
theorem skip_y {p q:PI α}{t:ByteArray}{l:List UInt8}(S:St d ws ad cp sz W bx fs i X) (HR:orI ws l p q i=R) (G:b+c<=i) (ht:t.toList=l) (hl:l≠ []) (hz:seesI ws i l=true) (hv:∀X1,I (St d ws ad cp sz W bx fs (i+1) X1)->I (p (i+1)=R)->I (b+(c+1)<=i+1)->K (.returned (.bool true)) X1):Calls prog 98 #[.pointer (some ⟨d.B,0,none⟩),.string t] X K:=by
 refine(skips_t S.rd ht hl hz).mono ?_;rintro e X1 ⟨rfl,hr,hg⟩;exact hv X1 (S.go hr hg) (oi_t HR hz) (show _<=_ by omega)
theorem skip_n {p q:PI α}{t:ByteArray}{l:List UInt8}(S:St d ws ad cp sz W bx fs i X) (HR:orI ws l p q i=R) (ht:t.toList=l) (hl:l≠ []) (hz:seesI ws i l=false) (hv:∀X1,I (St d ws ad cp sz W bx fs i X1)->I (q i=R)->K (.returned (.bool false)) X1):Calls prog 98 #[.pointer (some ⟨d.B,0,none⟩),.string t] X K:=by
 refine(skips_f S.rd ht hl hz).mono ?_;rintro e X1 ⟨rfl,hr,hg⟩;exact hv X1 (S.go hr hg) (oi_f HR hz)
theorem name_x {k:ByteArray->PI α}(S:St d ws ad cp sz W bx fs i X) (HR:bindI (nameI ws) k i=R) (G:b+c<=i) (he:∀j X',PostX d ws ad cp sz Q R W (.panicked [faultAt ws sz j]) X'->K (.panicked [faultAt ws sz j]) X') (hv:∀n i1 X1,I (St d ws ad cp sz W bx fs i1 X1)->I (k n i1=R)->I (b+(c+1)<=i1)->K (.returned (.string n)) X1):Calls prog 96 #[.pointer (some ⟨d.B,0,none⟩)] X K:=
 ev_x (rname_calls _ _ S.rd) (fun j X' hq hg=>he j X' (S.err (bi_er HR hq) hg)) fun n i1 e X1 hq h1 hr hg=>by
  subst h1;have h2:=name_on hq;exact hv n i1 X1 (S.go hr hg) (bi_ok HR hq) (show _<=_ by omega)
theorem z71 {k:Unit->PI α}(S:St d ws ad cp sz W bx fs i X) (HR:bindI (takeI ws l1) k i=R) (G:b+c<=i) (e1:t1.toList=l1) (h1:l1≠ []) (he:∀j X',PostX d ws ad cp sz Q R W (.panicked [faultAt ws sz j]) X'->K (.panicked [faultAt ws sz j]) X') (hv:∀v i1 X1,I (St d ws ad cp sz W bx fs i1 X1)->I (k () i1=R)->I (b+(c+1)<=i1)->K (.returned v) X1) :
 Calls prog 95 #[.pointer (some ⟨d.B,0,none⟩),.slice (some ⟨X.heap.size,0,none⟩) 1 1] (X.alloc (.cells #[.string t1] 9)) K:=
 ev_x (must1 t1 S.rd e1 h1) (fun j X' hq hg=>he j X' (S.err (m1_er HR hq) hg)) fun u i1 e X1 hq ⟨v,h⟩ hr hg=>by
  subst h;have h2:=m1_ok HR hq;exact hv v i1 X1 (S.go hr hg) h2.1 (show _<=_ by have:=h2.2;omega)
theorem must2_x {l2:List UInt8}{t2:ByteArray}{k:Unit->PI α}(S:St d ws ad cp sz W bx fs i X) (HR:bindI (takeI ws l1) (fun _=>bindI (takeI ws l2) k) i=R) (G:b+c<=i) (e1:t1.toList=l1) (h1:l1≠ []) (e2:t2.toList=l2) (h2:l2≠ []) (he:∀j X',PostX d ws ad cp sz Q R W (.panicked [faultAt ws sz j]) X'->K (.panicked [faultAt ws sz j]) X') (hv:∀v i1 X1,I (St d ws ad cp sz W bx fs i1 X1)->I (k () i1=R)->I (b+(c+2)<=i1)->K (.returned v) X1) :
 Calls prog 95 #[.pointer (some ⟨d.B,0,none⟩),.slice (some ⟨X.heap.size,0,none⟩) 2 2] (X.alloc (.cells #[.string t1,.string t2] 9)) K:=
 ev_x (must2 t1 t2 S.rd e1 h1 e2 h2) (fun j X' hq hg=>he j X' (S.err (m2_er HR hq) hg)) fun u i1 e X1 hq ⟨v,h⟩ hr hg=>by
  subst h;have h2:=m2_ok HR hq;exact hv v i1 X1 (S.go hr hg) h2.1 (show _<=_ by have:=h2.2;omega)
theorem must3_x {l2 l3:List UInt8}{t2 t3:ByteArray}{k:Unit->PI α}(S:St d ws ad cp sz W bx fs i X) (HR:bindI (takeI ws l1) (fun _=>bindI (takeI ws l2) (fun _=>bindI (takeI ws l3) k)) i=R) (G:b+c<=i) (e1:t1.toList=l1) (h1:l1≠ []) (e2:t2.toList=l2) (h2:l2≠ []) (e3:t3.toList=l3) (h3:l3≠ []) (he:∀j X',PostX d ws ad cp sz Q R W (.panicked [faultAt ws sz j]) X'->K (.panicked [faultAt ws sz j]) X') (hv:∀v i1 X1,I (St d ws ad cp sz W bx fs i1 X1)->I (k () i1=R)->I (b+(c+3)<=i1)->K (.returned v) X1) :
 Calls prog 95 #[.pointer (some ⟨d.B,0,none⟩),.slice (some ⟨X.heap.size,0,none⟩) 3 3] (X.alloc (.cells #[.string t1,.string t2,.string t3] 9)) K:=
 ev_x (must3 t1 t2 t3 S.rd e1 h1 e2 h2 e3 h3) (fun j X' hq hg=>he j X' (S.err (m3_er HR hq) hg)) fun u i1 e X1 hq ⟨v,h⟩ hr hg=>by
  subst h;have h2:=m3_ok HR hq;exact hv v i1 X1 (S.go hr hg) h2.1 (show _<=_ by have:=h2.2;omega)
theorem go_i {nt:Nt Tr}{nt':Nt (List Nd)}{k:Tr->PI α}(hw:BriefW ws) (ho:WordsOk ws) (hn:NtR nt' nt) (hb:NtB nt') (h:Calls prog F args X (PostT d ws ad cp sz (ipz ws f nt i) X)) (S:St d ws ad cp sz W bx fs i X) (HR:bindI (ipz ws f nt) k i=R) (G:b+c<=i) (he:∀j X',PostX d ws ad cp sz Q R W (.panicked [faultAt ws sz j]) X'->K (.panicked [faultAt ws sz j]) X') (hv:∀t i1 T p X1,I (St d ws ad cp sz W bx (⟨X.heap.size,X1.heap.size,t,.iface T p⟩::fs) i1 X1)->I (k t i1=R)->I (b+c<=i1)->K (.returned (.iface T p)) X1):Calls prog F args X K:=
 ev_x h (fun j X' hq hg=>he j X' (S.err (bi_er HR hq) hg)) fun t i1 e X1 hq ⟨T,p,h1,hf⟩ hr hg=>by
  subst h1;have h2:=ip_goes hw ho f hn hb S.rd.lt hq;exact hv t i1 T p X1 (S.form hr hg hf) (bi_ok HR hq) (show _<=_ by omega)
theorem go_l {r R:Except Nat (Tr×Nat)}{Q:Tr->Ending->World->Prop}(h:Calls prog F args X (PostT d ws ad cp sz r X)) (S:St d ws ad cp sz W bx fs i X) (HR:r=R) (he:∀j X',PostX d ws ad cp sz Q R W (.panicked [faultAt ws sz j]) X'->K (.panicked [faultAt ws sz j]) X') (hv:∀t i1 T p X1,I (St d ws ad cp sz W bx (⟨X.heap.size,X1.heap.size,t,.iface T p⟩::fs) i1 X1)->I (.ok (t,i1)=R)->K (.returned (.iface T p)) X1):Calls prog F args X K:=
 ev_x h (fun j X' hq hg=>he j X' (S.err (hq.symm.trans HR) hg)) fun t i1 e X1 hq ⟨T,p,h1,hf⟩ hr hg=>by
  subst h1;exact hv t i1 T p X1 (S.form hr hg hf) (hq.symm.trans HR)
end
end
section
variable {d:Dr}{ws:List Wd}{ad:Option Addr}{cp sz:Nat}
theorem irec_calls (hw:BriefW ws) (ho:WordsOk ws) (hc:PiAll d ws ad cp sz f) (i:Nat) (W:World) (h:RdAt d ws ad cp sz i W) (hm:mi ws 11 i<=f) :
 Calls prog 123 #[.pointer (some ⟨d.B,0,none⟩)] W (PostT d ws ad cp sz (recI' ws (ipz ws f) i) W):=by
 obtain⟨R,hR⟩:∃R,recI' ws (ipz ws f) i=R:=⟨_,rfl⟩
 refine zb20 ?_;intro HR S H M G;clear h hm hR hw ho hc;go_enter func123,ntmps123
 go_wp2_with fail
 refine name_x S.o HR.o G.o (fun _ _ h=>⟨rfl,h⟩) ?_;intro n1 i1 X1 S HR G;go_wp2_with fail
 obtain⟨Y2,g2,hY,hg,hs,S⟩:=open_x S.o #[.string n1,.string ⟨#[]⟩,.nilIface,.nilIface] 164;try rw[hs]
 rw[hY,hg];clear hY hg hs;refine name_x S.o HR.o G.o (fun _ _ h=>⟨rfl,h⟩) ?_;intro n3 i3 X3 S HR G;have b:=z8 S.o.box 1;have z:=z11 S.o.box 1;simp at b;go_wp2_with fail
 obtain⟨Z4,hZ,hs,S⟩:=put_x S.o 1 (.string n3);try rw[hs]
 rw[hZ];clear hZ hs b z;refine z71 (l1:=gEq) S.o HR.o G.o yb yh (fun _ _ h=>⟨rfl,h⟩) ?_;intro v i5 X5 S HR G;go_wp2_with fail
 refine go_i H.o.1 H.o.2.1 NtR.expr trivial (H.o.2.2.expr _ _ S.o.rd yw) S.o HR.o G.o (fun _ _ h=>⟨rfl,h⟩) ?_;intro t6 i6 T6 p6 X6 S HR G;have b:=z8 S.o.box 2;have z:=z11 S.o.box 2;simp at b;go_wp2_with fail
 obtain⟨Z7,hZ,hs,S⟩:=put_x S.o 2 (.iface T6 p6);try rw[hs]
 rw[hZ];clear hZ hs b z;refine z71 (l1:=kIn) S.o HR.o G.o yb yh (fun _ _ h=>⟨rfl,h⟩) ?_;intro v i8 X8 S HR G;go_wp2_with fail
 refine zb51 ?_;intro t9 i9 T9 p9 X9 S HR G b0 b1 b2;have b3:=z8 S.o.box 3;have z:=z11 S.o.box 3;simp at b0 b1 b2 b3;go_wp2_with fail
 have S:=J (S.o.put 3 (.iface T9 p9));go_ret;exact S.o.fin HR.o (S.o.mk2 (.tail _ (.head _)) (.head _) .recur)
theorem ilet_calls (hw:BriefW ws) (ho:WordsOk ws) (hc:PiAll d ws ad cp sz f) (i:Nat) (W:World) (h:RdAt d ws ad cp sz i W) (hm:mi ws 11 i<=f) :
 Calls prog 99 #[.pointer (some ⟨d.B,0,none⟩)] W (PostT d ws ad cp sz (orI ws kRec (recI' ws (ipz ws f)) (letI' ws (ipz ws f)) i) W):=by
 obtain⟨R,hR⟩:∃R,orI ws kRec (recI' ws (ipz ws f)) (letI' ws (ipz ws f)) i=R:=⟨_,rfl⟩
 refine zb20 ?_;intro HR S H M G;clear h hm hR hw ho hc;go_enter func99,ntmps99
 go_wp2_with fail
 by_cases z:seesI ws i kRec=true
 .refine skip_y S.o HR.o G.o yb yh z ?_;intro X1 S HR G;clear z;go_wp2_with fail
  refine go_l (irec_calls H.o.1 H.o.2.1 H.o.2.2 _ _ S.o.rd yw) S.o HR.o (fun _ _ h=>⟨rfl,h⟩) ?_;intro t2 i2 T2 p2 X2 S HR;go_wp2_with fail
  go_ret;exact S.o.fin HR.o (S.o.same (.head _))
 refine skip_n (l:=kRec) S.o HR.o yb yh yax ?_;intro X1 S HR;clear z;go_wp2_with fail
 refine name_x S.o HR.o G.o (fun _ _ h=>⟨rfl,h⟩) ?_;intro n3 i3 X3 S HR G;go_wp2_with fail
 obtain⟨Y4,g4,hY,hg,hs,S⟩:=open_x S.o #[.string n3,.nilIface,.nilIface] 162;try rw[hs]
 rw[hY,hg];clear hY hg hs;refine z71 (l1:=gEq) S.o HR.o G.o yb yh (fun _ _ h=>⟨rfl,h⟩) ?_;intro v i5 X5 S HR G;go_wp2_with fail
 refine go_i H.o.1 H.o.2.1 NtR.expr trivial (H.o.2.2.expr _ _ S.o.rd yw) S.o HR.o G.o (fun _ _ h=>⟨rfl,h⟩) ?_;intro t6 i6 T6 p6 X6 S HR G;have b:=z8 S.o.box 1;have z:=z11 S.o.box 1;simp at b;go_wp2_with fail
 obtain⟨Z7,hZ,hs,S⟩:=put_x S.o 1 (.iface T6 p6);try rw[hs]
 rw[hZ];clear hZ hs b z;refine z71 (l1:=kIn) S.o HR.o G.o yb yh (fun _ _ h=>⟨rfl,h⟩) ?_;intro v i8 X8 S HR G;go_wp2_with fail
 refine zb51 ?_;intro t9 i9 T9 p9 X9 S HR G b0 b1 b2;have z:=z11 S.o.box 2;simp at b0 b1 b2;go_wp2_with fail
 have S:=J (S.o.put 2 (.iface T9 p9));go_ret;exact S.o.fin HR.o (S.o.mk2 (.tail _ (.head _)) (.head _) .bind)
theorem icond_calls (hw:BriefW ws) (ho:WordsOk ws) (hc:PiAll d ws ad cp sz f) (i:Nat) (W:World) (h:RdAt d ws ad cp sz i W) (hm:mi ws 11 i<=f) :
 Calls prog 100 #[.pointer (some ⟨d.B,0,none⟩)] W (PostT d ws ad cp sz (condI ws (ipz ws f) i) W):=by
 obtain⟨R,hR⟩:∃R,condI ws (ipz ws f) i=R:=⟨_,rfl⟩
 refine zb20 ?_;intro HR S H M G;clear h hm hR hw ho hc;go_enter func100,ntmps100
 go_wp2_with fail
 refine zb89 ?_;intro t1 i1 T1 p1 X1 S HR G;go_wp2_with fail
 obtain⟨Y2,g2,hY,hg,hs,S⟩:=open_x S.o #[.iface T1 p1,.nilIface,.nilIface] 166;try rw[hs]
 rw[hY,hg];clear hY hg hs;refine z71 (l1:=kThen) S.o HR.o G.o yb yh (fun _ _ h=>⟨rfl,h⟩) ?_;intro v i3 X3 S HR G;go_wp2_with fail
 refine zb66 ?_;intro t4 i4 T4 p4 X4 S HR G b z;simp at b;go_wp2_with fail
 obtain⟨Z5,hZ,hs,S⟩:=put_x S.o 1 (.iface T4 p4);try rw[hs]
 rw[hZ];clear hZ hs b z;refine z71 (l1:=kElse) S.o HR.o G.o yb yh (fun _ _ h=>⟨rfl,h⟩) ?_;intro v i6 X6 S HR G;go_wp2_with fail
 refine go_i H.o.1 H.o.2.1 NtR.expr trivial (H.o.2.2.expr _ _ S.o.rd yw) S.o HR.o G.o (fun _ _ h=>⟨rfl,h⟩) ?_;intro t7 i7 T7 p7 X7 S HR G;have b0:=z8 S.o.box 0;have b1:=z8 S.o.box 1;have b2:=z8 S.o.box 2;have z:=z11 S.o.box 2;simp at b0 b1 b2;go_wp2_with fail
 have S:=J (S.o.put 2 (.iface T7 p7));go_ret;exact S.o.fin HR.o (S.o.mk3 (.tail _ (.tail _ (.head _))) (.tail _ (.head _)) (.head _) .cond)
theorem icase_calls (hw:BriefW ws) (ho:WordsOk ws) (hc:PiAll d ws ad cp sz f) (i:Nat) (W:World) (h:RdAt d ws ad cp sz i W) (hm:mi ws 11 i<=f) :
 Calls prog 101 #[.pointer (some ⟨d.B,0,none⟩)] W (PostT d ws ad cp sz (caseI ws (ipz ws f) i) W):=by
 obtain⟨R,hR⟩:∃R,caseI ws (ipz ws f) i=R:=⟨_,rfl⟩
 refine zb20 ?_;intro HR S H M G;clear h hm hR hw ho hc;go_enter func101,ntmps101
 go_wp2_with fail
 refine zb89 ?_;intro t1 i1 T1 p1 X1 S HR G;go_wp2_with fail
 obtain⟨Y2,g2,hY,hg,hs,S⟩:=open_x S.o #[.iface T1 p1,.nilIface,.string ⟨#[]⟩,.string ⟨#[]⟩,.nilIface] 174;try rw[hs]
 rw[hY,hg];clear hY hg hs;refine must3_x (l1:=kOf) (l2:=kNil) (l3:=gTo) S.o HR.o G.o yb yh yb yh yb yh (fun _ _ h=>⟨rfl,h⟩) ?_;intro v i3 X3 S HR G;go_wp2_with fail
 refine zb66 ?_;intro t4 i4 T4 p4 X4 S HR G b z;simp at b;go_wp2_with fail
 obtain⟨Z5,hZ,hs,S⟩:=put_x S.o 1 (.iface T4 p4);try rw[hs]
 rw[hZ];clear hZ hs b z;refine z71 (l1:=gBar) S.o HR.o G.o yb yh (fun _ _ h=>⟨rfl,h⟩) ?_;intro v i6 X6 S HR G;go_wp2_with fail
 refine name_x S.o HR.o G.o (fun _ _ h=>⟨rfl,h⟩) ?_;intro n7 i7 X7 S HR G;have b:=z8 S.o.box 2;have z:=z11 S.o.box 2;simp at b;go_wp2_with fail
 obtain⟨Z8,hZ,hs,S⟩:=put_x S.o 2 (.string n7);try rw[hs]
 rw[hZ];clear hZ hs b z;refine z71 (l1:=gCons) S.o HR.o G.o yb yh (fun _ _ h=>⟨rfl,h⟩) ?_;intro v i9 X9 S HR G;go_wp2_with fail
 refine name_x S.o HR.o G.o (fun _ _ h=>⟨rfl,h⟩) ?_;intro n10 i10 X10 S HR G;have b:=z8 S.o.box 3;have z:=z11 S.o.box 3;simp at b;go_wp2_with fail
 obtain⟨Z11,hZ,hs,S⟩:=put_x S.o 3 (.string n10);try rw[hs]
 rw[hZ];clear hZ hs b z;refine z71 (l1:=gTo) S.o HR.o G.o yb yh (fun _ _ h=>⟨rfl,h⟩) ?_;intro v i12 X12 S HR G;go_wp2_with fail
 refine go_i H.o.1 H.o.2.1 NtR.expr trivial (H.o.2.2.expr _ _ S.o.rd yw) S.o HR.o G.o (fun _ _ h=>⟨rfl,h⟩) ?_;intro t13 i13 T13 p13 X13 S HR G;have b0:=z8 S.o.box 0;have b1:=z8 S.o.box 1;have b2:=z8 S.o.box 2;have b3:=z8 S.o.box 3;have b4:=z8 S.o.box 4;have z:=z11 S.o.box 4;simp at b0 b1 b2 b3 b4;go_wp2_with fail
 have S:=J (S.o.put 4 (.iface T13 p13));go_ret;exact S.o.fin HR.o (S.o.mk3 (.tail _ (.tail _ (.head _))) (.tail _ (.head _)) (.head _) .case)
theorem iexpr_calls (hw:BriefW ws) (ho:WordsOk ws) (hc:PiAll d ws ad cp sz f) (i:Nat) (W:World) (h:RdAt d ws ad cp sz i W) (hm:mi ws 11 i<=f+1) :
 Calls prog 57 #[.pointer (some ⟨d.B,0,none⟩)] W (PostT d ws ad cp sz (ipz ws (f+1) .expr i) W):=by
 obtain⟨R,hR⟩:∃R,ipz ws (f+1) .expr i=R:=⟨_,rfl⟩
 rw[hR];have HR:=J (show exprI ws (ipz ws f) i=R from hR);have S:=J (St.start h);have H:=J (Lc hw (Lc ho hc));have M:=J hm;have G:=J (show i+0<=i from La);clear h hm hR hw ho hc;go_enter func57,ntmps57
 go_wp2_with fail
 by_cases z:seesI ws i kLet=true
 .refine skip_y S.o HR.o G.o yb yh z ?_;intro X1 S HR G;clear z;go_wp2_with fail
  refine go_l (ilet_calls H.o.1 H.o.2.1 H.o.2.2 _ _ S.o.rd yw) S.o HR.o (fun _ _ h=>⟨rfl,h⟩) ?_;intro t2 i2 T2 p2 X2 S HR;go_wp2_with fail
  go_ret;exact S.o.fin HR.o (S.o.same (.head _))
 refine skip_n (l:=kLet) S.o HR.o yb yh yax ?_;intro X1 S HR;clear z;go_wp2_with fail
 by_cases z:seesI ws i kIf=true
 .refine skip_y S.o HR.o G.o yb yh z ?_;intro X3 S HR G;clear z;go_wp2_with fail
  refine go_l (icond_calls H.o.1 H.o.2.1 H.o.2.2 _ _ S.o.rd yw) S.o HR.o (fun _ _ h=>⟨rfl,h⟩) ?_;intro t4 i4 T4 p4 X4 S HR;go_wp2_with fail
  go_ret;exact S.o.fin HR.o (S.o.same (.head _))
 refine skip_n (l:=kIf) S.o HR.o yb yh yax ?_;intro X3 S HR;clear z;go_wp2_with fail
 by_cases z:seesI ws i kFn=true
 .refine skip_y S.o HR.o G.o yb yh z ?_;intro X5 S HR G;clear z;go_wp2_with fail
  refine name_x S.o HR.o G.o (fun _ _ h=>⟨rfl,h⟩) ?_;intro n6 i6 X6 S HR G;go_wp2_with fail
  obtain⟨Y7,g7,hY,hg,hs,S⟩:=open_x S.o #[.string n6,.nilIface] 135;try rw[hs]
  rw[hY,hg];clear hY hg hs;refine z71 (l1:=gTo) S.o HR.o G.o yb yh (fun _ _ h=>⟨rfl,h⟩) ?_;intro v i8 X8 S HR G;go_wp2_with fail
  refine go_i H.o.1 H.o.2.1 NtR.expr trivial (H.o.2.2.expr _ _ S.o.rd yw) S.o HR.o G.o (fun _ _ h=>⟨rfl,h⟩) ?_;intro t9 i9 T9 p9 X9 S HR G;have b0:=z8 S.o.box 0;have b1:=z8 S.o.box 1;have z:=z11 S.o.box 1;simp at b0 b1;go_wp2_with fail
  have S:=J (S.o.put 1 (.iface T9 p9));go_ret;exact S.o.fin HR.o (S.o.mk1 (.head _) .fn)
 refine skip_n (l:=kFn) S.o HR.o yb yh yax ?_;intro X5 S HR;clear z;go_wp2_with fail
 by_cases z:seesI ws i kCase=true
 .refine skip_y S.o HR.o G.o yb yh z ?_;intro X10 S HR G;clear z;go_wp2_with fail
  refine go_l (icase_calls H.o.1 H.o.2.1 H.o.2.2 _ _ S.o.rd yw) S.o HR.o (fun _ _ h=>⟨rfl,h⟩) ?_;intro t11 i11 T11 p11 X11 S HR;go_wp2_with fail
  go_ret;exact S.o.fin HR.o (S.o.same (.head _))
 refine skip_n (l:=kCase) S.o HR.o yb yh yax ?_;intro X10 S HR;clear z;go_wp2_with fail
 refine go_l (H.o.2.2.cons _ _ S.o.rd yw) S.o HR.o (fun _ _ h=>⟨rfl,h⟩) ?_;intro t12 i12 T12 p12 X12 S HR;go_wp2_with fail
 go_ret;exact S.o.fin HR.o (S.o.same (.head _))
theorem icons_calls (hw:BriefW ws) (ho:WordsOk ws) (hc:PiAll d ws ad cp sz f) (i:Nat) (W:World) (h:RdAt d ws ad cp sz i W) (hm:mi ws 10 i<=f+1) :
 Calls prog 102 #[.pointer (some ⟨d.B,0,none⟩)] W (PostT d ws ad cp sz (ipz ws (f+1) .cons i) W):=by
 obtain⟨R,hR⟩:∃R,ipz ws (f+1) .cons i=R:=⟨_,rfl⟩
 rw[hR];have HR:=J (show consI ws (ipz ws f) i=R from hR);have S:=J (St.start h);have H:=J (Lc hw (Lc ho hc));have M:=J hm;have G:=J (show i+0<=i from La);clear h hm hR hw ho hc;go_enter func102,ntmps102
 go_wp2_with fail
 refine go_i H.o.1 H.o.2.1 NtR.comp trivial (H.o.2.2.comp _ _ S.o.rd yw) S.o HR.o G.o (fun _ _ h=>⟨rfl,h⟩) ?_;intro t1 i1 T1 p1 X1 S HR G;go_wp2_with fail
 by_cases z:seesI ws i1 gCons=true
 .refine skip_y S.o HR.o G.o yb yh z ?_;intro X2 S HR G;clear z;go_wp2_with fail
  refine go_i H.o.1 H.o.2.1 NtR.cons trivial (H.o.2.2.cons _ _ S.o.rd yw) S.o HR.o G.o (fun _ _ h=>⟨rfl,h⟩) ?_;intro t3 i3 T3 p3 X3 S HR G;go_wp2_with fail
  go_ret;exact S.o.fin HR.o (S.o.mk2 (.tail _ (.head _)) (.head _) .cons)
 refine skip_n (l:=gCons) S.o HR.o yb yh yax ?_;intro X2 S HR;clear z;go_wp2_with fail
 go_ret;exact S.o.fin HR.o (S.o.same (.head _))
end
theorem sign_text (k:Int) (t:ByteArray) (h:(k=14/\t=⟨#[61]⟩)\/(k=15/\t=⟨#[60]⟩)) (W:World):Calls prog 136 #[.int .i64 k] W fun e W'=> e=.returned (.string t)/\W'= W:=by
 rcases h with ⟨rfl,rfl⟩|⟨rfl,rfl⟩
 all_goals
  go_enter func136,ntmps136
  go_wp2_with fail
  go_ret;exact⟨rfl,rfl⟩
section
variable {d:Dr}{ws:List Wd}{ad:Option Addr}{cp sz:Nat}
theorem icomp_calls (hw:BriefW ws) (ho:WordsOk ws) (hc:PiAll d ws ad cp sz f) (i:Nat) (W:World) (h:RdAt d ws ad cp sz i W) (hm:mi ws 9 i<=f+1) :
 Calls prog 124 #[.pointer (some ⟨d.B,0,none⟩)] W (PostT d ws ad cp sz (ipz ws (f+1) .comp i) W):=by
 obtain⟨R,hR⟩:∃R,ipz ws (f+1) .comp i=R:=⟨_,rfl⟩
 rw[hR];have HR:=J (show compI ws (ipz ws f) i=R from hR);have S:=J (St.start h);have H:=J (Lc hw (Lc ho hc));have M:=J hm;have G:=J (show i+0<=i from La);clear h hm hR hw ho hc;go_enter func124,ntmps124
 go_wp2_with fail
 refine go_i H.o.1 H.o.2.1 NtR.sum trivial (H.o.2.2.sum _ _ S.o.rd yw) S.o HR.o G.o (fun _ _ h=>⟨rfl,h⟩) ?_;intro t1 i1 T1 p1 X1 S HR G;go_wp2_with fail
 refine wp_loop_rounds 3 ?_;rw[rounds_succ];go_wp2_with fail
 refine(sign_text 14 ⟨#[61]⟩ yn _).mono ?_;rintro e Y ⟨rfl,rfl⟩;go_wp2_with fail
 by_cases z:seesI ws i1 gEq=true
 .refine skip_y S.o HR.o G.o yb yh z ?_;intro X2 S HR G;clear z;go_wp2_with fail
  refine go_i H.o.1 H.o.2.1 NtR.sum trivial (H.o.2.2.sum _ _ S.o.rd yw) S.o HR.o G.o (fun _ _ h=>⟨rfl,h⟩) ?_;intro t3 i3 T3 p3 X3 S HR G;go_wp2_with fail
  go_ret;exact S.o.fin HR.o (S.o.mk2 (.tail _ (.head _)) (.head _) (.sign (k:=14) yn))
 refine skip_n (l:=gEq) S.o HR.o yb yh yax ?_;intro X2 S HR;clear z;go_wp2_with fail
 rw[rounds_succ];go_wp2_with fail
 refine(sign_text 15 ⟨#[60]⟩ yn _).mono ?_;rintro e Y ⟨rfl,rfl⟩;go_wp2_with fail
 by_cases z:seesI ws i1 gLt=true
 .refine skip_y S.o HR.o G.o yb yh z ?_;intro X4 S HR G;clear z;go_wp2_with fail
  refine go_i H.o.1 H.o.2.1 NtR.sum trivial (H.o.2.2.sum _ _ S.o.rd yw) S.o HR.o G.o (fun _ _ h=>⟨rfl,h⟩) ?_;intro t5 i5 T5 p5 X5 S HR G;go_wp2_with fail
  go_ret;exact S.o.fin HR.o (S.o.mk2 (.tail _ (.head _)) (.head _) (.sign (k:=15) yn))
 refine skip_n (l:=gLt) S.o HR.o yb yh yax ?_;intro X4 S HR;clear z;go_wp2_with fail
 rw[rounds_succ];go_wp2_with fail
 go_ret;exact S.o.fin HR.o (S.o.same (.head _))
theorem rd_pos {i:Nat}{W:World}(h:RdAt d ws ad cp sz i W):posOf d W=i:=by
 have q:=z8 h.blk 1;simp at q;unfold posOf;rw[q];simp[intOf]
def LoopR (d:Dr) (ws:List Wd) (ad:Option Addr) (cp sz f:Nat) (nt:Tr->Nt Tr) (lv:Nat) (R:Except Nat (Tr×Nat)) (W:World) (v:Value) (wr:World):Prop:=
 ∃(t:Tr) (T:TypeId) (p:Value) (g k:Nat),v=.iface T p/\St d ws ad cp sz W [] [⟨W.heap.size,wr.heap.size,t,.iface T p⟩] k wr/\ipz ws g (nt t) k=R/\mi ws lv k<=g/\g<=f
theorem iprod_calls (hw:BriefW ws) (ho:WordsOk ws) (ha:∀g,g<=f->PiAll d ws ad cp sz g) (i:Nat) (W:World) (h:RdAt d ws ad cp sz i W) (hm:mi ws 6 i<=f+1) :
 Calls prog 142 #[.pointer (some ⟨d.B,0,none⟩)] W (PostT d ws ad cp sz (ipz ws (f+1) .prod i) W):=by
 obtain⟨R,hR⟩:∃R,ipz ws (f+1) .prod i=R:=⟨_,rfl⟩
 rw[hR];have HR:=J (show prodI (ipz ws f) i=R from hR);refine zb34 ?_;intro S H M G HA;clear h hm hR hw ho ha;go_enter func142,ntmps142
 go_wp2_with fail
 refine go_i H.o.1 H.o.2.1 NtR.call trivial (H.o.2.2.call _ _ S.o.rd yw) S.o HR.o G.o (fun _ _ h=>⟨rfl,h⟩) ?_;intro t1 i1 T1 p1 X1 S HR G;go_wp2_with fail
 have S:=J (S.o.fold (S.o.same (.head _)));go_loopw [3] (fun v wr=>I (LoopR d ws ad cp sz f Nt.prodL 5 R W v wr)) (fun _ wr=>ws.length-posOf d wr)
 case atStart=>exact J ⟨t1,T1,p1,f,i1,rfl,S.o,HR.o,yw,La⟩
 case round=>
  obtain⟨t,T,p,g,k,rfl,hS,hF,hm,hg⟩:=hrel.o;clear hrel;obtain⟨g,rfl⟩:∃x,g=x+1:=⟨g-1,yay⟩
  have S:=J hS;have HR:=J (show prodLI ws (ipz ws g) t k=R from hF);refine zb33 ?_;intro M HG HP H G;clear hS hF hm hg;go_wp2_with fail
  by_cases z:seesI ws k gStar=true
  .refine skip_y S.o HR.o G.o yb yh z ?_;intro X2 S HR G;clear z;go_wp2_with fail
   refine go_i H.o.1 H.o.2.1 NtR.call trivial (H.o.2.2.call _ _ S.o.rd yw) S.o HR.o G.o (fun _ _ h=>⟨rfl,h⟩) ?_;intro t3 i3 T3 p3 X3 S HR G;go_wp2_with fail
   have S:=J (S.o.fold (S.o.mk2 (.tail _ (.head _)) (.head _) (n:=nd0 13) (v:=.iface 183 (.agg #[.int .i64 13,.iface T p,.iface T3 p3])) (.sign (k:=13) yn)));exact⟨J ⟨_,_,_,g,i3,rfl,S.o,HR.o,yw,gc⟩,by
    rw[HP.o,rd_pos S.o.rd];have h1:=G.o;have h2:=S.o.rd.lt;omega⟩
  refine skip_n (l:=gStar) S.o HR.o yb yh yax ?_;intro X2 S HR;clear z;go_wp2_with fail
  go_ret;exact S.o.fin HR.o (S.o.same (.head _))
theorem isum_calls (hw:BriefW ws) (ho:WordsOk ws) (ha:∀g,g<=f->PiAll d ws ad cp sz g) (i:Nat) (W:World) (h:RdAt d ws ad cp sz i W) (hm:mi ws 8 i<=f+1) :
 Calls prog 135 #[.pointer (some ⟨d.B,0,none⟩)] W (PostT d ws ad cp sz (ipz ws (f+1) .sum i) W):=by
 obtain⟨R,hR⟩:∃R,ipz ws (f+1) .sum i=R:=⟨_,rfl⟩
 rw[hR];have HR:=J (show sumI (ipz ws f) i=R from hR);refine zb34 ?_;intro S H M G HA;clear h hm hR hw ho ha;go_enter func135,ntmps135
 go_wp2_with fail
 refine go_i H.o.1 H.o.2.1 NtR.prod trivial (H.o.2.2.prod _ _ S.o.rd yw) S.o HR.o G.o (fun _ _ h=>⟨rfl,h⟩) ?_;intro t1 i1 T1 p1 X1 S HR G;go_wp2_with fail
 have S:=J (S.o.fold (S.o.same (.head _)));go_loopw [3] (fun v wr=>I (LoopR d ws ad cp sz f Nt.sumL 7 R W v wr)) (fun _ wr=>ws.length-posOf d wr)
 case atStart=>exact J ⟨t1,T1,p1,f,i1,rfl,S.o,HR.o,yw,La⟩
 case round=>
  obtain⟨t,T,p,g,k,rfl,hS,hF,hm,hg⟩:=hrel.o;clear hrel;obtain⟨g,rfl⟩:∃x,g=x+1:=⟨g-1,yay⟩
  have S:=J hS;have HR:=J (show sumLI ws (ipz ws g) t k=R from hF);refine zb33 ?_;intro M HG HP H G;clear hS hF hm hg;go_wp2_with fail
  by_cases z:seesI ws k gPlus=true
  .refine skip_y S.o HR.o G.o yb yh z ?_;intro X2 S HR G;clear z;go_wp2_with fail
   refine go_i H.o.1 H.o.2.1 NtR.prod trivial (H.o.2.2.prod _ _ S.o.rd yw) S.o HR.o G.o (fun _ _ h=>⟨rfl,h⟩) ?_;intro t3 i3 T3 p3 X3 S HR G;go_wp2_with fail
   have S:=J (S.o.fold (S.o.mk2 (.tail _ (.head _)) (.head _) (n:=nd0 11) (v:=.iface 183 (.agg #[.int .i64 11,.iface T p,.iface T3 p3])) (.sign (k:=11) yn)));exact⟨J ⟨_,_,_,g,i3,rfl,S.o,HR.o,yw,gc⟩,by
    rw[HP.o,rd_pos S.o.rd];have h1:=G.o;have h2:=S.o.rd.lt;omega⟩
  refine skip_n (l:=gPlus) S.o HR.o yb yh yax ?_;intro X2 S HR;clear z;go_wp2_with fail
  by_cases z:seesI ws k gMinus=true
  .refine skip_y S.o HR.o G.o yb yh z ?_;intro X4 S HR G;clear z;go_wp2_with fail
   refine go_i H.o.1 H.o.2.1 NtR.prod trivial (H.o.2.2.prod _ _ S.o.rd yw) S.o HR.o G.o (fun _ _ h=>⟨rfl,h⟩) ?_;intro t5 i5 T5 p5 X5 S HR G;go_wp2_with fail
   have S:=J (S.o.fold (S.o.mk2 (.tail _ (.head _)) (.head _) (n:=nd0 12) (v:=.iface 183 (.agg #[.int .i64 12,.iface T p,.iface T5 p5])) (.sign (k:=12) yn)));exact⟨J ⟨_,_,_,g,i5,rfl,S.o,HR.o,yw,gc⟩,by
    rw[HP.o,rd_pos S.o.rd];have h1:=G.o;have h2:=S.o.rd.lt;omega⟩
  refine skip_n (l:=gMinus) S.o HR.o yb yh yax ?_;intro X4 S HR;clear z;go_wp2_with fail
  go_ret;exact S.o.fin HR.o (S.o.same (.head _))
end
end
end Go.Proofs.YtfbojelpdccjaaaGreatDoor
