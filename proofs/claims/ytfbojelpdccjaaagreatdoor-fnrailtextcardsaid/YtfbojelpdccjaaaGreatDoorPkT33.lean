import Derived.Test.YtfbojelpdccjaaaGreatDoorPkT32
open Go.Proofs.Tryz
set_option maxHeartbeats 8000000
set_option maxRecDepth 100000
namespace Go.Proofs.YtfbojelpdccjaaaGreatDoor
open Go.RowKit Go.Deep
variable {x:ByteArray}{es:List Ef}{f i j k:Nat}{n:Nd}{a t:Tr}{v:Value}
section
open Go.RowKit Go.Deep
theorem cl_t {ws:List Wd}{go:Nt Tr->PI Tr}{R:Except Nat (Tr×Nat)}(h:callLI ws go a k=R) (hs:startsI ws k=true):bindI (go .atom) (fun b=>go (.callL (mkT (nd0 7) [a,b]))) k=R:=by
 unfold callLI at h;rw[if_pos hs]at h;exact h
theorem cl_f {ws:List Wd}{go:Nt Tr->PI Tr}{R:Except Nat (Tr×Nat)}(h:callLI ws go a k=R) (hs:startsI ws k=false):Except.ok (a,k)=R:=by
 unfold callLI at h;rw[hs]at h;exact h
section
variable {d:Dr}{ws:List Wd}{ad:Option Addr}{cp sz:Nat}
theorem ihead_calls (hw:BriefW ws) (ho:WordsOk ws) (hc:PiAll d ws ad cp sz f) (i:Nat) (W:World) (h:RdAt d ws ad cp sz i W) (hm:mi ws 3 i<=f) :
 Calls prog 149 #[.pointer (some ⟨d.B,0,none⟩)] W (PostT d ws ad cp sz (headI ws (ipz ws f) i) W):=by
 obtain⟨R,hR⟩:∃R,headI ws (ipz ws f) i=R:=⟨_,rfl⟩
 refine zb20 ?_;intro HR S H M G;clear h hm hR hw ho hc;go_enter func149,ntmps149
 go_wp2_with fail
 by_cases z:seesI ws i kFst=true
 .refine skip_y S.o HR.o G.o yb yh z ?_;intro X1 S HR G;clear z;go_wp2_with fail
  refine go_i H.o.1 H.o.2.1 NtR.atom trivial (H.o.2.2.atom _ _ S.o.rd yw) S.o HR.o G.o (fun _ _ h=>⟨rfl,h⟩) ?_;intro t2 i2 T2 p2 X2 S HR G;go_wp2_with fail
  go_ret;exact S.o.fin HR.o (S.o.mk1 (.head _) (.take (k:=17) yn))
 refine skip_n (l:=kFst) S.o HR.o yb yh yax ?_;intro X1 S HR;clear z;go_wp2_with fail
 by_cases z:seesI ws i kSnd=true
 .refine skip_y S.o HR.o G.o yb yh z ?_;intro X3 S HR G;clear z;go_wp2_with fail
  refine go_i H.o.1 H.o.2.1 NtR.atom trivial (H.o.2.2.atom _ _ S.o.rd yw) S.o HR.o G.o (fun _ _ h=>⟨rfl,h⟩) ?_;intro t4 i4 T4 p4 X4 S HR G;go_wp2_with fail
  go_ret;exact S.o.fin HR.o (S.o.mk1 (.head _) (.take (k:=18) yn))
 refine skip_n (l:=kSnd) S.o HR.o yb yh yax ?_;intro X3 S HR;clear z;go_wp2_with fail
 by_cases z:seesI ws i kPrint=true
 .refine skip_y S.o HR.o G.o yb yh z ?_;intro X5 S HR G;clear z;go_wp2_with fail
  refine go_i H.o.1 H.o.2.1 NtR.atom trivial (H.o.2.2.atom _ _ S.o.rd yw) S.o HR.o G.o (fun _ _ h=>⟨rfl,h⟩) ?_;intro t6 i6 T6 p6 X6 S HR G;go_wp2_with fail
  go_ret;exact S.o.fin HR.o (S.o.mk1 (.head _) (.take (k:=21) yn))
 refine skip_n (l:=kPrint) S.o HR.o yb yh yax ?_;intro X5 S HR;clear z;go_wp2_with fail
 by_cases z:seesI ws i kDo=true
 .refine skip_y S.o HR.o G.o yb yh z ?_;intro X7 S HR G;clear z;go_wp2_with fail
  refine name_x S.o HR.o G.o (fun _ _ h=>⟨rfl,h⟩) ?_;intro n8 i8 X8 S HR G;go_wp2_with fail
  obtain⟨Y9,g9,hY,hg,hs,S⟩:=open_x S.o #[.string n8,.nilIface] 176;try rw[hs]
  rw[hY,hg];clear hY hg hs;refine go_i H.o.1 H.o.2.1 NtR.atom trivial (H.o.2.2.atom _ _ S.o.rd yw) S.o HR.o G.o (fun _ _ h=>⟨rfl,h⟩) ?_;intro t10 i10 T10 p10 X10 S HR G;have b0:=z8 S.o.box 0;have b1:=z8 S.o.box 1;have z:=z11 S.o.box 1;simp at b0 b1;go_wp2_with fail
  have S:=J (S.o.put 1 (.iface T10 p10));go_ret;exact S.o.fin HR.o (S.o.mk1 (.head _) .perform)
 refine skip_n (l:=kDo) S.o HR.o yb yh yax ?_;intro X7 S HR;clear z;go_wp2_with fail
 refine go_l (H.o.2.2.atom _ _ S.o.rd yw) S.o HR.o (fun _ _ h=>⟨rfl,h⟩) ?_;intro t11 i11 T11 p11 X11 S HR;go_wp2_with fail
 go_ret;exact S.o.fin HR.o (S.o.same (.head _))
theorem head_goes (hw:BriefW ws) (ho:WordsOk ws) (hi:i<=ws.length) (h:headI ws (ipz ws f) i=.ok (t,k)):i<=k:=by
 have hat:∀ {j k:Nat} {t:Tr},j<=ws.length->ipz ws f .atom j=.ok (t,k)->j<=k:=fun hj hq=>(ip_goes hw ho f NtR.atom trivial hj hq).1
 have hone:∀ {n:Nd} {j k:Nat} {t:Tr},j<=ws.length->bindI (ipz ws f .atom) (fun a=>pureI (mkT n [a])) j=.ok (t,k)->j<=k:=fun {n j k t} hj hq=>by
  cases h1:ipz ws f .atom j with
  |error e=>exact absurd (bi_er hq h1) yn
  | ok r=>
    obtain⟨a,b⟩:=r;have h2:=bi_ok hq h1;have h3:=hat hj h1;simp only[pureI,Except.ok.injEq,Prod.mk.injEq]at h2;omega
 have hs:∀l,seesI ws i l=true->i+1<=ws.length:=fun l hz=>yaw
 unfold headI orI at h;repeat' split at h
 .have:=hone (hs _ zo) h;omega
 .have:=hone (hs _ zo) h;omega
 .have:=hone (hs _ zo) h;omega
 .cases h1:nameI ws (i+1) with
  |error e=>exact absurd (bi_er h h1) yn
  | ok r=>
    obtain⟨a,b⟩:=r;have h2:=bi_ok h h1;have h3:=name_on h1;have h4:b<=ws.length:=by
     unfold nameI at h1;split at h1
     .rename_i hc;have:=hc.1;omega
     .cases h1
    have:=hone h4 h2;omega
 .exact hat hi h
theorem icall_calls (hw:BriefW ws) (ho:WordsOk ws) (ha:∀g,g<=f->PiAll d ws ad cp sz g) (i:Nat) (W:World) (h:RdAt d ws ad cp sz i W) (hm:mi ws 4 i<=f+1) :
 Calls prog 145 #[.pointer (some ⟨d.B,0,none⟩)] W (PostT d ws ad cp sz (ipz ws (f+1) .call i) W):=by
 obtain⟨R,hR⟩:∃R,ipz ws (f+1) .call i=R:=⟨_,rfl⟩
 rw[hR];have HR:=J (show callI ws (ipz ws f) i=R from hR);refine zb34 ?_;intro S H M G HA;clear h hm hR hw ho ha;go_enter func145,ntmps145
 go_wp2_with fail
 refine(ihead_calls H.o.1 H.o.2.1 H.o.2.2 _ _ S.o.rd yw).mono ?_;intro e X1 hp;rcases post_x hp with ⟨j,hq,rfl,hg⟩|⟨t1,i1,hq,⟨T1,p1,rfl,hf⟩,hr,hg⟩
 .exact⟨rfl,S.o.err (bi_er HR.o hq) hg⟩
 have HGo:=J (show i<=i1 from head_goes H.o.1 H.o.2.1 S.o.rd.lt hq);have S:=J (S.o.form hr hg hf);have HR:=J (bi_ok HR.o hq);clear hp hq hf hr hg;go_wp2_with fail
 have G:=J (show i+0<=i1 from HGo.o);have S:=J (S.o.fold (S.o.same (.head _)));go_loopw [3] (fun v wr=>I (LoopR d ws ad cp sz f Nt.callL 3 R W v wr)) (fun _ wr=>ws.length-posOf d wr)
 case atStart=>exact J ⟨t1,T1,p1,f,i1,rfl,S.o,HR.o,yw,La⟩
 case round=>
  obtain⟨t,T,p,g,k,rfl,hS,hF,hm,hg⟩:=hrel.o;clear hrel;obtain⟨g,rfl⟩:∃x,g=x+1:=⟨g-1,yay⟩
  have S:=J hS;have HR:=J (show callLI ws (ipz ws g) t k=R from hF);refine zb33 ?_;intro M HG HP H G;clear hS hF hm hg;go_wp2_with fail
  refine(isees_atom _ _ S.o.rd).mono ?_;rintro e Xs ⟨rfl,hb⟩;have S:=J (S.o.below hb);clear hb;by_cases z:startsI ws k=true
  .rw[z];have HR:=J (cl_t HR.o z);clear z;go_wp2_with fail
   refine(H.o.2.2.atom _ _ S.o.rd yw).mono ?_;intro e X2 hp;rcases post_x hp with ⟨j,hq,rfl,hg⟩|⟨t2,i2,hq,⟨T2,p2,rfl,hf⟩,hr,hg⟩
   .exact⟨rfl,S.o.err (bi_er HR.o hq) hg⟩
   have G:=J (show k+1<=i2 from ip_atom H.o.1 H.o.2.1 g S.o.rd.lt hq);have S:=J (S.o.form hr hg hf);have HR:=J (bi_ok HR.o hq);clear hp hq hf hr hg;go_wp2_with fail
   have S:=J (S.o.fold (S.o.mk2 (.tail _ (.head _)) (.head _) (n:=nd0 7) (v:=.iface 160 (.agg #[.iface T p,.iface T2 p2])) .app));exact⟨J ⟨_,_,_,g,i2,rfl,S.o,HR.o,yw,gc⟩,by
    rw[HP.o,rd_pos S.o.rd];have h1:=G.o;have h2:=S.o.rd.lt;omega⟩
  have z2:startsI ws k=false:=yax;rw[z2];have HR:=J (cl_f HR.o z2);clear z z2;go_wp2_with fail
  go_ret;exact S.o.fin HR.o (S.o.same (.head _))
end
section
variable {d:Dr}{ws:List Wd}{ad:Option Addr}{cp sz:Nat}
theorem pi_all (hw:BriefW ws) (ho:WordsOk ws) (hnum:NumW ws) (hne:∀w∈ws,w.kind=1->w.text.toList≠ []):∀f g,g<=f->PiAll d ws ad cp sz g
 | 0,g,hg=>by
   have e:g=0:=yf;subst e;exact⟨fun i W _ h=>absurd h ybf,fun i W _ h=>absurd h ybf,fun i W _ h=>absurd h ybf,fun i W _ h=>absurd h ybf,fun i W _ h=>absurd h ybf,fun i W _ h=>absurd h ybf,fun i W _ h=>absurd h ybf,fun k i W _ h=>absurd h ybf⟩
 | f+1,g,hg=>by
   have ih:=pi_all hw ho hnum hne f;by_cases h:g<=f
   .exact ih g h
   .have e:g=f+1:=by omega
    subst e;have hc:=ih f La;exact⟨fun i W hr hm=>iexpr_calls hw ho hc i W hr hm,fun i W hr hm=>icons_calls hw ho hc i W hr hm,fun i W hr hm=>icomp_calls hw ho hc i W hr hm,fun i W hr hm=>isum_calls hw ho ih i W hr hm,fun i W hr hm=>iprod_calls hw ho ih i W hr hm,fun i W hr hm=>icall_calls hw ho ih i W hr hm,fun i W hr hm=>iatom_calls hw ho hc i W hr hm hnum hne,fun k i W hr hm hk=>ihand_calls hw ho ih i W hr hm k hk⟩
theorem iwhole_calls (hw:BriefW ws) (ho:WordsOk ws) (hnum:NumW ws) (hne:∀w∈ws,w.kind=1->w.text.toList≠ []) (i:Nat) (W:World) (h:RdAt d ws ad cp sz i W) :
 Calls prog 57 #[.pointer (some ⟨d.B,0,none⟩)] W (PostT d ws ad cp sz (ipz ws (16*ws.length+11) .expr i) W):=
 (pi_all hw ho hnum hne (16*ws.length+11) _ La).expr i W h ybf
end
theorem base_text (k:Int) (t:ByteArray) (h:(k=1/\t=⟨#[105,110,116]⟩)\/(k=2/\t=⟨#[98,111,111,108]⟩)\/(k=3/\t=⟨#[117,110,105,116]⟩)\/(k=4/\t=⟨#[108,105,115,116]⟩)) (W:World):Calls prog 18 #[.int .i64 k] W fun e W'=> e=.returned (.string t)/\W'= W:=by
 rcases h with ⟨rfl,rfl⟩|⟨rfl,rfl⟩|⟨rfl,rfl⟩|⟨rfl,rfl⟩
 all_goals
  go_enter func18,ntmps18
  go_wp2_with fail
  go_ret;exact⟨rfl,rfl⟩
section
variable {d:Dr}{ws:List Wd}{ad:Option Addr}{cp sz:Nat}
theorem ibase_calls (i:Nat) (W:World) (h:RdAt d ws ad cp sz i W) :
 Calls prog 97 #[.pointer (some ⟨d.B,0,none⟩)] W (PostN' d ws ad cp sz (baseI ws i) W):=by
 obtain⟨R,hR⟩:∃R,baseI ws i=R:=⟨_,rfl⟩
 rw[hR];have HR:=J hR;have S:=J (St.start h);have G:=J (show i+0<=i from La);clear h hR;go_enter func97,ntmps97
 go_wp2_with fail
 refine wp_loop_rounds 5 ?_;rw[rounds_succ];go_wp2_with fail
 refine(base_text 1 ⟨#[105,110,116]⟩ yn _).mono ?_;rintro e Y ⟨rfl,rfl⟩;go_wp2_with fail
 by_cases z:seesI ws i kInt=true
 .refine skip_y S.o HR.o G.o yb yh z ?_;intro X1 S HR G;clear z;go_wp2_with fail
  go_ret;rw[<-HR.o];exact⟨rfl,S.o.rd,S.o.gr⟩
 refine skip_n (l:=kInt) S.o HR.o yb yh yax ?_;intro X1 S HR;clear z;go_wp2_with fail
 rw[rounds_succ];go_wp2_with fail
 refine(base_text 2 ⟨#[98,111,111,108]⟩ yn _).mono ?_;rintro e Y ⟨rfl,rfl⟩;go_wp2_with fail
 by_cases z:seesI ws i kBool=true
 .refine skip_y S.o HR.o G.o yb yh z ?_;intro X2 S HR G;clear z;go_wp2_with fail
  go_ret;rw[<-HR.o];exact⟨rfl,S.o.rd,S.o.gr⟩
 refine skip_n (l:=kBool) S.o HR.o yb yh yax ?_;intro X2 S HR;clear z;go_wp2_with fail
 rw[rounds_succ];go_wp2_with fail
 refine(base_text 3 ⟨#[117,110,105,116]⟩ yn _).mono ?_;rintro e Y ⟨rfl,rfl⟩;go_wp2_with fail
 by_cases z:seesI ws i kUnit=true
 .refine skip_y S.o HR.o G.o yb yh z ?_;intro X3 S HR G;clear z;go_wp2_with fail
  go_ret;rw[<-HR.o];exact⟨rfl,S.o.rd,S.o.gr⟩
 refine skip_n (l:=kUnit) S.o HR.o yb yh yax ?_;intro X3 S HR;clear z;go_wp2_with fail
 rw[rounds_succ];go_wp2_with fail
 refine(base_text 4 ⟨#[108,105,115,116]⟩ yn _).mono ?_;rintro e Y ⟨rfl,rfl⟩;go_wp2_with fail
 by_cases z:seesI ws i kList=true
 .refine skip_y S.o HR.o G.o yb yh z ?_;intro X4 S HR G;clear z;go_wp2_with fail
  go_ret;rw[<-HR.o];exact⟨rfl,S.o.rd,S.o.gr⟩
 refine skip_n (l:=kList) S.o HR.o yb yh yax ?_;intro X4 S HR;clear z;go_wp2_with fail
 rw[rounds_succ];go_wp2_with fail
 refine(misfit_calls _ _ S.o.rd).mono ?_;rintro e Y ⟨rfl,hb⟩;go_wp2_with fail
 exact⟨rfl,S.o.err HR.o (Grew.of_below hb)⟩
def effI' (ws:List Wd):PI Ef:=bindI (takeI ws kEffect) fun _=>bindI (nameI ws) fun x=>bindI (takeI ws gColon) fun _=>bindI (baseI ws) fun a=>bindI (takeI ws gGives) fun _=>bindI (baseI ws) fun r=>bindI (takeI ws gSemi) fun _=>pureI ⟨x,a,r⟩
def QE (x:Ef) (e:Ending) (_:World):Prop:=e=.returned (.agg #[.string x.name,.int .i64 x.arg,.int .i64 x.res])
theorem ibase_on {n:Int}(h:baseI ws i=.ok (n,k)):i+1<=k:=by
 unfold baseI orI pureI badI at h;repeat' split at h
 all_goals first
  |(simp at h;omega)
  |(cases h)
theorem ieff_calls (i:Nat) (W:World) (h:RdAt d ws ad cp sz i W) :
 Calls prog 56 #[.pointer (some ⟨d.B,0,none⟩)] W (PostX d ws ad cp sz QE (effI' ws i) W):=by
 obtain⟨R,hR⟩:∃R,effI' ws i=R:=⟨_,rfl⟩
 rw[hR];have HR:=J hR;have S:=J (St.start h);have G:=J (show i+0<=i from La);clear h hR;go_enter func56,ntmps56
 go_wp2_with fail
 obtain⟨Y1,g1,hY,hg,hs,S⟩:=open_x S.o #[.string ⟨#[]⟩,.int .i64 0,.int .i64 0] 45;try rw[hs]
 rw[hY,hg];clear hY hg hs;obtain⟨Y2,g2,hY,hg,hs,S⟩:=open_x S.o #[.string ⟨#[]⟩,.int .i64 0,.int .i64 0] 45;try rw[hs]
 rw[hY,hg];clear hY hg hs;refine z71 (l1:=kEffect) S.o HR.o G.o yb yh (fun _ _ h=>⟨rfl,h⟩) ?_;intro v i3 X3 S HR G;go_wp2_with fail
 refine name_x S.o HR.o G.o (fun _ _ h=>⟨rfl,h⟩) ?_;intro n4 i4 X4 S HR G;have b:=z8 S.o.box 0;have z:=z11 S.o.box 0;simp at b;go_wp2_with fail
 obtain⟨Z5,hZ,hs,S⟩:=put_x S.o 0 (.string n4);try rw[hs]
 rw[hZ];clear hZ hs b z;refine z71 (l1:=gColon) S.o HR.o G.o yb yh (fun _ _ h=>⟨rfl,h⟩) ?_;intro v i6 X6 S HR G;go_wp2_with fail
 refine(ibase_calls _ _ S.o.rd).mono ?_;intro e X7 hp;rcases post_x hp with ⟨j,hq,rfl,hg⟩|⟨n7,i7,hq,rfl,hr,hg⟩
 .exact⟨rfl,S.o.err (bi_er HR.o hq) hg⟩
 have G:=J (show i+4<=i7 by have h1:=G.o;have h2:=ibase_on hq;omega);have S:=J (S.o.go hr hg);have HR:=J (bi_ok HR.o hq);clear hp hq hr hg;have b:=z8 S.o.box 1;have z:=z11 S.o.box 1;simp at b;go_wp2_with fail
 obtain⟨Z8,hZ,hs,S⟩:=put_x S.o 1 (.int .i64 n7);try rw[hs]
 rw[hZ];clear hZ hs b z;refine z71 (l1:=gGives) S.o HR.o G.o yb yh (fun _ _ h=>⟨rfl,h⟩) ?_;intro v i9 X9 S HR G;go_wp2_with fail
 refine(ibase_calls _ _ S.o.rd).mono ?_;intro e X10 hp;rcases post_x hp with ⟨j,hq,rfl,hg⟩|⟨n10,i10,hq,rfl,hr,hg⟩
 .exact⟨rfl,S.o.err (bi_er HR.o hq) hg⟩
 have G:=J (show i+6<=i10 by have h1:=G.o;have h2:=ibase_on hq;omega);have S:=J (S.o.go hr hg);have HR:=J (bi_ok HR.o hq);clear hp hq hr hg;have b:=z8 S.o.box 2;have z:=z11 S.o.box 2;simp at b;go_wp2_with fail
 obtain⟨Z11,hZ,hs,S⟩:=put_x S.o 2 (.int .i64 n10);try rw[hs]
 rw[hZ];clear hZ hs b z;refine z71 (l1:=gSemi) S.o HR.o G.o yb yh (fun _ _ h=>⟨rfl,h⟩) ?_;intro v i12 X12 S HR G;have b0:=z8 S.o.box 0;have c0:=z8 S.o.drop.box 0;have z0:=z11 S.o.drop.box 0;have b1:=z8 S.o.box 1;have c1:=z8 S.o.drop.box 1;have z1:=z11 S.o.drop.box 1;have b2:=z8 S.o.box 2;have c2:=z8 S.o.drop.box 2;have z2:=z11 S.o.drop.box 2;simp at b0 b1 b2 c0 c1 c2;go_wp2_with fail
 have S:=((S.o.drop.put 0 (.string n4)).put 1 (.int .i64 n7)).put 2 (.int .i64 n10);obtain⟨k0,k1,k2⟩:=fcl3 S.box;refine bodyPost_ret (v:=.agg #[.string n4,.int .i64 n7,.int .i64 n10]) (by simp[results,results56,go_sem,k0,k1,k2]) rfl ?_;rw[<-HR.o];exact⟨rfl,S.rd,S.gr⟩
end
theorem fault_is (a b:Value) (w:World):(Instr.typeAssert (.iface 31 (.agg #[a,b])) 20 31 false).run prog w=.ok (.agg #[a,b]) w:=yb
theorem catch_fault (g:Nat) (a b:Int) (x y:Value) (w:World) (hb:w.heap[g]?=some (.cells #[x,y] 31)) :
 CallsD prog 54 #[.pointer (some ⟨g,0,none⟩)] (.panicking [{ v:=.iface 31 (.agg #[.int .i64 a,.int .i64 b]),recovered:=false }]) w fun e u' w'=>
  e=.returned (.tuple #[])/\u'=.panicking [{ v:=.iface 31 (.agg #[.int .i64 a,.int .i64 b]),recovered:=true }]/\w'= (w.setCell ⟨g,0,none⟩ (.int .i64 a)).setCell ⟨g,1,none⟩ (.int .i64 b):=by
 have c0:=z8 hb 0;have c1:=z8 hb 1;obtain⟨z0,z1⟩:=ffz2 hb;have hf:=fault_is (.int .i64 a) (.int .i64 b);simp at c0 c1;refine callsD_of_wpS func54 rfl fun c₀ cs hu=>?_
 apply wpS_seq;apply wpS_region;simp[wpOpsS,go_sem,recoverD,hu,ntmps54,Exit.thenS];apply wpS_seq;apply wpS_region;simp[wpOpsS,go_sem,Exit.thenS];refine wpS_cond (t:=true) (by simp[Act.eval,Array.replicate]) ?_;simp only[if_true];refine wpS_of_wp ?_;go_wp2_with fail
 simp[bodyPostS,results,results54]
theorem catch_none (g:Nat) (w:World) :
 CallsD prog 54 #[.pointer (some ⟨g,0,none⟩)] .returning w fun e u' w'=> e=.returned (.tuple #[])/\u'=.returning/\w'= w:=by
 refine callsD_of_wpS func54 rfl fun c₀ cs hu=>?_
 apply wpS_seq;apply wpS_region;simp[wpOpsS,go_sem,recoverD,hu,ntmps54,Exit.thenS];apply wpS_seq;apply wpS_region;simp[wpOpsS,go_sem,Exit.thenS];refine wpS_cond (t:=false) (by simp[Act.eval,Array.replicate]) ?_;simp only[Bool.false_eq_true,if_false];refine wpS_of_wp (wp_skip ?_)
 cases c₀;simp_all[bodyPostS,results,results54]
def leftI (ws:List Wd):Except Nat (List Ef×Tr):=match wholeI ws with
 |.error j=> .error j
 |.ok r=>if r.2<ws.length then .error r.2 else .ok r.1
def ReadPost (ws:List Wd) (sz:Nat) (W:World) (r:Except Nat (List Ef×Tr)) (e:Ending) (W':World):Prop:=match r with
 |.error j=> ∃v1 v2,e=.returned (.tuple #[v1,v2,faultV ws sz j])/\Below W.heap.size W W'
 |.ok x=> ∃ve T p lo hi,e=.returned (.tuple #[ve,.iface T p,.agg #[.int .i64 0,.int .i64 0]])/\W'.ownsRow W.heap.size 45 3 ve x.1.length (rowZ Ef.cell 3 x.1)/\FmAt lo hi W' x.2 (.iface T p)/\W.heap.size<=lo/\Below W.heap.size W W'
theorem effs_t {ws:List Wd}{R:Except Nat (List Ef×Nat)}(h:effsI ws (f+1) es i=R) (hz:seesI ws i kEffect=true):bindI (effI' ws) (fun x=>effsI ws f (es++ [x])) i=R:=by
 have h1:=oi_t h hz;have h2:bindI (effI' ws) (fun x=>effsI ws f (es++ [x]))=bindI (takeI ws kEffect) fun _=>bindI (nameI ws) fun x=>bindI (takeI ws gColon) fun _=>bindI (baseI ws) fun a=>bindI (takeI ws gGives) fun _=>bindI (baseI ws) fun r=>bindI (takeI ws gSemi) fun _=>effsI ws f (es++ [⟨x,a,r⟩]):=by
  unfold effI';simp only[bind_assoc,pure_bindI]
 rw[h2];unfold bindI at h1 |-;rw[take_t hz];exact h1
theorem effs_f {ws:List Wd}{R:Except Nat (List Ef×Nat)}(h:effsI ws (f+1) es i=R) (hz:seesI ws i kEffect=false):.ok (es,i)=R:=oi_f h hz
def LoopEf (d:Dr) (ws:List Wd) (ad:Option Addr) (cp sz:Nat) (W:World) (RE:Except Nat (List Ef×Nat)) (v:Value) (wr:World):Prop:=
 ∃(es:List Ef) (g k:Nat),wr.ownsRow W.heap.size 45 3 v es.length (rowZ Ef.cell 3 es)/\St d ws ad cp sz W [] [] k wr/\effsI ws g es k=RE/\ws.length-k<g/\es.length<=k
section
variable {ws:List Wd}{ad:Option Addr}{cp sz:Nat}
theorem left_1 (h:effsI ws (ws.length+1) [] 0=.error j):leftI ws=.error j:=by
 unfold leftI wholeI bindI;rw[h]
theorem left_2 (h:effsI ws (ws.length+1) [] 0=.ok (es,k)) (h2:ipz ws (16*ws.length+11) .expr k=.error j):leftI ws=.error j:=by
 unfold leftI wholeI bindI;rw[h];dsimp only;rw[h2]
theorem left_3 {k2:Nat}(h:effsI ws (ws.length+1) [] 0=.ok (es,k)) (h2:ipz ws (16*ws.length+11) .expr k=.ok (t,k2)) (h3:k2<ws.length):leftI ws=.error k2:=by
 unfold leftI wholeI bindI;rw[h];dsimp only;rw[h2];dsimp only[pureI];rw[if_pos h3]
theorem left_4 {k2:Nat}(h:effsI ws (ws.length+1) [] 0=.ok (es,k)) (h2:ipz ws (16*ws.length+11) .expr k=.ok (t,k2)) (h3:¬ k2<ws.length):leftI ws=.ok (es,t):=by
 unfold leftI wholeI bindI;rw[h];dsimp only;rw[h2];dsimp only[pureI];rw[if_neg h3]
theorem eff_on {x:Ef}(h:effI' ws i=.ok (x,k)):i+1<=k:=by
 have step:∀ {α β:Type} {p:PI α} {m:α->PI β} {i k:Nat} {y:β},bindI p m i=.ok (y,k)-> ∃a j,p i=.ok (a,j)/\m a j=.ok (y,k):=fun {α β p m i k y} h=>by
  cases h1:p i with
  |error e=>exact absurd (bi_er h h1) yn
  |ok r=>exact⟨r.1,r.2,rfl,bi_ok h h1⟩
 unfold effI' at h;obtain⟨a1,j1,h1,h⟩:=step h;obtain⟨a2,j2,h2,h⟩:=step h;obtain⟨a3,j3,h3,h⟩:=step h;obtain⟨a4,j4,h4,h⟩:=step h;obtain⟨a5,j5,h5,h⟩:=step h;obtain⟨a6,j6,h6,h⟩:=step h;obtain⟨a7,j7,h7,h⟩:=step h;have e1:=taken_on h1;have e2:=name_on h2;have e3:=taken_on h3;have e4:=ibase_on h4;have e5:=taken_on h5;have e6:=ibase_on h6;have e7:=taken_on h7;simp only[pureI,Except.ok.injEq,Prod.mk.injEq]at h;omega
theorem door_dies {W X:World}{tm:Array Value}{g:Nat}{v4 v5 x y:Value}{R:Ending->World->Prop}(h4:tm[4]?.getD undef=v4) (h5:tm[5]?.getD undef=v5) (h6:tm[6]?.getD undef=.pointer (some ⟨g,0,none⟩)) (hb:X.heap[g]?=some (.cells #[x,y] 31)) (hg:W.heap.size<=g) (hX:Below W.heap.size W X) (hR:∀X',Below W.heap.size W X'->R (.returned (.tuple #[v4,v5,faultV ws sz j])) X') :
 bodyPostD prog Tryz.f27 R (.panic [faultAt ws sz j]) { tmps:=tm,defers:= [{ target:=.fn (.func 54) #[.pointer (some ⟨g,0,none⟩)],args:= #[] }] } X:=by
 show Leaves prog Tryz.f27 tm R _ (.panicking [faultAt ws sz j]) X;unfold faultAt faultV at*;refine leaves_cons (f:=54) (args:= #[.pointer (some ⟨g,0,none⟩)]) yn yc ?_;refine(catch_fault g 5 _ x y X hb).mono ?_;rintro e u' w'' ⟨rfl,rfl,rfl⟩;obtain⟨k0,k1⟩:=fcl2 (z28 (i:=1) (.int .i64 ((curI ws sz j).at_:Int)) (z28 (i:=0) (.int .i64 5) hb));have hl:=(hX.setCell (p:=⟨g,0,none⟩) hg (.int .i64 5)).setCell (p:=⟨g,1,none⟩) hg (.int .i64 ((curI ws sz j).at_:Int));refine⟨_,?_,hR _ hl⟩;simp[results,results27,go_sem,h4,h5,h6,k0,k1]
theorem door_back {X:World}{tm:Array Value}{g:Nat}{v4 v5:Value}{R:Ending->World->Prop}(h4:tm[4]?.getD undef=v4) (h5:tm[5]?.getD undef=v5) (h6:tm[6]?.getD undef=.pointer (some ⟨g,0,none⟩)) (hb:X.heap[g]?=some (.cells #[.int .i64 0,.int .i64 0] 31)) (hR:R (.returned (.tuple #[v4,v5,.agg #[.int .i64 0,.int .i64 0]])) X) :
 bodyPostD prog Tryz.f27 R .ret { tmps:=tm,defers:= [{ target:=.fn (.func 54) #[.pointer (some ⟨g,0,none⟩)],args:= #[] }] } X:=by
 show Leaves prog Tryz.f27 tm R _ .returning X;refine leaves_cons (f:=54) (args:= #[.pointer (some ⟨g,0,none⟩)]) yn yc ?_;refine(catch_none g X).mono ?_;rintro e u' w'' ⟨rfl,rfl,rfl⟩;obtain⟨k0,k1⟩:=fcl2 hb;refine⟨_,?_,hR⟩;simp[results,results27,go_sem,h4,h5,h6,k0,k1]
theorem own_mono {W:World}{B B':Nat}{e:TypeId}{z:Nat}{n:Nat}{xs:List Value}(h:W.ownsRow B e z v n xs) (hB:B'<=B):W.ownsRow B' e z v n xs:=by
 obtain⟨h0,h1|⟨g,cap,cur,h1,h2,h3⟩⟩:=h
 .exact⟨h0,Or.inl h1⟩
 .exact⟨h0,Or.inr ⟨g,cap,cur,h1,Lf hB h2,h3⟩⟩
theorem readWords_calls (hw:BriefW ws) (ho:WordsOk ws) (hnum:NumW ws) (hne:∀w∈ws,w.kind=1->w.text.toList≠ []) (hfew:ws.length<=1500) (W:World) (hrow:∀d:Dr,W.heap.size<=d.B->W.heap.size<=d.G->Lies d W (.slice ad ws.length cp) ws.length 3 (fun i=>wdC (ws.getD (i/3) default) (i % 3))) :
 Calls prog 27 #[.slice ad ws.length cp,.int .i64 (sz:Int)] W (ReadPost ws sz W (leftI ws)):=by
 have hmf:∀(fn:Fn) (first cap:Array Value) (w:World),(Instr.makeFunc fn first cap).run prog w=.ok (.func fn first cap) w:=fun _ _ _ _=>rfl
 have H:=J (Lc hw (Lc ho (Lc hnum hne)));obtain⟨R,hR⟩:∃R,leftI ws=R:=⟨_,rfl⟩
 rw[hR];have HR:=J hR;obtain⟨RE,hRE⟩:∃RE,effsI ws (ws.length+1) [] 0=RE:=⟨_,rfl⟩
 have HRE:=J hRE;have hst:∃d:Dr,d.B=W.heap.size+1/\St d ws ad cp sz ((W.alloc (.cells #[.int .i64 0,.int .i64 0] 31)).alloc (.cells #[.slice ad ws.length cp,.int .i64 0,.int .i64 (sz:Int)] 95)) [] [] 0 ((W.alloc (.cells #[.int .i64 0,.int .i64 0] 31)).alloc (.cells #[.slice ad ws.length cp,.int .i64 0,.int .i64 (sz:Int)] 95)):=by
  have h1:Below W.heap.size W (W.alloc (.cells #[.int .i64 0,.int .i64 0] 31)):=Lb.alloc La _;have s1:(W.alloc (.cells #[.int .i64 0,.int .i64 0] 31)).heap.size=W.heap.size+1:=yn;have h2:=h1.alloc h1.size (.cells #[.slice ad ws.length cp,.int .i64 0,.int .i64 (sz:Int)] 95);have h3:=(Ld (W.alloc (.cells #[.int .i64 0,.int .i64 0] 31)) (.cells #[.slice ad ws.length cp,.int .i64 0,.int .i64 (sz:Int)] 95)).1;rw[s1]at h3
  exact⟨⟨W.heap.size+1,W.heap.size+1,none,0,0⟩,rfl,St.start ⟨h3,rfl,Li _,hfew,(hrow ⟨W.heap.size+1,W.heap.size+1,none,0,0⟩ (Nat.le_succ _) (Nat.le_succ _)).grew (Grew.of_below h2)⟩⟩
 have hfl:((W.alloc (.cells #[.int .i64 0,.int .i64 0] 31)).alloc (.cells #[.slice ad ws.length cp,.int .i64 0,.int .i64 (sz:Int)] 95)).heap[W.heap.size]?=some (.cells #[.int .i64 0,.int .i64 0] 31):=by
  rw[(Ld (W.alloc (.cells #[.int .i64 0,.int .i64 0] 31)) _).2 _ yn];exact(Ld W _).1
 have hbl:Below W.heap.size W ((W.alloc (.cells #[.int .i64 0,.int .i64 0] 31)).alloc (.cells #[.slice ad ws.length cp,.int .i64 0,.int .i64 (sz:Int)] 95)):=by
  have h1:Below W.heap.size W (W.alloc (.cells #[.int .i64 0,.int .i64 0] 31)):=Lb.alloc La _;exact h1.alloc h1.size _
 obtain⟨d,hdB,hS⟩:=hst;obtain⟨L,hL⟩:∃L,ws.length=L:=⟨_,rfl⟩
 have HL:=J hL;rw[hL]at hS hfl hbl |-;have S:=J hS;have HFl:=J hfl;have HBl:=J hbl;have HdB:=J hdB;clear hw ho hnum hne hfew hrow hR hRE hL hS hfl hbl;go_enter_defers func27,ntmps27
 go_wp2_with fail
 rw[<-hdB];clear hdB;obtain⟨W2,hW2⟩:∃Y,((W.alloc (.cells #[.int .i64 0,.int .i64 0] 31)).alloc (.cells #[.slice ad L cp,.int .i64 0,.int .i64 (sz:Int)] 95))=Y:=⟨_,rfl⟩
 rw[hW2]at S HFl HBl |-;obtain⟨g0,hg0⟩:∃g,W.heap.size=g:=⟨_,rfl⟩
 have HG0:=J hg0;rw[hg0]at HFl |-;clear hW2 hg0;have HX:=J (fun(X:World) (hg:Grew d W2 X)=>show X.heap[g0]?=some (.cells #[.int .i64 0,.int .i64 0] 31)/\Below W.heap.size W X from by
  have h1:=HdB.o;have h2:=HG0.o;have h3:=z12 HFl.o;have h4:=S.o.rd.eq;have h5:=HBl.o.size;exact⟨(hg.block g0 ⟨h3,yf,yf⟩).trans HFl.o,HBl.o.trans (hg.below h5 yf yf)⟩)
 clear HFl HBl;go_loopw [4] (fun v wr=>I (LoopEf d ws ad cp sz W2 RE v wr)) (fun _ wr=>ws.length-posOf d wr)
 case atStart=>exact J ⟨[],ws.length+1,0,⟨rfl,Or.inl ⟨rfl,rfl⟩⟩,S.o,HRE.o,yf,La⟩
 case round=>
  obtain⟨es,g,k,hown,hS,hE,hg,hes⟩:=hrel.o;clear hrel;obtain⟨g,rfl⟩:∃x,g=x+1:=⟨g-1,yf⟩
  obtain⟨av,cpv,rfl⟩:=y_is hown;have Ow:=J hown;have S:=J hS;have HE:=J hE;have HG:=J (Lc hg hes);have HP:=J (rd_pos hS.rd);clear hown hS hE hg hes;go_wp2_with fail
  have hsee:=sees_calls (d:=d) (ad:=ad) (cp:=cp) (sz:=sz) k ⟨#[101,102,102,101,99,116]⟩ kEffect yb yh wr S.o.rd;by_cases z:seesI ws k kEffect=true
  .rw[z]at hsee;refine hsee.mono ?_;rintro e X1 ⟨rfl,hb⟩;have S:=J (S.o.below hb);have Ow:=J (z33 Ow.o hb);have HE:=J (effs_t HE.o z);clear hb z hsee;go_wp2_with fail
   refine(ieff_calls _ _ S.o.rd).mono ?_;intro e X2 hp;rcases post_x hp with ⟨j,hq,rfl,hg⟩|⟨x,k2,hq,hx,hr,hg⟩
   ·have hx:=HX.o _ (S.o.gr.trans hg);exact door_dies rfl rfl rfl hx.1 ybg hx.2 (fun X' hX'=> by
     rw[<-HR.o,left_1 (HRE.o.trans (bi_er HE.o hq).symm)];exact⟨_,_,rfl,hX'⟩)
   have hx':e=_:=hx;subst hx';have HK:=J (eff_on hq);have HE:=J (bi_ok HE.o hq);have S:=J (S.o.go hr hg);have Ow:=J (y_grew Ow.o S.o.hB (by rw[S.o.rd.eq];exact S.o.hB) hg);obtain⟨i0,hinf,hz0,hz1,hz2⟩:=info_parts info_eff;have hb:Below X2.heap.size X2 (X2.alloc (.cells #[.string x.name,.int .i64 x.arg,.int .i64 x.res] 45)):=Lb.alloc La _;have hli:Lies d (X2.alloc (.cells #[.string x.name,.int .i64 x.arg,.int .i64 x.res] 45)) (.slice (some ⟨X2.heap.size,0,none⟩) 1 1) [x].length 3 (fun i=>Ef.cell ([x].getD (i/3) default) (i % 3)):=
    lies_lit (f:=Ef.cell) (sz:=3) yh X2 45 [x] _ rfl (z12 S.o.rd.blk) (by rw[S.o.rd.eq];exact z12 S.o.rd.blk)
   obtain⟨v',Z,hrun,hown,hgw⟩:=z70 (d:=d) ef_one underlying23 hinf hz0 hz1 hz2 rfl yh yh (z33 Ow.o hb) hli (by have h1:=HG.o.2;have h2:=S.o.rd.lt;have h3:=S.o.rd.few;have h4:=HK.o;simp;omega) (Lf S.o.gr.size hb.size) 23;obtain⟨a',c',n',hv⟩:∃a c n,v'=.slice a n c:=by
    obtain⟨p,q,h⟩:=y_is hown;exact⟨p,q,_,h⟩
   subst hv;have S:=J ((S.o.below hb).grown hgw (fun g hg=>⟨(Ow.o.lt g hg).1,fun b hb=>(by cases hb),fun x hx=>mt⟩));have HRun:=J hrun;have Ow:=J hown;clear hp hq hx hr hg hb hli hrun hown hgw hinf hz0 hz1 hz2;go_wp2_with (at_builtin;refine wpList_append_run rfl _ _ 23 rfl _ _ rfl rfl HRun.o ?_)
   exact⟨J ⟨es++ [x],g,k2,Ow.o,S.o,HE.o,by have h1:=HG.o.1;have h2:=HK.o;have h3:=S.o.rd.lt;omega,by have h1:=HG.o.2;have h2:=HK.o;simp;omega⟩,by
    rw[HP.o,rd_pos S.o.rd];have h1:=HK.o;have h2:=S.o.rd.lt;omega⟩
  .have z2:seesI ws k kEffect=false:=by simpa using z
   rw[z2]at hsee;refine hsee.mono ?_;rintro e X1 ⟨rfl,hb⟩;have S:=J (S.o.below hb);have Ow:=J (z33 Ow.o hb);have HE:=J (effs_f HE.o z2);clear hb z z2 hsee;go_wp2_with fail
   refine(iwhole_calls H.o.1 H.o.2.1 H.o.2.2.1 H.o.2.2.2 _ _ S.o.rd).mono ?_;intro e X2 hp;rcases post_x hp with ⟨j,hq,rfl,hg⟩|⟨t,k2,hq,⟨T2,p2,rfl,hf⟩,hr,hg⟩
   ·have hx:=HX.o _ (S.o.gr.trans hg);exact door_dies rfl rfl rfl hx.1 ybg hx.2 (fun X' hX'=> by
     rw[<-HR.o,left_2 (HRE.o.trans HE.o.symm) hq];exact⟨_,_,rfl,hX'⟩)
   have Ow:=J (y_grew Ow.o S.o.hB (by rw[S.o.rd.eq];exact S.o.hB) hg);have S:=J (S.o.form hr hg hf);have HQ:=J hq;clear hp hq hf hr hg;have q1:=z8 S.o.rd.blk 1;simp at q1;by_cases hlt:(k2:Int)<(L:Int)
   .go_wp2_with fail
    refine(misfit_calls _ _ S.o.rd).mono ?_;rintro e X3 ⟨rfl,hb⟩;go_wp2_with fail
    have hx:=HX.o _ (S.o.gr.trans (Grew.of_below hb));exact door_dies rfl rfl rfl hx.1 ybg hx.2 (fun X' hX'=> by
     rw[<-HR.o,left_3 (HRE.o.trans HE.o.symm) HQ.o zy];exact⟨_,_,rfl,hX'⟩)
   .have hx:=HX.o _ S.o.gr;have c0:=z8 hx.1 0;have c1:=z8 hx.1 1;obtain⟨z0,z1⟩:=ffz2 hx.1;simp at c0 c1;have HXx:=J hx;clear hx;go_wp2_with fail
    have hsz:g0<W2.heap.size:=by
     have h1:=S.o.hB;have h2:=HdB.o;have h3:=HG0.o;omega
    have hff:=S.o.fss _ (.head _);have hkeep:∀q,q≠g0->((X2.setCell ⟨g0,0,none⟩ (.int .i64 0)).setCell ⟨g0,1,none⟩ (.int .i64 0)).heap[q]?=X2.heap[q]? :=fun q hq=>(Lg _ ⟨g0,1,none⟩ _ q hq).trans (Lg _ ⟨g0,0,none⟩ _ q hq)
    have hbx:=(HXx.o.2.setCell (p:=⟨g0,0,none⟩) ybg (.int .i64 0)).setCell (p:=⟨g0,1,none⟩) ybg (.int .i64 0);have hnl:¬ k2<ws.length:=zy;refine door_back rfl rfl rfl (z28 (i:=1) (.int .i64 0) (z28 (i:=0) (.int .i64 0) HXx.o.1)) ?_;rw[<-HR.o,left_4 (HRE.o.trans HE.o.symm) HQ.o hnl];exact⟨_,T2,p2,_,_,rfl,own_mono (y_same Ow.o (fun g hg=>hkeep g (by have:=(Ow.o.lt g hg).1;omega))) (by have:=HG0.o;omega),hff.1.keep (Lf hff.1.top vh) (fun q hq _=>hkeep q (by have:=hff.2.1;omega)),Lf (by have:=HG0.o;omega) hff.2.1,hbx⟩
end
def ndV (n:Nd):Value:=.agg #[.int .i64 n.kind,.int .i64 n.num,.string n.a,.string n.b,.string n.c,.int .i64 n.kids]
def plainZ (n:Nd):Nd:=
 ⟨n.kind,if n.kind=1\/n.kind=2 then n.num else 0,if 1<=namesZ n.kind then n.a else ⟨#[]⟩,if 2<=namesZ n.kind then n.b else ⟨#[]⟩,if 3<=namesZ n.kind then n.c else ⟨#[]⟩,0⟩
def NodePost (m:Nd) (w:World) (e:Ending) (w':World):Prop:=e=.returned (ndV m)/\Below w.heap.size w w'
def NodeOf (w:World) (v:Value) (m:Nd):Prop:=
 ∃T pv g rv,v=.iface T pv/\(∀w,(method 344 T pv "loop.example/handrail/impl.node").run prog w=.ok (g,rv) w)/\(∀args w,(callFunc g args).run prog w=.ok (.enter g args) w)/\Calls prog g #[rv] w (NodePost m w)
theorem node_int (num:Int) (w:World):Calls prog 206 #[.agg #[.int .i64 num]] w (NodePost ⟨1,num,⟨#[]⟩,⟨#[]⟩,⟨#[]⟩,0⟩ w):=by
 go_enter func206,ntmps206
 go_wp2_with fail
 refine bodyPost_ret (v:=ndV ⟨1,num,⟨#[]⟩,⟨#[]⟩,⟨#[]⟩,0⟩) (by simp[results,results206,go_sem,ndV]) rfl ?_;exact⟨rfl,by repeat(first|exact Lb|refine Below.alloc ?_ zw _)⟩
theorem node_bool (num:Int) (w:World):Calls prog 208 #[.agg #[.int .i64 num]] w (NodePost ⟨2,num,⟨#[]⟩,⟨#[]⟩,⟨#[]⟩,0⟩ w):=by
 go_enter func208,ntmps208
 go_wp2_with fail
 refine bodyPost_ret (v:=ndV ⟨2,num,⟨#[]⟩,⟨#[]⟩,⟨#[]⟩,0⟩) (by simp[results,results208,go_sem,ndV]) rfl ?_;exact⟨rfl,by repeat(first|exact Lb|refine Below.alloc ?_ zw _)⟩
theorem node_unit (w:World):Calls prog 212 #[.agg #[]] w (NodePost ⟨3,0,⟨#[]⟩,⟨#[]⟩,⟨#[]⟩,0⟩ w):=by
 go_enter func212,ntmps212
 go_wp2_with fail
 refine bodyPost_ret (v:=ndV ⟨3,0,⟨#[]⟩,⟨#[]⟩,⟨#[]⟩,0⟩) (by simp[results,results212,go_sem,ndV]) rfl ?_;exact⟨rfl,by repeat(first|exact Lb|refine Below.alloc ?_ zw _)⟩
theorem node_nil (w:World):Calls prog 214 #[.agg #[]] w (NodePost ⟨4,0,⟨#[]⟩,⟨#[]⟩,⟨#[]⟩,0⟩ w):=by
 go_enter func214,ntmps214
 go_wp2_with fail
 refine bodyPost_ret (v:=ndV ⟨4,0,⟨#[]⟩,⟨#[]⟩,⟨#[]⟩,0⟩) (by simp[results,results214,go_sem,ndV]) rfl ?_;exact⟨rfl,by repeat(first|exact Lb|refine Below.alloc ?_ zw _)⟩
theorem node_var (a:ByteArray) (w:World):Calls prog 216 #[.agg #[.string a]] w (NodePost ⟨5,0,a,⟨#[]⟩,⟨#[]⟩,0⟩ w):=by
 go_enter func216,ntmps216
 go_wp2_with fail
 refine bodyPost_ret (v:=ndV ⟨5,0,a,⟨#[]⟩,⟨#[]⟩,0⟩) (by simp[results,results216,go_sem,ndV]) rfl ?_;exact⟨rfl,by repeat(first|exact Lb|refine Below.alloc ?_ zw _)⟩
theorem node_fn (a:ByteArray) (T0:TypeId) (p0:Value) (w:World):Calls prog 202 #[.agg #[.string a,.iface T0 p0]] w (NodePost ⟨6,0,a,⟨#[]⟩,⟨#[]⟩,0⟩ w):=by
 go_enter func202,ntmps202
 go_wp2_with fail
 refine bodyPost_ret (v:=ndV ⟨6,0,a,⟨#[]⟩,⟨#[]⟩,0⟩) (by simp[results,results202,go_sem,ndV]) rfl ?_;exact⟨rfl,by repeat(first|exact Lb|refine Below.alloc ?_ zw _)⟩
theorem node_app (T0 T1:TypeId) (p0 p1:Value) (w:World):Calls prog 220 #[.agg #[.iface T0 p0,.iface T1 p1]] w (NodePost ⟨7,0,⟨#[]⟩,⟨#[]⟩,⟨#[]⟩,0⟩ w):=by
 go_enter func220,ntmps220
 go_wp2_with fail
 refine bodyPost_ret (v:=ndV ⟨7,0,⟨#[]⟩,⟨#[]⟩,⟨#[]⟩,0⟩) (by simp[results,results220,go_sem,ndV]) rfl ?_;exact⟨rfl,by repeat(first|exact Lb|refine Below.alloc ?_ zw _)⟩
theorem node_bind (a:ByteArray) (T0 T1:TypeId) (p0 p1:Value) (w:World):Calls prog 224 #[.agg #[.string a,.iface T0 p0,.iface T1 p1]] w (NodePost ⟨8,0,a,⟨#[]⟩,⟨#[]⟩,0⟩ w):=by
 go_enter func224,ntmps224
 go_wp2_with fail
 refine bodyPost_ret (v:=ndV ⟨8,0,a,⟨#[]⟩,⟨#[]⟩,0⟩) (by simp[results,results224,go_sem,ndV]) rfl ?_;exact⟨rfl,by repeat(first|exact Lb|refine Below.alloc ?_ zw _)⟩
theorem node_recur (a b:ByteArray) (T0 T1:TypeId) (p0 p1:Value) (w:World):Calls prog 227 #[.agg #[.string a,.string b,.iface T0 p0,.iface T1 p1]] w (NodePost ⟨9,0,a,b,⟨#[]⟩,0⟩ w):=by
 go_enter func227,ntmps227
 go_wp2_with fail
 refine bodyPost_ret (v:=ndV ⟨9,0,a,b,⟨#[]⟩,0⟩) (by simp[results,results227,go_sem,ndV]) rfl ?_;exact⟨rfl,by repeat(first|exact Lb|refine Below.alloc ?_ zw _)⟩
theorem node_cond (T0 T1 T2:TypeId) (p0 p1 p2:Value) (w:World):Calls prog 230 #[.agg #[.iface T0 p0,.iface T1 p1,.iface T2 p2]] w (NodePost ⟨10,0,⟨#[]⟩,⟨#[]⟩,⟨#[]⟩,0⟩ w):=by
 go_enter func230,ntmps230
 go_wp2_with fail
 refine bodyPost_ret (v:=ndV ⟨10,0,⟨#[]⟩,⟨#[]⟩,⟨#[]⟩,0⟩) (by simp[results,results230,go_sem,ndV]) rfl ?_;exact⟨rfl,by repeat(first|exact Lb|refine Below.alloc ?_ zw _)⟩
theorem node_sign (k:Int) (T0 T1:TypeId) (p0 p1:Value) (w:World):Calls prog 264 #[.agg #[.int .i64 k,.iface T0 p0,.iface T1 p1]] w (NodePost ⟨k,0,⟨#[]⟩,⟨#[]⟩,⟨#[]⟩,0⟩ w):=by
 go_enter func264,ntmps264
 go_wp2_with fail
 refine bodyPost_ret (v:=ndV ⟨k,0,⟨#[]⟩,⟨#[]⟩,⟨#[]⟩,0⟩) (by simp[results,results264,go_sem,ndV]) rfl ?_;exact⟨rfl,by repeat(first|exact Lb|refine Below.alloc ?_ zw _)⟩
theorem node_pair (T0 T1:TypeId) (p0 p1:Value) (w:World):Calls prog 234 #[.agg #[.iface T0 p0,.iface T1 p1]] w (NodePost ⟨16,0,⟨#[]⟩,⟨#[]⟩,⟨#[]⟩,0⟩ w):=by
 go_enter func234,ntmps234
 go_wp2_with fail
 refine bodyPost_ret (v:=ndV ⟨16,0,⟨#[]⟩,⟨#[]⟩,⟨#[]⟩,0⟩) (by simp[results,results234,go_sem,ndV]) rfl ?_;exact⟨rfl,by repeat(first|exact Lb|refine Below.alloc ?_ zw _)⟩
theorem node_take (k:Int) (T0:TypeId) (p0:Value) (w:World):Calls prog 238 #[.agg #[.int .i64 k,.iface T0 p0]] w (NodePost ⟨k,0,⟨#[]⟩,⟨#[]⟩,⟨#[]⟩,0⟩ w):=by
 go_enter func238,ntmps238
 go_wp2_with fail
 refine bodyPost_ret (v:=ndV ⟨k,0,⟨#[]⟩,⟨#[]⟩,⟨#[]⟩,0⟩) (by simp[results,results238,go_sem,ndV]) rfl ?_;exact⟨rfl,by repeat(first|exact Lb|refine Below.alloc ?_ zw _)⟩
theorem node_cons (T0 T1:TypeId) (p0 p1:Value) (w:World):Calls prog 243 #[.agg #[.iface T0 p0,.iface T1 p1]] w (NodePost ⟨19,0,⟨#[]⟩,⟨#[]⟩,⟨#[]⟩,0⟩ w):=by
 go_enter func243,ntmps243
 go_wp2_with fail
 refine bodyPost_ret (v:=ndV ⟨19,0,⟨#[]⟩,⟨#[]⟩,⟨#[]⟩,0⟩) (by simp[results,results243,go_sem,ndV]) rfl ?_;exact⟨rfl,by repeat(first|exact Lb|refine Below.alloc ?_ zw _)⟩
theorem node_case (a b:ByteArray) (T0 T1 T2:TypeId) (p0 p1 p2:Value) (w:World):Calls prog 246 #[.agg #[.iface T0 p0,.iface T1 p1,.string a,.string b,.iface T2 p2]] w (NodePost ⟨20,0,a,b,⟨#[]⟩,0⟩ w):=by
 go_enter func246,ntmps246
 go_wp2_with fail
 refine bodyPost_ret (v:=ndV ⟨20,0,a,b,⟨#[]⟩,0⟩) (by simp[results,results246,go_sem,ndV]) rfl ?_;exact⟨rfl,by repeat(first|exact Lb|refine Below.alloc ?_ zw _)⟩
theorem node_perform (a:ByteArray) (T0:TypeId) (p0:Value) (w:World):Calls prog 250 #[.agg #[.string a,.iface T0 p0]] w (NodePost ⟨22,0,a,⟨#[]⟩,⟨#[]⟩,0⟩ w):=by
 go_enter func250,ntmps250
 go_wp2_with fail
 refine bodyPost_ret (v:=ndV ⟨22,0,a,⟨#[]⟩,⟨#[]⟩,0⟩) (by simp[results,results250,go_sem,ndV]) rfl ?_;exact⟨rfl,by repeat(first|exact Lb|refine Below.alloc ?_ zw _)⟩
theorem node_handler (k:Int) (T0:TypeId) (p0:Value) (ad:Option Addr) (sn sc:Nat) (w:World):Calls prog 254 #[.agg #[.int .i64 k,.iface T0 p0,.slice ad sn sc]] w (NodePost ⟨k,0,⟨#[]⟩,⟨#[]⟩,⟨#[]⟩,0⟩ w):=by
 go_enter func254,ntmps254
 go_wp2_with fail
 refine bodyPost_ret (v:=ndV ⟨k,0,⟨#[]⟩,⟨#[]⟩,⟨#[]⟩,0⟩) (by simp[results,results254,go_sem,ndV]) rfl ?_;exact⟨rfl,by repeat(first|exact Lb|refine Below.alloc ?_ zw _)⟩
theorem node_ret (a:ByteArray) (T0:TypeId) (p0:Value) (w:World):Calls prog 257 #[.agg #[.string a,.iface T0 p0]] w (NodePost ⟨25,0,a,⟨#[]⟩,⟨#[]⟩,0⟩ w):=by
 go_enter func257,ntmps257
 go_wp2_with fail
 refine bodyPost_ret (v:=ndV ⟨25,0,a,⟨#[]⟩,⟨#[]⟩,0⟩) (by simp[results,results257,go_sem,ndV]) rfl ?_;exact⟨rfl,by repeat(first|exact Lb|refine Below.alloc ?_ zw _)⟩
theorem node_op (a b c:ByteArray) (T0:TypeId) (p0:Value) (w:World):Calls prog 260 #[.agg #[.string a,.string b,.string c,.iface T0 p0]] w (NodePost ⟨26,0,a,b,c,0⟩ w):=by
 go_enter func260,ntmps260
 go_wp2_with fail
 refine bodyPost_ret (v:=ndV ⟨26,0,a,b,c,0⟩) (by simp[results,results260,go_sem,ndV]) rfl ?_;exact⟨rfl,by repeat(first|exact Lb|refine Below.alloc ?_ zw _)⟩
theorem z39 {w:World}{m m':Nd}(T:TypeId) (pv:Value) (g:FuncId) (hv:v=.iface T pv) (hm:∀w,(method 344 T pv "loop.example/handrail/impl.node").run prog w=.ok (g,pv) w)
 (hc:∀args w,(callFunc g args).run prog w=.ok (.enter g args) w) (he:m'= m) (hK:Calls prog g #[pv] w (NodePost m w)):NodeOf w v m':= by
 subst he;exact⟨T,pv,g,pv,hv,hm,hc,hK⟩
theorem nodeOf {B:Nat}{w:World}{us:List Value}(h:Shape B w n us v) (hi:∀u∈us,∃T p,u=.iface T p):NodeOf w v (plainZ n):=by
 cases h with
 | int=>
   exact z39 _ _ 206 rfl (fun w=>yb) (fun args w=>yb) rfl (node_int _ w)
 | bool=>
   exact z39 _ _ 208 rfl (fun w=>yb) (fun args w=>yb) rfl (node_bool _ w)
 | unit=>
   exact z39 _ _ 212 rfl (fun w=>yb) (fun args w=>yb) rfl (node_unit w)
 | nil=>
   exact z39 _ _ 214 rfl (fun w=>yb) (fun args w=>yb) rfl (node_nil w)
 | var=>
   exact z39 _ _ 216 rfl (fun w=>yb) (fun args w=>yb) rfl (node_var _ w)
 | fn=>
   obtain⟨T0,p0,rfl⟩:=hi _ (Lh (i:=0) rfl);exact z39 _ _ 202 rfl (fun w=>yb) (fun args w=>yb) rfl (node_fn _ _ _ w)
 | app=>
   obtain⟨T0,p0,rfl⟩:=hi _ (Lh (i:=0) rfl);obtain⟨T1,p1,rfl⟩:=hi _ (Lh (i:=1) rfl);exact z39 _ _ 220 rfl (fun w=>yb) (fun args w=>yb) rfl (node_app _ _ _ _ w)
 | bind=>
   obtain⟨T0,p0,rfl⟩:=hi _ (Lh (i:=0) rfl);obtain⟨T1,p1,rfl⟩:=hi _ (Lh (i:=1) rfl);exact z39 _ _ 224 rfl (fun w=>yb) (fun args w=>yb) rfl (node_bind _ _ _ _ _ w)
 | recur=>
   obtain⟨T0,p0,rfl⟩:=hi _ (Lh (i:=0) rfl);obtain⟨T1,p1,rfl⟩:=hi _ (Lh (i:=1) rfl);exact z39 _ _ 227 rfl (fun w=>yb) (fun args w=>yb) rfl (node_recur _ _ _ _ _ _ w)
 | cond=>
   obtain⟨T0,p0,rfl⟩:=hi _ (Lh (i:=0) rfl);obtain⟨T1,p1,rfl⟩:=hi _ (Lh (i:=1) rfl);obtain⟨T2,p2,rfl⟩:=hi _ (Lh (i:=2) rfl);exact z39 _ _ 230 rfl (fun w=>yb) (fun args w=>yb) rfl (node_cond _ _ _ _ _ _ w)
 | sign h=>
   obtain⟨T0,p0,rfl⟩:=hi _ (Lh (i:=0) rfl);obtain⟨T1,p1,rfl⟩:=hi _ (Lh (i:=1) rfl);exact z39 _ _ 264 rfl (fun w=>yb) (fun args w=>yb) (by rcases h with rfl|rfl|rfl|rfl|rfl<;>rfl) (node_sign _ _ _ _ _ w)
 | pair=>
   obtain⟨T0,p0,rfl⟩:=hi _ (Lh (i:=0) rfl);obtain⟨T1,p1,rfl⟩:=hi _ (Lh (i:=1) rfl);exact z39 _ _ 234 rfl (fun w=>yb) (fun args w=>yb) rfl (node_pair _ _ _ _ w)
 | take h=>
   obtain⟨T0,p0,rfl⟩:=hi _ (Lh (i:=0) rfl);exact z39 _ _ 238 rfl (fun w=>yb) (fun args w=>yb) (by rcases h with rfl|rfl|rfl<;>rfl) (node_take _ _ _ w)
 | cons=>
   obtain⟨T0,p0,rfl⟩:=hi _ (Lh (i:=0) rfl);obtain⟨T1,p1,rfl⟩:=hi _ (Lh (i:=1) rfl);exact z39 _ _ 243 rfl (fun w=>yb) (fun args w=>yb) rfl (node_cons _ _ _ _ w)
 | case=>
   obtain⟨T0,p0,rfl⟩:=hi _ (Lh (i:=0) rfl);obtain⟨T1,p1,rfl⟩:=hi _ (Lh (i:=1) rfl);obtain⟨T2,p2,rfl⟩:=hi _ (Lh (i:=2) rfl);exact z39 _ _ 246 rfl (fun w=>yb) (fun args w=>yb) rfl (node_case _ _ _ _ _ _ _ _ w)
 | perform=>
   obtain⟨T0,p0,rfl⟩:=hi _ (Lh (i:=0) rfl);exact z39 _ _ 250 rfl (fun w=>yb) (fun args w=>yb) rfl (node_perform _ _ _ w)
 | handler h hs hl=>
   obtain⟨T0,p0,rfl⟩:=hi _ (Lh (i:=0) rfl);obtain⟨g0,o0,c0,rfl,-⟩:=hs;exact z39 _ _ 254 rfl (fun w=>yb) (fun args w=>yb) (by rcases h with rfl|rfl<;>rfl) (node_handler _ _ _ _ _ _ w)
 | ret=>
   obtain⟨T0,p0,rfl⟩:=hi _ (Lh (i:=0) rfl);exact z39 _ _ 257 rfl (fun w=>yb) (fun args w=>yb) rfl (node_ret _ _ _ w)
 | op=>
   obtain⟨T0,p0,rfl⟩:=hi _ (Lh (i:=0) rfl);exact z39 _ _ 260 rfl (fun w=>yb) (fun args w=>yb) rfl (node_op _ _ _ _ _ w)
end
section
open Go.RowKit
def BareN (n:Nd):Prop:=(n.kind=1\/n.kind=2\/n.num=0)/\(1<=namesZ n.kind\/n.a=⟨#[]⟩)/\(2<=namesZ n.kind\/n.b=⟨#[]⟩)/\(3<=namesZ n.kind\/n.c=⟨#[]⟩)
def bareF:Fo->Prop
 |.none=>True
 |.tree n k r=>BareN n/\bareF k/\bareF r
def BareT (t:Tr):Prop:=BareN t.1/\bareF t.2
theorem bn0 (k:Int):BareN (nd0 k):=⟨Or.inr (Or.inr rfl),Or.inr rfl,Or.inr rfl,Or.inr rfl⟩
theorem bn1 {k:Int}(h:1<=namesZ k):BareN (nd1 k x):=⟨Or.inr (Or.inr rfl),Or.inl h,Or.inr rfl,Or.inr rfl⟩
theorem bn2 {k:Int}{y:ByteArray}(h:2<=namesZ k):BareN (nd2 k x y):=⟨Or.inr (Or.inr rfl),Or.inl (by show 1<=namesZ k;omega),Or.inl h,Or.inr rfl⟩
theorem bn3 {k:Int}{y z:ByteArray}(h:3<=namesZ k):BareN (nd3 k x y z):=⟨Or.inr (Or.inr rfl),Or.inl (by show 1<=namesZ k;omega),Or.inl (by show 2<=namesZ k;omega),Or.inl h⟩
theorem bnI {n:Int}:BareN (ndN 1 n):=⟨Or.inl rfl,Or.inr rfl,Or.inr rfl,Or.inr rfl⟩
theorem bnB {n:Int}:BareN (ndN 2 n):=⟨Or.inr (Or.inl rfl),Or.inr rfl,Or.inr rfl,Or.inr rfl⟩
theorem foL_bare:∀(l:List Tr),(∀t∈l,BareT t)->bareF (foL l)
 |[],_=>trivial
 |t::r,h=>⟨(h t yn).1,(h t yn).2,foL_bare r (fun x hx=>h x (by simp[hx]))⟩
theorem mk_bare (hn:BareN n) (ks:List Tr) (h:∀t∈ks,BareT t):BareT (mkT n ks):=⟨hn,foL_bare ks h⟩
def NtBare:Nt Tr->Prop
 |.sumL a=>BareT a
 |.prodL a=>BareT a
 |.callL a=>BareT a
 |.opsL _ ks=> ∀t∈ks,BareT t
 |_=>True
theorem pb0 (hn:BareN n):BareT (mkT n []):=mk_bare hn [] (fun t ht=>by cases ht)
theorem pb1 (hn:BareN n) (h:BareT a):BareT (mkT n [a]):=mk_bare hn [a] (fun t ht=>by simp at ht;subst ht;exact h)
theorem pb2 {b:Tr}(hn:BareN n) (h:BareT a) (h':BareT b):BareT (mkT n [a,b]):=mk_bare hn [a,b] (fun t ht=>mv)
theorem pb3 {b c:Tr}(hn:BareN n) (h:BareT a) (h':BareT b) (h'':BareT c):BareT (mkT n [a,b,c]):=mk_bare hn [a,b,c] (fun t ht=>mw)
section
variable {ws:List Wd}{go:Nt Tr->PI Tr}
theorem step_bare (hg:∀nt,NtBare nt->AllI BareT (go nt)):∀nt,NtBare nt->AllI BareT (stepI ws go nt):=by
 have ex:=hg .expr trivial;have at':= hg .atom trivial;have cl:=hg .call trivial;have pr:=hg .prod trivial;have sm:=hg .sum trivial;intro nt hn
 cases nt with
 | expr=>
   refine AllI.or (AllI.or ?_ ?_) (AllI.or ?_ (AllI.or ?_ (AllI.or ?_ (hg .cons trivial))))
   .exact AllI.skip fun _=>AllI.skip fun _=>AllI.skip fun _=>ex.bind fun a ha=>AllI.skip fun _=>ex.bind fun b hb=>AllI.pure (pb2 (bn2 yh) ha hb)
   .exact AllI.skip fun _=>AllI.skip fun _=>ex.bind fun a ha=>AllI.skip fun _=>ex.bind fun b hb=>AllI.pure (pb2 (bn1 yh) ha hb)
   .exact ex.bind fun a ha=>AllI.skip fun _=>ex.bind fun b hb=>AllI.skip fun _=>ex.bind fun c hc=>AllI.pure (pb3 (bn0 _) ha hb hc)
   .exact AllI.skip fun _=>AllI.skip fun _=>ex.bind fun a ha=>AllI.pure (pb1 (bn1 yh) ha)
   .exact ex.bind fun a ha=>AllI.skip fun _=>AllI.skip fun _=>AllI.skip fun _=>ex.bind fun b hb=>AllI.skip fun _=>AllI.skip fun _=>AllI.skip fun _=>AllI.skip fun _=>AllI.skip fun _=>ex.bind fun c hc=>AllI.pure (pb3 (bn2 yh) ha hb hc)
 |cons=>exact(hg .comp trivial).bind fun a ha=>AllI.or ((hg .cons trivial).bind fun b hb=>AllI.pure (pb2 (bn0 _) ha hb)) (AllI.pure ha)
 |comp=>exact sm.bind fun a ha=>AllI.or (sm.bind fun b hb=>AllI.pure (pb2 (bn0 _) ha hb)) (AllI.or (sm.bind fun b hb=>AllI.pure (pb2 (bn0 _) ha hb)) (AllI.pure ha))
 |sum=>exact pr.bind fun a ha=>hg (.sumL a) ha
 |prod=>exact cl.bind fun a ha=>hg (.prodL a) ha
 |sumL a=>exact AllI.or (pr.bind fun b hb=>hg (.sumL _) (pb2 (bn0 _) hn hb)) (AllI.or (pr.bind fun b hb=>hg (.sumL _) (pb2 (bn0 _) hn hb)) (AllI.pure hn))
 |prodL a=>exact AllI.or (cl.bind fun b hb=>hg (.prodL _) (pb2 (bn0 _) hn hb)) (AllI.pure hn)
 | call=>
   refine AllI.bind (P:=BareT) ?_ fun a ha=>hg (.callL a) ha
   exact AllI.or (at'.bind fun a ha=>AllI.pure (pb1 (bn0 _) ha)) (AllI.or (at'.bind fun a ha=>AllI.pure (pb1 (bn0 _) ha)) (AllI.or (at'.bind fun a ha=>AllI.pure (pb1 (bn0 _) ha)) (AllI.or (AllI.skip fun _=>at'.bind fun a ha=>AllI.pure (pb1 (bn1 yh) ha)) at')))
 | callL a=>
   intro i r hr;simp only[stepI,callLI]at hr;split at hr
   .exact(at'.bind fun b hb=>hg (.callL (mkT (nd0 7) [a,b])) (pb2 (bn0 _) hn hb)) i r hr
   .exact AllI.pure (show BareT a from hn) i r hr
 | atom=>
   intro i r hr;simp only[stepI,atomI]at hr;split at hr
   ·have hb:AllI BareT (brackI ws go):=AllI.or (AllI.pure (pb0 (bn0 _))) (ex.bind fun a ha=>AllI.or (ex.bind fun b hb=>AllI.skip fun _=>AllI.pure (pb2 (bn0 _) ha hb)) (AllI.skip fun _=>AllI.pure ha));have hw:∀w,AllI BareT (wordI ws go w):=fun w=>by
     unfold wordI;split
     .exact AllI.pure (pb0 bnI)
     split
     .exact AllI.pure (pb0 (bn1 yh))
     split
     .exact AllI.pure (pb0 bnB)
     split
     .exact AllI.pure (pb0 (bn0 _))
     split
     .exact AllI.pure (pb0 (bn0 _))
     split
     .exact hg (.hand 23) trivial
     split
     .exact hg (.hand 24) trivial
     .exact hb
    exact hw _ _ r hr
   .cases hr
 | hand k=>
   refine ex.bind fun a ha=>AllI.skip fun _=>AllI.skip fun _=>AllI.skip fun x=>AllI.skip fun _=>ex.bind fun b hb=>hg (.opsL k [a,mkT (nd1 25 x) [b]]) (show ∀t∈ [a,mkT (nd1 25 x) [b]],BareT t from fun t ht=>?_)
   simp only[List.mem_cons,List.not_mem_nil,or_false]at ht;rcases ht with rfl|rfl
   .exact ha
   .exact pb1 (bn1 yh) hb
 | opsL k ks=>
   refine AllI.or ?_ (AllI.skip fun _=>AllI.pure (mk_bare (bn0 _) _ hn));refine AllI.skip fun _=>AllI.skip fun _=>AllI.skip fun _=>AllI.skip fun _=>ex.bind fun e he=>hg (.opsL k _) (fun t ht=>?_)
   rw[List.mem_append,List.mem_singleton]at ht;rcases ht with ht|rfl
   .exact hn t ht
   .exact pb1 (bn3 yh) he
theorem read_bare:∀(f:Nat) (nt:Nt Tr),NtBare nt->AllI BareT (ipz ws f nt)
 |0,_,_=>fun i r hr=>by cases hr
 |f+1,nt,hn=>step_bare (fun nt hn=>read_bare f nt hn) nt hn
theorem whole_bare {r:(List Ef×Tr)×Nat}(h:wholeI ws=.ok r):BareT r.1.2:=by
 have hA:AllI (fun x:List Ef×Tr=>BareT x.2) (bindI (effsI ws (ws.length+1) []) (fun es=>bindI (ipz ws (16*ws.length+11) .expr) (fun t=>pureI (es,t)))):=
  AllI.skip fun es=>(read_bare _ .expr trivial).bind fun t ht=>AllI.pure ht
 exact hA 0 r h
end
end
end Go.Proofs.YtfbojelpdccjaaaGreatDoor
