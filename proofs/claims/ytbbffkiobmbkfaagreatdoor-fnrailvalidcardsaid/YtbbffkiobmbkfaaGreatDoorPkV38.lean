/- At every bytes the promise on code holds: the code that is made of a drawn program is the same on both sides, is there just where the program is right and all its names are known, is valid, and is read from its bytes; the card. -/
import Derived.Test.YtbbffkiobmbkfaaGreatDoorCards
import Derived.Test.YtbbffkiobmbkfaaGreatDoorTie
import Derived.Deep.DeepHandedRow
import Derived.Test.YtbbffkiobmbkfaaGreatDoorPkV37
open Go.Proofs.Tryz
open Go.Value Go.IntKind
set_option maxRecDepth 100000
namespace Go.Proofs.YtbbffkiobmbkfaaGreatDoor.fnRailValid
open Go.ChangeShapes Go.WideShapes Go.ChangeAt Go.RowKit
variable {v:Value}{W:World}
open Go.ChangeShapes Go.WideShapes Go.ChangeAt Go.RowKit
theorem own:ownKnob prog.godebug=none:=ye
theorem laidOut:laidOutB prog=true:=ye
theorem tPows:(prog.globals[1]?).map (·.type)=some 293:=ye
theorem cPows:prog.cellsOf 293=20:=ye
theorem cUint:prog.cellsOf 234=1:=ye
theorem pows_data:(Rows.laid_internal_strconv_uint64pow10:DataW Unit)=Lib.tabData .u64 Lib.pow10Tab:=ye
theorem of_laid (h:laidMetH prog Rows.fnRailValidRow.laid W):Laid W/\LaidE W:=by
 have h2:laidMet prog [("math/bits.deBruijn32tab",Rows.laid_math_bits_deBruijn32tab),("math/bits.deBruijn64tab",Rows.laid_math_bits_deBruijn64tab),("internal/strconv.uint64pow10",Rows.laid_internal_strconv_uint64pow10)] W/\handlesMet prog [("errors.errorType",Rows.laid_errors_errorType)] W:=h;have h3:laidMet prog [] W/\handlesMet prog [("errors.errorType",Rows.laid_errors_errorType)] W:=⟨laidMet_nil _ _,h2.2⟩
 refine⟨?_,of_laidE h3⟩;obtain⟨ps,⟨g0,t0,cs0,f0,p0,q0,hg0,ht0,hv0,hd0,⟨g1,t1,cs1,f1,p1,q1,hg1,ht1,hv1,hd1,⟨g2,t2,cs2,f2,p2,q2,hg2,ht2,hv2,hd2,_⟩,_⟩,_⟩,_⟩:=h2.1;obtain rfl:=Option.some.inj (gPows.symm.trans hg2);obtain rfl:=Option.some.inj (tPows.symm.trans ht2);refine⟨?_⟩;rw[pows_data]at hd2;have:=Lib.cells_of_tab underlying293 underlying234 cUint cPows hd2;unfold Lib.TabIs;rw[hv2,<-this]
theorem spot_none {a:Addr}(h:W.cell? a=some v):a.spot=none:=by
 unfold World.cell? at h;split at h
 .by_cases hs:a.spot.isSome
  .simp[hs]at h
  .simpa using hs
 .cases h
theorem block_lt {a:Addr}(h:W.cell? a=some v):a.block<W.heap.size:=by
 unfold World.cell? at h;split at h
 .rename_i e;obtain⟨hlt,_⟩:=Array.getElem?_eq_some_iff.mp e;exact hlt
 .cases h
theorem cells_u8:prog.cellsOf 5=1:=ye
theorem open_bytes {H:Type}{enc:TypeId×Value->H}{sp:Nat->Bool}{held:Bool}{fuel:Nat}{x:DataW H×List MemPlace}
 (h:DataW.trod enc prog W 0 sp held fuel 22 [v]=some x) :
 ∃a0 len cap,v=.slice a0 len cap/\len<=cap/\len<=maxLen/\BytesAt W a0 len:=by
 rcases open_ints underlying22 underlying5 cells_u8 h with ⟨hc,_⟩|⟨a,len,cap,zs,hc,_,hl,hm,hz,_,hcell,hwf⟩
 .simp at hc;subst hc;exact⟨none,0,0,rfl,La,Li _,fun h=>absurd h ya⟩
 .simp at hc;subst hc;have hlm:len<=zs.length:=by rw[hz];split<;>omega
  refine⟨some a,len,cap,rfl,hl,ya,fun h0=>?_⟩;have hc0:=hcell 0 ya;have hs:=spot_none hc0;have hb:=block_lt hc0;obtain⟨b,off,spot⟩:=a;have hspot:spot=none:=by simpa[Addr.add]using hs
  subst hspot;refine⟨b,off,rfl,by simpa[Addr.add]using hb,fun i hi=>?_⟩;have hci:=hcell i ya;have e:(Addr.add ⟨b,off,none⟩ i)=⟨b,off+i,none⟩:=by
   unfold Addr.add;split
   .rename_i h;subst h;rfl
   .rfl
  rw[e]at hci;have hin:zs.getD i 0∈zs:=by
   rw[List.getD,Lr (show i<zs.length by omega)];exact List.getElem_mem _
  have hw:=hwf _ hin;simp only[Lit.wf,Lq,decide_eq_true_eq]at hw;exact⟨_,hci,hw.1,hw.2⟩
theorem contract (H:Type) (enc:TypeId×Value->H) (W:World) (base:Nat) (args:Array Value) (ds gs:List (DataW H)) (before:List MemPlace)
 (hval0:∀(j:Nat) t v,Tryz.f3.params[j]?=some t->args[j]?=some v->Value.okWide prog W .any base t v)
 (hW:DataW.Whole enc prog Tryz.f3.params.toList Rows.fnRailValidSpec.vars false W args.toList ds gs before) (hL:laidMetH prog Rows.fnRailValidRow.laid W) :
 Calls prog 3 args W fun e W'=> ∃v,e=.returned v/\Rows.fnRailValidSpec.post enc prog Tryz.f3 false true false false W args v W':= by
 have hval:∀(j:Nat) t v,Tryz.f3.params[j]?=some t->args[j]?=some v->Value.okWide prog W .any base t v:=hval0;have hW':= hW;obtain⟨p,q,hA0,hV0,rfl,hfz,hnd⟩:=hW;have hA:DataW.TrodAll enc prog W 0 (fun _=>true) true Tryz.f3.params.toList args.toList ds p:=hA0;rw[params3]at hA hval;obtain⟨v0,vs0,d0,ds0,p0,q0,hargs,rfl,rfl,h0,r0⟩:=trodAll_cons hA;obtain⟨rfl,rfl,rfl⟩:=trodAll_nil r0;obtain rfl:args= #[v0]:=by cases args;simp_all
 obtain⟨rfl,rfl⟩:=trodVars_none hV0;have hLa:=of_laid hL;clear hA0 hval0;simp only[List.append_nil]at hW';have hlt:∀y∈p0,y.block<W.heap.size:=fun y hy=>hW'.lt y (by simp[hy])
 have h0k:=h0;obtain⟨fuel0,hf⟩:=h0;obtain⟨a1,len1,cap1,rfl⟩:=okWide_slice underlying22 (hval 0 22 v0 rfl rfl);obtain⟨a0,len,cap,hv,hl,-,hB⟩:=open_bytes (by simpa[Value.cells]using hf)
 cases hv;refine(valid_walk _ _ _ W hl hB hLa.1 hLa.2).mono fun e W' ⟨he,hgr⟩=>?_
 subst he;refine⟨_,rfl,_,_,_,[],p0,[],hW',?_,?_,rfl,hgr.frame _,fun h=>ycb⟩
 .exact trodAll_cons_mk (shut_bool underlying4 _) trodAll_mk0
 .exact trodAll_mk1 (Below.trod laidOut ye (of_decide_eq_true ye) h0k hgr hlt)
theorem laid_met (os:Os):laidMetH prog Rows.fnRailValidRow.laid ((World.doorLaid prog 400 os).forCall (fun _ _=>0) ⟨#[],#[.slice none 0 0],[]⟩).memory:=
 laidMetH_of_parts (laidMet_of_run' 8 ye ye) ye
theorem lifted (os:Os) (started:os.Started) (H:Type) (enc:TypeId×Value->H) (F:Stop.Interp) :
 ReturnsInHanded {} Tryz.checked os 3 .any ((OpenSpec.ofChange Rows.fnRailValidSpec).preRow enc prog Tryz.f3 Rows.fnRailValidRow.domain false Rows.fnRailValidRow.laid) (((OpenSpec.ofChange Rows.fnRailValidSpec).at F).post enc prog Tryz.f3 false true false false):=by
 refine returnsInHanded_of_row (C:=Tryz.checked) (s:=OpenSpec.ofChange Rows.fnRailValidSpec) own started ye func3
  (witness_row_at (enc:=enc) (C:=Tryz.checked) false (World.doorLaid prog 400 os) #[.slice none 0 0] rfl ye ye ye
   (OpenSpec.preRow_of_cond 8 (show DataW.whole enc prog ((World.doorLaid prog 400 os).forCall (fun _ _=>0) ⟨#[],#[.slice none 0 0],[]⟩).memory Tryz.f3.params.toList Rows.fnRailValidSpec.vars false #[.slice none 0 0].toList 8=some ([.nil],[],[]) by kernel_rfl) ye (fun k hk=>by cases hk) ye (laid_met os))) ?_
 intro W base args ds gs before hval hW _ _ _ hL _ _;exact contract H enc W base args ds gs before hval hW hL
theorem said:Rows.FnRailValidSaid:=
 OpenClaim.holds_of_cond 3 Tryz.f3 rfl rfl rfl rfl rfl rfl rfl ⟨rfl,rfl,rfl,rfl,rfl⟩ rfl rfl rfl rfl rfl ye func3 ye
  (of_decide_eq_true ye) (by unfold Func.isWrapper;first|(rw[if_pos (by decide+kernel)];kernel_rfl)|(rw[if_neg (by decide+kernel)];exact⟨rfl,rfl⟩))
  (fun os started H enc _ F=>by rw[OpenClaim.pre_eq_preRow];exact lifted os started H enc F)
theorem plain (f:FuncId) (fn:Func) (hf:Tryz.pinned.checked.prog.funcNamed "loop.example/handrail/laws.FnRailValid" =some f) (hfn:Tryz.pinned.checked.prog.funcs[f]?=some fn) :
 true=Tryz.pinned.checked.prog.looks []/\ ∀(j:Nat) t,fn.params[j]?=some t->Tryz.pinned.checked.prog.wantsStandIn t=false:=by
 obtain rfl:f=3:=Option.some.inj ((show prog.funcNamed "loop.example/handrail/laws.FnRailValid" =some 3 by kernel_rfl).symm.trans hf) |>.symm;obtain rfl:fn=Tryz.f3:=(Option.some.inj (func3.symm.trans hfn)).symm;refine⟨ye,fun j t ht=>?_⟩;rw[params3]at ht;obtain rfl:t=22:=by simpa using Array.mem_of_getElem? ht
 exact(show prog.wantsStandIn 22=false by kernel_rfl)
theorem proved:Rows.FnRailValidCardSaid:=
 Claim7.holds_tied_plain_at .later [] _ _ _ _ said (fun _ h=>ycb) ye (fun _ h=>ycb) fnRailValid_row_tie rfl ⟨rfl,rfl⟩ ye rfl plain ye
#print axioms proved
end Go.Proofs.YtbbffkiobmbkfaaGreatDoor.fnRailValid
