/- At every bytes the promise on brackets holds: of a drawn program's text, within the limit, no bracket is needless but those of pairs and of unit; the card. -/
import Derived.Test.YtfbojelpdccjaaaGreatDoorRows
import Derived.ProofKit
import Derived.WalkKit
import Derived.LaidMore
import Derived.OpenShut
import Derived.Lib.LaidTab
import Derived.Test.YtfbojelpdccjaaaGreatDoorCards
import Derived.Test.YtfbojelpdccjaaaGreatDoorTie
import Derived.Deep.DeepHandedRow
import Derived.JoinedCond
import Derived.ChangeVars
import Derived.Test.YtfbojelpdccjaaaGreatDoorPkB47
set_option maxRecDepth 100000
namespace Go.Proofs.YtfbojelpdccjaaaGreatDoor.fnRailBrackets
open Go.ChangeShapes Go.WideShapes Go.ChangeAt Go.RowKit
variable {v : Value} {W : World}
open Go.ChangeShapes Go.WideShapes Go.ChangeAt Go.RowKit
theorem own : ownKnob Tryz.prog.godebug=none:=by kernel_rfl
theorem laidOut : laidOutB Tryz.prog=true:=by kernel_rfl
theorem tPows : (Tryz.prog.globals[3]?).map (·.type)=some 223:=by kernel_rfl
theorem cPows : Tryz.prog.cellsOf 223=20:=by kernel_rfl
theorem cUint : Tryz.prog.cellsOf 206=1:=by kernel_rfl
theorem pows_data : (Rows.laid_internal_strconv_uint64pow10 : DataW Unit)=Lib.tabData .u64 Lib.pow10Tab:=by kernel_rfl
theorem of_laid (h : laidMetH Tryz.prog Rows.fnRailBracketsRow.laid W) : Laid W:=by
 rw [MakeChecks.laidMetH_plain _ _ _ (by kernel_rfl)] at h;obtain⟨ps,⟨g0,t0,cs0,f0,p0,q0,hg0,ht0,hv0,hd0,⟨g1,t1,cs1,f1,p1,q1,hg1,ht1,hv1,hd1,⟨g2,t2,cs2,f2,p2,q2,hg2,ht2,hv2,hd2,_⟩,_⟩,_⟩,_⟩:=h;obtain rfl:=Option.some.inj (gPows.symm.trans hg2);obtain rfl:=Option.some.inj (tPows.symm.trans ht2);refine⟨?_⟩;rw [pows_data] at hd2;have:=Lib.cells_of_tab Tryz.underlying223 Tryz.underlying206 cUint cPows hd2;unfold Lib.TabIs;rw [hv2,← this]
theorem spot_none {a : Addr} (h : W.cell? a=some v) : a.spot=none:=by
 unfold World.cell? at h;split at h
 ·by_cases hs : a.spot.isSome
  ·simp [hs] at h
  ·simpa using hs
 ·cases h
theorem block_lt {a : Addr} (h : W.cell? a=some v) : a.block < W.heap.size:=by
 unfold World.cell? at h;split at h
 ·rename_i e;obtain⟨hlt,_⟩:=Array.getElem?_eq_some_iff.mp e;exact hlt
 ·cases h
theorem cells_u8 : Tryz.prog.cellsOf 5=1:=by kernel_rfl
theorem open_bytes {H : Type} {enc : TypeId×Value→H} {sp : Nat→Bool} {held : Bool} {fuel : Nat} {x : DataW H×List MemPlace}
 (h : DataW.trod enc Tryz.prog W 0 sp held fuel 22 [v]=some x) :
 ∃ a0 len cap,v= .slice a0 len cap∧len≤cap∧len≤maxLen∧BytesAt W a0 len:=by
 rcases open_ints Tryz.underlying22 Tryz.underlying5 cells_u8 h with ⟨hc,_⟩ | ⟨a,len,cap,zs,hc,_,hl,hm,hz,_,hcell,hwf⟩
 ·simp at hc;subst hc;exact⟨none,0,0,rfl,Nat.le_refl _,Nat.zero_le _,fun h=>absurd h (by omega)⟩
 ·simp at hc;subst hc;have hlm : len≤zs.length:=by rw [hz]; split <;> omega
  refine⟨some a,len,cap,rfl,hl,by omega,fun h0=>?_⟩;have hc0:=hcell 0 (by omega);have hs:=spot_none hc0;have hb:=block_lt hc0;obtain⟨b,off,spot⟩:=a;have hspot : spot=none:=by simpa [Addr.add] using hs
  subst hspot;refine⟨b,off,rfl,by simpa [Addr.add] using hb,fun i hi=>?_⟩;have hci:=hcell i (by omega);have e : (Addr.add ⟨b,off,none⟩ i)=⟨b,off+i,none⟩:=by
   unfold Addr.add;split
   ·rename_i h;subst h;rfl
   ·rfl
  rw [e] at hci;have hin : zs.getD i 0∈zs:=by
   rw [List.getD,List.getElem?_eq_getElem (show i < zs.length by omega)];exact List.getElem_mem _
  have hw:=hwf _ hin;simp only [Lit.wf,Bool.and_eq_true,decide_eq_true_eq] at hw;exact⟨_,hci,hw.1,hw.2⟩
theorem contract (H : Type) (enc : TypeId×Value→H) (W : World) (base : Nat) (args : Array Value) (ds gs : List (DataW H)) (before : List MemPlace)
 (hval0 : ∀ (j : Nat) t v,Tryz.f4.params[j]? =some t→args[j]? =some v→Value.okWide Tryz.prog W .any base t v)
 (hW : DataW.Whole enc Tryz.prog Tryz.f4.params.toList Rows.fnRailBracketsSpec.vars false W args.toList ds gs before) (hL : laidMetH Tryz.prog Rows.fnRailBracketsRow.laid W) :
 Calls Tryz.prog 4 args W fun e W'=> ∃ v,e= .returned v∧Rows.fnRailBracketsSpec.post enc Tryz.prog Tryz.f4 false true false false W args v W':= by
 have hval : ∀ (j : Nat) t v,Tryz.f4.params[j]? =some t→args[j]? =some v→Value.okWide Tryz.prog W .any base t v:=hval0;have hW':= hW;obtain⟨p,q,hA0,hV0,rfl,hfz,hnd⟩:=hW;have hA : DataW.TrodAll enc Tryz.prog W 0 (fun _=>true) true Tryz.f4.params.toList args.toList ds p:=hA0;rw [Tryz.params4] at hA hval;obtain⟨v0,vs0,d0,ds0,p0,q0,hargs,rfl,rfl,h0,r0⟩:=trodAll_cons hA;obtain⟨rfl,rfl,rfl⟩:=trodAll_nil r0;obtain rfl : args= #[v0]:=by cases args; simp_all
 obtain⟨rfl,rfl⟩:=trodVars_none hV0;have hLa:=of_laid hL;clear hA0 hval0;simp only [List.append_nil] at hW';have hlt : ∀ y∈p0,y.block < W.heap.size:=fun y hy=>hW'.lt y (by simp [hy])
 have h0k:=h0;obtain⟨fuel0,hf⟩:=h0;obtain⟨a1,len1,cap1,rfl⟩:=okWide_slice Tryz.underlying22 (hval 0 22 v0 rfl rfl);obtain⟨a0,len,cap,hv,hl,-,hB⟩:=open_bytes (by simpa [Value.cells] using hf)
 cases hv;refine (rbr_walk _ _ _ W hl hB hLa).mono fun e W' ⟨he,hgr⟩=>?_
 subst he;refine⟨_,rfl,_,_,_,[],p0,[],hW',?_,?_,rfl,hgr.frame _,fun h=>by cases h⟩
 ·exact trodAll_cons_mk (shut_bool Tryz.underlying4 _) trodAll_mk0
 ·exact trodAll_mk1 (Below.trod laidOut (by kernel_rfl) (of_decide_eq_true (by kernel_rfl)) h0k hgr hlt)
theorem laid_met (os : Os) : laidMet Tryz.prog Rows.fnRailBracketsRow.laid ((World.doorLaid Tryz.prog 400 os).forCall (fun _ _=>0) ⟨#[],#[.slice none 0 0],[]⟩).memory:=
 laidMet_of_run' 8 (by kernel_rfl) (by kernel_rfl)
theorem lifted (os : Os) (started : os.Started) (H : Type) (enc : TypeId×Value→H) (F : Stop.Interp) :
 ReturnsInHanded {} Tryz.checked os 4 .any ((OpenSpec.ofChange Rows.fnRailBracketsSpec).preRow enc Tryz.prog Tryz.f4 Rows.fnRailBracketsRow.domain false Rows.fnRailBracketsRow.laid) (((OpenSpec.ofChange Rows.fnRailBracketsSpec).at F).post enc Tryz.prog Tryz.f4 false true false false):=by
 refine returnsInHanded_of_row (C:=Tryz.checked) (s:=OpenSpec.ofChange Rows.fnRailBracketsSpec) own started (by kernel_rfl) Tryz.func4
  (witness_row_at (enc:=enc) (C:=Tryz.checked) false (World.doorLaid Tryz.prog 400 os) #[.slice none 0 0] rfl (by kernel_rfl) (by kernel_rfl) (by kernel_rfl)
   (OpenSpec.preRow_of_cond 8 (show DataW.whole enc Tryz.prog ((World.doorLaid Tryz.prog 400 os).forCall (fun _ _=>0) ⟨#[],#[.slice none 0 0],[]⟩).memory Tryz.f4.params.toList Rows.fnRailBracketsSpec.vars false #[.slice none 0 0].toList 8=some ([.nil],[],[]) by kernel_rfl) (by kernel_rfl) (fun k hk=>by cases hk) (by kernel_rfl) (laid_met os))) ?_
 intro W base args ds gs before hval hW _ _ _ hL _ _;exact contract H enc W base args ds gs before hval hW hL
theorem said : Rows.FnRailBracketsSaid:=
 OpenClaim.holds_of_cond 4 Tryz.f4 rfl rfl rfl rfl rfl rfl rfl ⟨rfl,rfl,rfl,rfl,rfl⟩ rfl rfl rfl rfl rfl (by kernel_rfl) Tryz.func4 (by kernel_rfl)
  (of_decide_eq_true (by kernel_rfl)) (by unfold Func.isWrapper; first | (rw [if_pos (by decide+kernel)]; kernel_rfl) | (rw [if_neg (by decide+kernel)]; exact⟨rfl,rfl⟩))
  (fun os started H enc _ F=>by rw [OpenClaim.pre_eq_preRow]; exact lifted os started H enc F)
theorem plain (f : FuncId) (fn : Func) (hf : Tryz.pinned.checked.prog.funcNamed "loop.example/handrail/laws.FnRailBrackets" =some f) (hfn : Tryz.pinned.checked.prog.funcs[f]? =some fn) :
 true=Tryz.pinned.checked.prog.looks []∧ ∀ (j : Nat) t,fn.params[j]? =some t→Tryz.pinned.checked.prog.wantsStandIn t=false:=by
 obtain rfl : f=4:=Option.some.inj ((show Tryz.prog.funcNamed "loop.example/handrail/laws.FnRailBrackets" =some 4 by kernel_rfl).symm.trans hf) |>.symm;obtain rfl : fn=Tryz.f4:=(Option.some.inj (Tryz.func4.symm.trans hfn)).symm;refine⟨by kernel_rfl,fun j t ht=>?_⟩;rw [Tryz.params4] at ht;obtain rfl : t=22:=by simpa using Array.mem_of_getElem? ht
 exact (show Tryz.prog.wantsStandIn 22=false by kernel_rfl)
theorem proved : Rows.FnRailBracketsCardSaid:=
 Claim7.holds_tied_plain_at .later [] _ _ _ _ said (fun _ h=>by cases h) (by kernel_rfl) (fun _ h=>by cases h) fnRailBrackets_row_tie rfl ⟨rfl,rfl⟩ (by kernel_rfl) rfl plain (by kernel_rfl)
#print axioms proved
end Go.Proofs.YtfbojelpdccjaaaGreatDoor.fnRailBrackets
