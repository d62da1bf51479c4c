import Derived.Shelf.Strings.BuilderK
import Derived.Test.YtfbojelpdccjaaaGreatDoorPkBS
import Derived.Test.YtfbojelpdccjaaaGreatDoorPkB6
import Derived.Lib.SmallJoins
import Derived.Test.YtfbojelpdccjaaaGreatDoorPkB9
import Derived.Test.YtfbojelpdccjaaaGreatDoorPkB10
set_option maxHeartbeats 4000000
set_option maxRecDepth 100000
namespace Go.Proofs.YtfbojelpdccjaaaGreatDoor
open Go.RowKit
variable {us : List Value} {B : Nat} {v : Value} {W : World}
section
open Go.RowKit
theorem size_builder : (Tryz.prog.info? 43).map (·.size)=some 2:=by kernel_rfl
theorem lies_builder : liesAt Tryz.prog Tryz.prog.depth 43 (2 / Tryz.prog.cellsOf 43) 0 43 1=true:=by kernel_rfl
theorem info_u8 : (Tryz.prog.info? 5).map (fun i=>(i.zero,i.size,i.bytes))=some (some (.int .u8 0),1,1):=by kernel_rfl
theorem copyCheck_calls (B b : Nat) (bs : List Value) (w : World) (h : Lib.IsBuilderF 43 5 B b bs w) :
 Calls Tryz.prog 43 #[.pointer (some ⟨b,0,none⟩)] w fun e w'=> e= .returned (.tuple #[])∧Lib.BuilderAtF 43 5 B b (.pointer (some ⟨b,0,none⟩)) bs w'∧Below B w w'∧Lib.OthersKept 5 (some b) w w':= by
 obtain⟨j,hj,hjs⟩:=Option.map_eq_some_iff.1 size_builder;rcases h with h | h
 ·have hc:=h.cell0;have hsh:=h.shape;have hz:=h.frozen0;go_enter Tryz.func43,Tryz.ntmps43
  go_wp2
  rw [Lib.run_to_unsafe w ⟨b,0,none⟩ Tryz.underlying41 Tryz.underlying119 hj (by rw [hjs]; decide) hsh (Nat.zero_lt_succ 1)];simp only [Result.andThen];rw [Oper.upon_value];go_wp2
  rw [run_callFunc_extern Tryz.func80 (by kernel_rfl) (by kernel_rfl) (by kernel_rfl) (e:=Extern.AbiNoEscape.same) (by kernel_rfl)];rw [Lib.run_noEscape];simp only [Result.andThen];rw [Oper.upon_value];go_wp2
  rw [Lib.run_from_unsafe w ⟨b,0,none⟩ Tryz.underlying119 Tryz.underlying41 hj hsh lies_builder];simp only [Result.andThen];rw [Oper.upon_value];go_wp2
  go_end0
  exact⟨rfl,h.used _,(Below.refl B w).setCell (p:=⟨b,0,none⟩) h.1 _,(Lib.OthersKept.refl _ _ w).setCell ⟨b,0,none⟩ rfl _⟩
 ·have hc:=h.cell0;go_enter Tryz.func43,Tryz.ntmps43
  go_wp2
  rw [Lib.run_neq_ptr_same w _ Tryz.underlying41 hj];go_wp2
  go_end0
  exact⟨rfl,h,Below.refl B _,Lib.OthersKept.refl _ _ _⟩
theorem writeString_calls (B b : Nat) (bs : List Value) (s : ByteArray) (w : World) (h : Lib.IsBuilderF 43 5 B b bs w) (hlen : bs.length+s.size≤1000000) (hBw : B≤w.heap.size) :
 Calls Tryz.prog 17 #[.pointer (some ⟨b,0,none⟩),.string s] w fun e w'=> e= .returned (.tuple #[.int .i64 s.size,.nilIface])∧Lib.IsBuilderF 43 5 B b (bs++Lib.strCells s) w'∧Below B w w'∧Lib.OthersKept 5 (some b) w w':= by
 obtain⟨i0,hi,hz0,hz1,hz2⟩:=info_parts info_u8;have HL : Hid (bs.length+s.size≤1000000):=hlen;clear hlen;go_enter Tryz.func17,Tryz.ntmps17
 go_wp2_with fail
 refine (copyCheck_calls B b bs _ h).mono ?_;rintro e w1 ⟨rfl,h1,hb1,hk1⟩;obtain⟨hB,v,hbk,hown,hne⟩:=h1;obtain⟨c0,c1⟩:=fcl2 hbk;have hlt:=z13 hbk;have hsz:=hb1.size;go_wp2_with (first
  | (at_builtin; refine Lib.wpList_append_own_stringF _ rfl _ _ 22 9 rfl B 5 i0 Tryz.underlying22 Tryz.underlying9 hi hz0 hz1 hz2 _ _ _ rfl hown s rfl (by have:=HL.out; unfold maxLen; omega) (by have:=HL.out; omega) (by omega) ?_
     intro v' w2 hown' hgrow _;have hb2 : w2.heap[b]? =some (.cells #[.pointer (some ⟨b,0,none⟩),v] 43 (0,0)):=(hgrow.block b hlt (fun e=>hne e.symm)).trans hbk;have d0:=z8 hb2 0;have d1:=z8 hb2 1;have f1:=z12 hb2 1;simp at d0 d1;obtain⟨ao,n',cap,rfl⟩ : ∃ ao n' cap,v'= .slice ao n' cap:=by
      rcases hown'.2 with ⟨hv,_⟩ | ⟨g,cap,cur,fz,hv,_⟩
      ·exact⟨_,_,_,hv⟩
      ·exact⟨_,_,_,hv⟩))
 go_ret2
 refine⟨rfl,Or.inr ?_,?_,(hk1.grown hgrow (Lib.ownsRowF_kind hown)).setCell ⟨b,1,none⟩ rfl _⟩
 ·exact Lib.BuilderAtF.put hB hb2 (bs':= bs++Lib.strCells s) (by simpa [Lib.strCells_length] using hown') (by decide)
 ·exact (hb1.grown hgrow (by omega) (fun k hk=>(hown.lt k hk).1)).setCell (p:=⟨b,1,none⟩) hB _
structure Laid (w : World) : Prop where
 pows : Lib.TabIs Tryz.prog w "internal/strconv.uint64pow10" .u64 Lib.pow10Tab
theorem gPows : Tryz.prog.globalNamed "internal/strconv.uint64pow10" =some 3:=by kernel_rfl
theorem Laid.stays {w w' : World} (h : Laid w) (hb : Below w.heap.size w w') : Laid w':=
 ⟨Joins.var_stays gPows h.pows hb (Nat.le_refl _)⟩
theorem grow_below (w : World) (k : Nat) (os : Array Obj) : Below w.heap.size w (Go.Sort.grow (w.drewN k) os):=
 ⟨rfl,rfl,rfl,by rw [Go.Sort.size_grow]; exact Nat.le_add_right _ _,fun j hj=>by rw [Go.Sort.heap_grow_old (w.drewN k) os hj]; rfl⟩
theorem itoa_any (n : Int) (w : World) (hn : Long n) (hL : Laid w) :
 Calls Tryz.prog 168 #[.int .i64 n] w (BareP w (Lib.itoa n)):=by
 unfold Long at hn;refine (Tryz.strconv_Itoa n hn.1 hn.2 w hL.pows).mono ?_;rintro e w' ⟨rfl,k,os,rfl⟩;exact⟨rfl,grow_below w k os⟩
theorem builder_kept {T e : TypeId} {b : Nat} {bs : List Value} {w w' : World} (h : Lib.IsBuilderF T e B b bs w) (hb : Below w.heap.size w w') : Lib.IsBuilderF T e B b bs w':= by
 have one : ∀ p,Lib.BuilderAtF T e B b p bs w→Lib.BuilderAtF T e B b p bs w':= by
  rintro p ⟨hB,v,hbk,hown,hne⟩;exact⟨hB,v,(hb.block b (z13 hbk)).trans hbk,hown.kept (kept_of_below hb none) (by cases hv : v.ownBlock <;> simp),hne⟩
 exact h.imp (one _) (one _)
theorem builder_new (B : Nat) (w : World) (hB : B≤w.heap.size) : Lib.IsBuilderF 43 5 B w.heap.size [] (w.alloc (.cells #[.pointer none,.slice none 0 0] 43)):=
 Or.inl ⟨hB,_,(MapKept.heap_alloc w _).1,World.ownsRowF_nil _ _ _ _,by simp [Value.ownBlock]⟩
theorem put_calls (B bb : Nat) (l m : List UInt8) (w : World) (h : Lib.IsBuilderF 43 5 B bb (Lib.byteCells l) w) (hl : l.length+m.length≤1000000) (hB : B≤w.heap.size) :
 Calls Tryz.prog 17 #[.pointer (some ⟨bb,0,none⟩),.string (tx m)] w fun e w'=> e= .returned (.tuple #[.int .i64 m.length,.nilIface])∧Lib.IsBuilderF 43 5 B bb (Lib.byteCells (l++m)) w'∧Below B w w'∧Lib.OthersKept 5 (some bb) w w':= by
 refine (writeString_calls B bb (Lib.byteCells l) (tx m) w h (by rw [Lib.byteCells_length,z26]; exact hl) hB).mono ?_;rintro e w' ⟨rfl,h1,h2,h3⟩;refine⟨by rw [z26],?_,h2,h3⟩;rw [Lib.byteCells_append];exact h1
end
section
open Go.RowKit Go.Deep
theorem text_int (num : Int) (hn : Long num) (w : World) (hL : Laid w) : Calls Tryz.prog 207 #[.agg #[.int .i64 num]] w (BareP w (Lib.itoa num)):=by
 have hb:=(Below.refl w.heap.size w).alloc (Nat.le_refl _) (.cells #[.int .i64 num] 152);have HB:=hid hb;have HI:=hid (itoa_any num (w.alloc (.cells #[.int .i64 num] 152)) hn (hL.stays hb));clear hb hL hn;obtain⟨T,hT⟩ : ∃ T,Lib.itoa num=T:=⟨_,rfl⟩
 rw [hT] at HI ⊢;clear hT;go_enter Tryz.func207,Tryz.ntmps207
 go_wp2_with fail
 refine HI.out.mono ?_;rintro e w1 ⟨rfl,hb1⟩;have HB1:=hid (HB.out.trans (hb1.mono HB.out.size));clear hb1;go_wp2_with fail
 go_ret;exact⟨rfl,HB1.out⟩
theorem formatBool_calls (b : Bool) (w : World) : Calls Tryz.prog 210 #[.bool b] w (BareP w (if b then [116,114,117,101] else [102,97,108,115,101])):=by
 have h (b : Bool) (w : World) : Calls Tryz.prog 211 #[.bool b] w (BareP w (if b then [116,114,117,101] else [102,97,108,115,101])):=by
  cases b;all_goals
   go_enter Tryz.func211,Tryz.ntmps211
   go_wp2_with fail
   go_ret;exact⟨rfl,by repeat (first | exact Below.refl _ _ | refine Below.alloc ?_ (by first | (simp; done) | (simp; omega)) _)⟩
 have HI:=hid h;clear h
 cases b;all_goals
  go_enter Tryz.func210,Tryz.ntmps210
  go_wp2_with fail
  refine (HI.out _ w).mono ?_;rintro e w1 ⟨rfl,hb1⟩;go_wp2_with fail
  go_ret;exact⟨rfl,hb1⟩
theorem text_bool (num : Int) (hn : num=0∨num=1) (w : World) : Calls Tryz.prog 209 #[.agg #[.int .i64 num]] w (BareP w (if num=0 then [102,97,108,115,101] else [116,114,117,101])):=by
 have hb:=(Below.refl w.heap.size w).alloc (Nat.le_refl _) (.cells #[.int .i64 num] 153);have HB:=hid hb;have HF:=hid (fun b=>formatBool_calls b (w.alloc (.cells #[.int .i64 num] 153)));clear hb;rcases hn with rfl | rfl
 ·go_enter Tryz.func209,Tryz.ntmps209
  go_wp2_with fail
  refine (HF.out false).mono ?_;rintro e w1 ⟨rfl,hb1⟩;have HB1:=hid (HB.out.trans (hb1.mono HB.out.size));clear hb1;go_wp2_with fail
  go_ret;exact⟨rfl,HB1.out⟩
 ·go_enter Tryz.func209,Tryz.ntmps209
  go_wp2_with fail
  refine (HF.out true).mono ?_;rintro e w1 ⟨rfl,hb1⟩;have HB1:=hid (HB.out.trans (hb1.mono HB.out.size));clear hb1;go_wp2_with fail
  go_ret;exact⟨rfl,HB1.out⟩
theorem text_nil (w : World) : Calls Tryz.prog 215 #[.agg #[]] w (BareP w [110,105,108]):=by
 go_enter Tryz.func215,Tryz.ntmps215
 go_wp2_with fail
 go_ret;exact⟨rfl,by repeat (first | exact Below.refl _ _ | refine Below.alloc ?_ (by first | (simp; done) | (simp; omega)) _)⟩
def tailT (Ts : List (List UInt8)) (j : Nat) : List UInt8:=(Ts.take j).flatMap (fun T=>32::T)
theorem tailT_next {Ts : List (List UInt8)} {j : Nat} (h : j < Ts.length) : tailT Ts (j+1)=tailT Ts j++(32::Ts.getD j []):=by
 unfold tailT;rw [List.take_add_one,List.flatMap_append];simp [List.getD,h]
theorem tailT_le {Ts : List (List UInt8)} : ∀ j : Nat,(tailT Ts j).length≤(Ts.flatMap (fun T=>32::T)).length:=fun j=>by
 unfold tailT;have:=congrArg List.length (List.flatMap_append (xs:=Ts.take j) (ys:=Ts.drop j) (f:=fun T : List UInt8=>32::T));rw [List.take_append_drop,List.length_append] at this;omega
theorem text_handler {k : Int} (hk : k=23∨k=24) {u sl : Value} {T0 : List UInt8} (ht : TextOf W u T0) (hs : RowAt 0 W sl us) (hu : us.length≤5) (Ts : List (List UInt8)) (hm : Ts.length=us.length)
 (hts : ∀ j,j < us.length→TextOf W (us.getD j default) (Ts.getD j [])∧ ∃ T p,us.getD j default= .iface T p) (hsum : T0.length+(Ts.flatMap (fun T=>32::T)).length≤18500) (w : World) (hw : Below W.heap.size W w) :
 Calls Tryz.prog 255 #[.agg #[.int .i64 k,u,sl]] w (BareP w ((if k=24 then [115,104,97,108,108,111,119,32] else [104,97,110,100,108,101,32])++T0++ [32,119,105,116,104]++Ts.flatMap (fun T=>32::T)++ [32,101,110,100])):=by
 obtain⟨g,o,cap,rfl,-,hg,hc⟩:=hs;obtain⟨Ty,pv,gf,r,rfl,hme,hcf,hK⟩:=ht;obtain⟨t0,hq0⟩ : ∃ t,tx T0=t:=⟨_,rfl⟩
 have hts0 : t0.size≤18500:=by rw [← hq0,z26]; omega
 have HT0:=hid hq0;obtain⟨n,hn⟩ : ∃ n,us.length=n:=⟨_,rfl⟩
 have HK:=hid (show ∀ X,Below w.heap.size w X→Calls Tryz.prog gf #[r] X fun e X'=> e= .returned (.string t0)∧Below X.heap.size X X' from fun X hX=>by rw [← HT0.out]; exact hK X (hw.trans (hX.mono hw.size)));have HTs:=hid (show ∀ j,j < n→TextOf W (us.getD j default) (Ts.getD j [])∧ ∃ T p,us.getD j default= .iface T p from fun j hj=>hts j (by omega));have HC:=hid (show ∀ X,Below w.heap.size w X→ ∀ j,j < n→X.cell? ⟨g,o+j,none⟩=some (us.getD j default) from fun X hX j hj=>by
  rw [hX.cell (p:=⟨g,o+j,none⟩) (Nat.lt_of_lt_of_le hg hw.size),hw.cell (p:=⟨g,o+j,none⟩) hg,hc j (by omega),List.getElem?_eq_getElem (by omega),List.getD_eq_getElem?_getD,List.getElem?_eq_getElem (by omega),Option.getD_some])
 have HN:=hid (And.intro (show n≤5 by omega) (And.intro (show Ts.length=n by omega) hsum));have HW:=hid hw;obtain⟨ky,hky⟩ : ∃ s,tx (if k=24 then [115,104,97,108,108,111,119,32] else [104,97,110,100,108,101,32])=s:=⟨_,rfl⟩
 have hks : ky.size≤8:=by rw [← hky,z26]; split <;> simp
 have hA:=(MapKept.heap_alloc w (.cells #[.int .i64 k,.iface Ty pv,.slice (some ⟨g,o,none⟩) us.length cap] 178)).1;have hB:=(Below.refl w.heap.size w).alloc (Nat.le_refl _) (.cells #[.int .i64 k,.iface Ty pv,.slice (some ⟨g,o,none⟩) us.length cap] 178);obtain⟨WA,hWA⟩ : ∃ X,w.alloc (.cells #[.int .i64 k,.iface Ty pv,.slice (some ⟨g,o,none⟩) us.length cap] 178)=X:=⟨_,rfl⟩
 rw [hWA] at hA hB;rw [hn] at hA hWA ⊢;have HWA:=hid hWA;have HB:=hid hB;have HA:=hid hA;obtain⟨R,hR⟩ : ∃ R,((if k=24 then [115,104,97,108,108,111,119,32] else [104,97,110,100,108,101,32])++T0++ [32,119,105,116,104]++Ts.flatMap (fun T=>32::T)++ [32,101,110,100] : List UInt8)=R:=⟨_,rfl⟩
 rw [hR];have HR : Hid (tx R=ky++t0++tx [32,119,105,116,104]++tx (tailT Ts n)++tx [32,101,110,100]):=by
  show _=_;rw [← hR,← hky,← hq0];simp only [z23];rw [show tailT Ts n=Ts.flatMap (fun T=>32::T) by unfold tailT; rw [List.take_of_length_le (by have:=HN.out.2.1; omega)]]
 have e0 : WA.cell? ⟨w.heap.size,0,none⟩=some (.int .i64 k):=by rw [z8 hA 0]; rfl
 have q0 : ∀ y : Later WA.heap.size WA,y.w.cell? ⟨w.heap.size,0,none⟩=some (.int .i64 k):=fun y=>by rw [z8 ((y.h.block w.heap.size (z13 HA.out)).trans HA.out) 0]; rfl
 have q1 : ∀ y : Later WA.heap.size WA,y.w.cell? ⟨w.heap.size,1,none⟩=some (.iface Ty pv):=fun y=>by rw [z8 ((y.h.block w.heap.size (z13 HA.out)).trans HA.out) 1]; rfl
 have hky' : Hid (tx (if k=24 then [115,104,97,108,108,111,119,32] else [104,97,110,100,108,101,32])=ky):=hky;clear hg hc hK hq0 hts hm hsum hw hu hA hB hWA hR hn hky;go_enter Tryz.func255,Tryz.ntmps255
 rcases hk with rfl | rfl
 all_goals
  go_upto_region 1 with fail
  rw [HWA.out];go_upto_region 4 with fail
  have e1 : WA.cell? ⟨w.heap.size,1,none⟩=some (.iface Ty pv):=by rw [z8 HA.out 1]; rfl
  go_wp2_with fail
  refine (HK.out WA HB.out).mono ?_;rintro e w1 ⟨rfl,hb1⟩;have HB1:=hid (HB.out.trans (hb1.mono HB.out.size));have HA1:=hid ((hb1.block w.heap.size (z13 HA.out)).trans HA.out);clear hb1 e0 e1 q0 q1;have e2:=z8 HA1.out 2;simp at e2;go_wp2_with fail
  clear e2;go_loopw [4,19] (fun tv iv wr=> ∃ (j : Nat) (S : ByteArray),iv= .int .i64 (j : Int)∧tv= .string S∧j≤n∧Hid (S=ky++t0++tx [32,119,105,116,104]++tx (tailT Ts j))∧Hid (Below w1.heap.size w1 wr)) (fun _ iv _=>n - (intOf iv).toNat)
  case atStart=>
   refine⟨0,_,rfl,rfl,Nat.zero_le _,?_,Below.refl _ _⟩;show _=_;have e0 : ∀ x : ByteArray,x++(⟨#[]⟩ : ByteArray)=x:=fun x=>by
    apply ByteArray.ext;simp
   rw [← hky'.out,show tx (tailT Ts 0)=⟨#[]⟩ from rfl,e0];rfl
  case round=>
   obtain⟨j,S,rfl,rfl,hj,HS,HX⟩:=hrel;have HXw:=hid (HB1.out.trans (HX.out.mono HB1.out.size));have HSs : Hid (S.size≤40000):=by
    show _≤_;have h1:=tailT_le (Ts:=Ts) j;have h2:=HN.out.2.2;have h3:=congrArg ByteArray.size HS.out;simp only [ByteArray.size_append,z26,List.length_cons,List.length_nil] at h3;omega
   have hss : S.size≤40000:=HSs.out;by_cases hlt : (j : Int) < (n : Int)
   ·have hjn : j < n:=by omega
    have hc:=HC.out wr HXw.out j hjn;obtain⟨hTx,Tj,pj,hej⟩:=HTs.out j hjn;rw [hej] at hTx hc;obtain⟨Ty',pv',gj,rj,ee,hmj,hcj,hKj⟩:=hTx
    cases ee;have HLj : Hid ((Ts.getD j []).length≤18500):=by
     show _≤_;have h1:=tailT_le (Ts:=Ts) (j+1);have h2:=HN.out.2.2;rw [tailT_next (by rw [HN.out.2.1]; exact hjn),List.length_append,List.length_cons] at h1;omega
    have hnx:=tailT_next (Ts:=Ts) (j:=j) (by rw [HN.out.2.1]; exact hjn);obtain⟨tj,htj⟩ : ∃ t,tx (Ts.getD j [])=t:=⟨_,rfl⟩
    have hjs : tj.size≤18500:=by rw [← htj,z26]; exact HLj.out
    have HTj:=hid htj;have HKj:=hid (show ∀ X,Below w.heap.size w X→Calls Tryz.prog gj #[rj] X fun e X'=> e= .returned (.string tj)∧Below X.heap.size X X' from fun X hX=>by rw [← HTj.out]; exact hKj X (HW.out.trans (hX.mono HW.out.size)));have HNx : Hid (S++((⟨#[32]⟩ : ByteArray)++tj)=ky++t0++tx [32,119,105,116,104]++tx (tailT Ts (j+1))):=by
     show _=_;rw [hnx,HS.out,← htj,show (32::Ts.getD j [] : List UInt8)= [32]++Ts.getD j [] from rfl];simp only [← z23,ByteArray.append_assoc];rfl
    have hj0 : (0 : Int)≤(j : Int):=by omega
    have hstep : n - (intOf (.int .i64 ((j+1 : Nat) : Int))).toNat < n - (intOf (.int .i64 (j : Int))).toNat:=by simp only [intOf,Int.toNat_natCast]; omega
    have HJ5 : Hid (j≤5):=by show _≤_; have:=HN.out.1; omega
    clear hKj htj hnx hej hjn;go_wp2_with fail
    refine (HKj.out wr HXw.out).mono ?_;rintro e w2 ⟨rfl,hb2⟩;have HX2:=hid (HX.out.trans (hb2.mono HX.out.size));clear hb2 hc;go_wp2_with fail
    try rw [z17 (by have:=HJ5.out; omega)]
    exact⟨⟨j+1,_,rfl,rfl,by omega,HNx,HX2⟩,hstep⟩
   ·have ej : j=n:=by omega
    subst ej;go_wp2_with fail
    go_ret;refine⟨?_,HXw.out⟩;rw [HR.out,HS.out];rfl
def LevP (w : World) (l : Int) (e : Ending) (w' : World) : Prop:=e= .returned (.int .i64 l)∧Below w.heap.size w w'
theorem level_leaf (w : World) : Calls Tryz.prog 205 #[.agg #[]] w (LevP w 6):=by
 go_enter Tryz.func205,Tryz.ntmps205
 go_wp2_with fail
 go_ret;exact⟨rfl,by repeat (first | exact Below.refl _ _ | refine Below.alloc ?_ (by first | (simp; done) | (simp; omega)) _)⟩
theorem level_open (w : World) : Calls Tryz.prog 200 #[.agg #[]] w (LevP w 0):=by
 go_enter Tryz.func200,Tryz.ntmps200
 go_wp2_with fail
 go_ret;exact⟨rfl,by repeat (first | exact Below.refl _ _ | refine Below.alloc ?_ (by first | (simp; done) | (simp; omega)) _)⟩
theorem level_app (T0 T1 : TypeId) (p0 p1 : Value) (w : World) : Calls Tryz.prog 219 #[.agg #[.iface T0 p0,.iface T1 p1]] w (LevP w 5):=by
 go_enter Tryz.func219,Tryz.ntmps219
 go_wp2_with fail
 go_ret;exact⟨rfl,by repeat (first | exact Below.refl _ _ | refine Below.alloc ?_ (by first | (simp; done) | (simp; omega)) _)⟩
theorem level_pair (T0 T1 : TypeId) (p0 p1 : Value) (w : World) : Calls Tryz.prog 233 #[.agg #[.iface T0 p0,.iface T1 p1]] w (LevP w 6):=by
 go_enter Tryz.func233,Tryz.ntmps233
 go_wp2_with fail
 go_ret;exact⟨rfl,by repeat (first | exact Below.refl _ _ | refine Below.alloc ?_ (by first | (simp; done) | (simp; omega)) _)⟩
theorem level_cons (T0 T1 : TypeId) (p0 p1 : Value) (w : World) : Calls Tryz.prog 242 #[.agg #[.iface T0 p0,.iface T1 p1]] w (LevP w 1):=by
 go_enter Tryz.func242,Tryz.ntmps242
 go_wp2_with fail
 go_ret;exact⟨rfl,by repeat (first | exact Below.refl _ _ | refine Below.alloc ?_ (by first | (simp; done) | (simp; omega)) _)⟩
theorem level_take (k : Int) (T0 : TypeId) (p0 : Value) (w : World) : Calls Tryz.prog 237 #[.agg #[.int .i64 k,.iface T0 p0]] w (LevP w 5):=by
 go_enter Tryz.func237,Tryz.ntmps237
 go_wp2_with fail
 go_ret;exact⟨rfl,by repeat (first | exact Below.refl _ _ | refine Below.alloc ?_ (by first | (simp; done) | (simp; omega)) _)⟩
theorem level_perform (a : ByteArray) (T0 : TypeId) (p0 : Value) (w : World) : Calls Tryz.prog 249 #[.agg #[.string a,.iface T0 p0]] w (LevP w 5):=by
 go_enter Tryz.func249,Tryz.ntmps249
 go_wp2_with fail
 go_ret;exact⟨rfl,by repeat (first | exact Below.refl _ _ | refine Below.alloc ?_ (by first | (simp; done) | (simp; omega)) _)⟩
theorem level_handler (k : Int) (T0 : TypeId) (p0 sl : Value) (hs : RowAt B W sl us) (w : World) : Calls Tryz.prog 253 #[.agg #[.int .i64 k,.iface T0 p0,sl]] w (LevP w 6):=by
 obtain⟨g,o,cap,rfl,-,-,-⟩:=hs;go_enter Tryz.func253,Tryz.ntmps253
 go_wp2_with fail
 go_ret;exact⟨rfl,by repeat (first | exact Below.refl _ _ | refine Below.alloc ?_ (by first | (simp; done) | (simp; omega)) _)⟩
theorem level_sign {k : Int} (hk : k=11∨k=12∨k=13∨k=14∨k=15) (T0 T1 : TypeId) (p0 p1 : Value) (w : World) : Calls Tryz.prog 263 #[.agg #[.int .i64 k,.iface T0 p0,.iface T1 p1]] w (LevP w (lvZ k)):=by
 rcases hk with rfl | rfl | rfl | rfl | rfl
 all_goals
  go_enter Tryz.func263,Tryz.ntmps263
  go_wp2_with fail
  go_ret;exact⟨rfl,by repeat (first | exact Below.refl _ _ | refine Below.alloc ?_ (by first | (simp; done) | (simp; omega)) _)⟩
theorem z64 {l : Int} (T : TypeId) (pv : Value) (g : FuncId) (rv : Value) (hv : v= .iface T pv) (hm : ∀ w,(method 344 T pv "loop.example/handrail/impl.level").run Tryz.prog w= .ok (g,rv) w)
 (hc : ∀ args w,(callFunc g args).run Tryz.prog w= .ok (.enter g args) w) (hK : ∀ w,Calls Tryz.prog g #[rv] w (LevP w l)) : LevelOf v l:=⟨T,pv,g,rv,hv,hm,hc,hK⟩
theorem levelOf_pv {l : Int} (T : TypeId) (pv : Value) (g : FuncId) (hv : v= .iface T pv) (hm : ∀ w,(method 344 T pv "loop.example/handrail/impl.level").run Tryz.prog w= .ok (g,pv) w)
 (hc : ∀ args w,(callFunc g args).run Tryz.prog w= .ok (.enter g args) w) (hK : ∀ w,Calls Tryz.prog g #[pv] w (LevP w l)) : LevelOf v l:=⟨T,pv,g,pv,hv,hm,hc,hK⟩
theorem levelOf {n : Nd} (h : Shape B W n us v) (hi : ∀ u∈us,∃ T p,u= .iface T p) (hx : n.kind≠25∧n.kind≠26) : LevelOf v (lvZ n.kind):=by
 cases h with
 | int=>exact z64 _ _ 205 (.agg #[]) rfl (fun w=>by kernel_rfl) (fun args w=>by kernel_rfl) (fun w=>level_leaf w)
 | bool=>exact z64 _ _ 205 (.agg #[]) rfl (fun w=>by kernel_rfl) (fun args w=>by kernel_rfl) (fun w=>level_leaf w)
 | unit=>exact z64 _ _ 205 (.agg #[]) rfl (fun w=>by kernel_rfl) (fun args w=>by kernel_rfl) (fun w=>level_leaf w)
 | nil=>exact z64 _ _ 205 (.agg #[]) rfl (fun w=>by kernel_rfl) (fun args w=>by kernel_rfl) (fun w=>level_leaf w)
 | var=>exact z64 _ _ 205 (.agg #[]) rfl (fun w=>by kernel_rfl) (fun args w=>by kernel_rfl) (fun w=>level_leaf w)
 | fn=>exact z64 _ _ 200 (.agg #[]) rfl (fun w=>by kernel_rfl) (fun args w=>by kernel_rfl) (fun w=>level_open w)
 | bind=>exact z64 _ _ 200 (.agg #[]) rfl (fun w=>by kernel_rfl) (fun args w=>by kernel_rfl) (fun w=>level_open w)
 | recur=>exact z64 _ _ 200 (.agg #[]) rfl (fun w=>by kernel_rfl) (fun args w=>by kernel_rfl) (fun w=>level_open w)
 | cond=>exact z64 _ _ 200 (.agg #[]) rfl (fun w=>by kernel_rfl) (fun args w=>by kernel_rfl) (fun w=>level_open w)
 | case=>exact z64 _ _ 200 (.agg #[]) rfl (fun w=>by kernel_rfl) (fun args w=>by kernel_rfl) (fun w=>level_open w)
 | app=>
   obtain⟨T0,p0,rfl⟩:=hi _ (List.mem_of_getElem? (i:=0) rfl);obtain⟨T1,p1,rfl⟩:=hi _ (List.mem_of_getElem? (i:=1) rfl);exact levelOf_pv _ _ 219 rfl (fun w=>by kernel_rfl) (fun args w=>by kernel_rfl) (fun w=>level_app _ _ _ _ w)
 | sign hk=>
   obtain⟨T0,p0,rfl⟩:=hi _ (List.mem_of_getElem? (i:=0) rfl);obtain⟨T1,p1,rfl⟩:=hi _ (List.mem_of_getElem? (i:=1) rfl);exact levelOf_pv _ _ 263 rfl (fun w=>by kernel_rfl) (fun args w=>by kernel_rfl) (fun w=>level_sign hk _ _ _ _ w)
 | pair=>
   obtain⟨T0,p0,rfl⟩:=hi _ (List.mem_of_getElem? (i:=0) rfl);obtain⟨T1,p1,rfl⟩:=hi _ (List.mem_of_getElem? (i:=1) rfl);exact levelOf_pv _ _ 233 rfl (fun w=>by kernel_rfl) (fun args w=>by kernel_rfl) (fun w=>level_pair _ _ _ _ w)
 | take hk=>
   obtain⟨T0,p0,rfl⟩:=hi _ (List.mem_of_getElem? (i:=0) rfl);rcases hk with rfl | rfl | rfl
   all_goals exact levelOf_pv _ _ 237 rfl (fun w=>by kernel_rfl) (fun args w=>by kernel_rfl) (fun w=>level_take _ _ _ w)
 | cons=>
   obtain⟨T0,p0,rfl⟩:=hi _ (List.mem_of_getElem? (i:=0) rfl);obtain⟨T1,p1,rfl⟩:=hi _ (List.mem_of_getElem? (i:=1) rfl);exact levelOf_pv _ _ 242 rfl (fun w=>by kernel_rfl) (fun args w=>by kernel_rfl) (fun w=>level_cons _ _ _ _ w)
 | perform=>
   obtain⟨T0,p0,rfl⟩:=hi _ (List.mem_of_getElem? (i:=0) rfl);exact levelOf_pv _ _ 249 rfl (fun w=>by kernel_rfl) (fun args w=>by kernel_rfl) (fun w=>level_perform _ _ _ w)
 | handler hk hs hl=>
   obtain⟨T0,p0,rfl⟩:=hi _ (List.mem_of_getElem? (i:=0) rfl);rcases hk with rfl | rfl
   all_goals exact levelOf_pv _ _ 253 rfl (fun w=>by kernel_rfl) (fun args w=>by kernel_rfl) (fun w=>level_handler _ _ _ _ hs w)
 | ret=>exact absurd rfl hx.1
 | op=>exact absurd rfl hx.2
end
end Go.Proofs.YtfbojelpdccjaaaGreatDoor
