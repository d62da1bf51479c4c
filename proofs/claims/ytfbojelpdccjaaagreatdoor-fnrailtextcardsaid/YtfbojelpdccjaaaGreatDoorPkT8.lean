import Derived.Lib.SmallJoins
import Derived.Test.YtfbojelpdccjaaaGreatDoorPkT7
open Go.Proofs.Tryz
set_option maxHeartbeats 16000000
set_option maxRecDepth 100000
namespace Go.Proofs.YtfbojelpdccjaaaGreatDoor
open Go.RowKit
variable {s:ByteArray}{k l0 l1:Int}{T0 T1:List UInt8}{us:List Value}{B e f p:Nat}{u0 u1 v:Value}{W:World}
section
open Go.RowKit
theorem size_builder:(prog.info? 43).map (·.size)=some 2:=yb
theorem lies_builder:liesAt prog prog.depth 43 (2/prog.cellsOf 43) 0 43 1=true:=yb
theorem info_u8:(prog.info? 5).map (fun i=>(i.zero,i.size,i.bytes))=some (some (.int .u8 0),1,1):=yb
theorem copyCheck_calls (B b:Nat) (bs:List Value) (w:World) (h:Lib.IsBuilderF 43 5 B b bs w) :
 Calls prog 43 #[.pointer (some ⟨b,0,none⟩)] w fun e w'=> e=.returned (.tuple #[])/\Lib.BuilderAtF 43 5 B b (.pointer (some ⟨b,0,none⟩)) bs w'/\Below B w w'/\Lib.OthersKept 5 (some b) w w':= by
 obtain⟨j,hj,hjs⟩:=Option.map_eq_some_iff.1 size_builder;rcases h with h|h
 .have hc:=h.cell0;have hsh:=h.shape;have hz:=h.frozen0;go_enter func43,ntmps43
  go_wp2
  rw[Lib.run_to_unsafe w ⟨b,0,none⟩ underlying41 underlying119 hj (by rw[hjs];decide) hsh (Nat.zero_lt_succ 1)];simp only[Result.andThen];rw[Oper.upon_value];go_wp2
  rw[run_callFunc_extern func80 yb yb yb (e:=Extern.AbiNoEscape.same) yb];rw[Lib.run_noEscape];simp only[Result.andThen];rw[Oper.upon_value];go_wp2
  rw[Lib.run_from_unsafe w ⟨b,0,none⟩ underlying119 underlying41 hj hsh lies_builder];simp only[Result.andThen];rw[Oper.upon_value];go_wp2
  go_end0
  exact⟨rfl,h.used _,(Below.refl B w).setCell (p:=⟨b,0,none⟩) h.1 _,(Lib.OthersKept.refl _ _ w).setCell ⟨b,0,none⟩ rfl _⟩
 .have hc:=h.cell0;go_enter func43,ntmps43
  go_wp2
  rw[Lib.run_neq_ptr_same w _ underlying41 hj];go_wp2
  go_end0
  exact⟨rfl,h,Below.refl B _,Lib.OthersKept.refl _ _ _⟩
theorem writeString_calls (B b:Nat) (bs:List Value) (s:ByteArray) (w:World) (h:Lib.IsBuilderF 43 5 B b bs w) (hlen:bs.length+s.size<=1000000) (hBw:B<=w.heap.size) :
 Calls prog 17 #[.pointer (some ⟨b,0,none⟩),.string s] w fun e w'=> e=.returned (.tuple #[.int .i64 s.size,.nilIface])/\Lib.IsBuilderF 43 5 B b (bs++Lib.strCells s) w'/\Below B w w'/\Lib.OthersKept 5 (some b) w w':= by
 obtain⟨i0,hi,hz0,hz1,hz2⟩:=info_parts info_u8;have HL:I (bs.length+s.size<=1000000):=hlen;clear hlen;go_enter func17,ntmps17
 go_wp2_with fail
 refine(copyCheck_calls B b bs _ h).mono ?_;rintro e w1 ⟨rfl,h1,hb1,hk1⟩;obtain⟨hB,v,hbk,hown,hne⟩:=h1;obtain⟨c0,c1⟩:=fcl2 hbk;have hlt:=z12 hbk;have hsz:=hb1.size;go_wp2_with (first
  | (at_builtin;refine Lib.wpList_append_own_stringF _ rfl _ _ 22 9 rfl B 5 i0 underlying22 underlying9 hi hz0 hz1 hz2 _ _ _ rfl hown s rfl (by have:=HL.o;unfold maxLen;omega) zy yf ?_
     intro v' w2 hown' hgrow _;have hb2:w2.heap[b]?=some (.cells #[.pointer (some ⟨b,0,none⟩),v] 43 (0,0)):=(hgrow.block b hlt (fun e=>hne e.symm)).trans hbk;have d0:=z8 hb2 0;have d1:=z8 hb2 1;have f1:=z11 hb2 1;simp at d0 d1;obtain⟨ao,n',cap,rfl⟩:∃ao n' cap,v'=.slice ao n' cap:=by
      rcases hown'.2 with ⟨hv,_⟩|⟨g,cap,cur,fz,hv,_⟩
      .exact⟨_,_,_,hv⟩
      .exact⟨_,_,_,hv⟩))
 go_ret2
 refine⟨rfl,Or.inr ?_,?_,(hk1.grown hgrow (Lib.ownsRowF_kind hown)).setCell ⟨b,1,none⟩ rfl _⟩
 .exact Lib.BuilderAtF.put hB hb2 (bs':= bs++Lib.strCells s) (by simpa[Lib.strCells_length]using hown') yh
 .exact(hb1.grown hgrow yf (fun k hk=>(hown.lt k hk).1)).setCell (p:=⟨b,1,none⟩) hB _
structure Laid (w:World):Prop where
 pows:Lib.TabIs prog w "internal/strconv.uint64pow10" .u64 Lib.pow10Tab
theorem gPows:prog.globalNamed "internal/strconv.uint64pow10" =some 3:=yb
theorem Laid.stays {w w':World}(h:Laid w) (hb:Below w.heap.size w w'):Laid w':=
 ⟨Joins.var_stays gPows h.pows hb La⟩
theorem grow_below (w:World) (k:Nat) (os:Array Obj):Below w.heap.size w (Go.Sort.grow (w.drewN k) os):=
 ⟨rfl,rfl,rfl,by rw[Go.Sort.size_grow];exact Nat.le_add_right _ _,fun j hj=>by rw[Go.Sort.heap_grow_old (w.drewN k) os hj];rfl⟩
theorem itoa_any (n:Int) (w:World) (hn:Long n) (hL:Laid w) :
 Calls prog 168 #[.int .i64 n] w (BareP w (Lib.itoa n)):=by
 unfold Long at hn;refine(Tryz.strconv_Itoa n hn.1 hn.2 w hL.pows).mono ?_;rintro e w' ⟨rfl,k,os,rfl⟩;exact⟨rfl,grow_below w k os⟩
theorem builder_kept {T e:TypeId}{b:Nat}{bs:List Value}{w w':World}(h:Lib.IsBuilderF T e B b bs w) (hb:Below w.heap.size w w'):Lib.IsBuilderF T e B b bs w':= by
 have one:∀p,Lib.BuilderAtF T e B b p bs w->Lib.BuilderAtF T e B b p bs w':= by
  rintro p ⟨hB,v,hbk,hown,hne⟩;exact⟨hB,v,(hb.block b (z12 hbk)).trans hbk,hown.kept (kept_of_below hb none) (by cases hv:v.ownBlock<;>simp),hne⟩
 exact h.imp (one _) (one _)
theorem builder_new (B:Nat) (w:World) (hB:B<=w.heap.size):Lib.IsBuilderF 43 5 B w.heap.size [] (w.alloc (.cells #[.pointer none,.slice none 0 0] 43)):=
 Or.inl ⟨hB,_,(Ld w _).1,World.ownsRowF_nil _ _ _ _,qf⟩
theorem put_calls (B bb:Nat) (l m:List UInt8) (w:World) (h:Lib.IsBuilderF 43 5 B bb (Lib.byteCells l) w) (hl:l.length+m.length<=1000000) (hB:B<=w.heap.size) :
 Calls prog 17 #[.pointer (some ⟨bb,0,none⟩),.string (tx m)] w fun e w'=> e=.returned (.tuple #[.int .i64 m.length,.nilIface])/\Lib.IsBuilderF 43 5 B bb (Lib.byteCells (l++m)) w'/\Below B w w'/\Lib.OthersKept 5 (some bb) w w':= by
 refine(writeString_calls B bb (Lib.byteCells l) (tx m) w h (by rw[Lib.byteCells_length,z32];exact hl) hB).mono ?_;rintro e w' ⟨rfl,h1,h2,h3⟩;refine⟨by rw[z32],?_,h2,h3⟩;rw[Lib.byteCells_append];exact h1
end
section
open Go.RowKit Go.Deep
theorem text_int (num:Int) (hn:Long num) (w:World) (hL:Laid w):Calls prog 207 #[.agg #[.int .i64 num]] w (BareP w (Lib.itoa num)):=by
 have hb:=(Below.refl w.heap.size w).alloc La (.cells #[.int .i64 num] 152);have HB:=J hb;have HI:=J (itoa_any num (w.alloc (.cells #[.int .i64 num] 152)) hn (hL.stays hb));clear hb hL hn;obtain⟨T,hT⟩:∃T,Lib.itoa num=T:=⟨_,rfl⟩
 rw[hT]at HI |-;clear hT;go_enter func207,ntmps207
 go_wp2_with fail
 refine HI.o.mono ?_;rintro e w1 ⟨rfl,hb1⟩;have HB1:=J (HB.o.trans (hb1.mono HB.o.size));clear hb1;go_wp2_with fail
 go_ret;exact⟨rfl,HB1.o⟩
theorem formatBool_calls (b:Bool) (w:World):Calls prog 210 #[.bool b] w (BareP w (if b then [116,114,117,101] else [102,97,108,115,101])):=by
 have h (b:Bool) (w:World):Calls prog 211 #[.bool b] w (BareP w (if b then [116,114,117,101] else [102,97,108,115,101])):=by
  cases b;all_goals
   go_enter func211,ntmps211
   go_wp2_with fail
   go_ret;exact⟨rfl,by repeat(first|exact Lb|refine Below.alloc ?_ zw _)⟩
 have HI:=J h;clear h
 cases b;all_goals
  go_enter func210,ntmps210
  go_wp2_with fail
  refine(HI.o _ w).mono ?_;rintro e w1 ⟨rfl,hb1⟩;go_wp2_with fail
  go_ret;exact⟨rfl,hb1⟩
theorem text_bool (num:Int) (hn:num=0\/num=1) (w:World):Calls prog 209 #[.agg #[.int .i64 num]] w (BareP w (if num=0 then [102,97,108,115,101] else [116,114,117,101])):=by
 have hb:=(Below.refl w.heap.size w).alloc La (.cells #[.int .i64 num] 153);have HB:=J hb;have HF:=J (fun b=>formatBool_calls b (w.alloc (.cells #[.int .i64 num] 153)));clear hb;rcases hn with rfl|rfl
 .go_enter func209,ntmps209
  go_wp2_with fail
  refine(HF.o false).mono ?_;rintro e w1 ⟨rfl,hb1⟩;have HB1:=J (HB.o.trans (hb1.mono HB.o.size));clear hb1;go_wp2_with fail
  go_ret;exact⟨rfl,HB1.o⟩
 .go_enter func209,ntmps209
  go_wp2_with fail
  refine(HF.o true).mono ?_;rintro e w1 ⟨rfl,hb1⟩;have HB1:=J (HB.o.trans (hb1.mono HB.o.size));clear hb1;go_wp2_with fail
  go_ret;exact⟨rfl,HB1.o⟩
theorem text_nil (w:World):Calls prog 215 #[.agg #[]] w (BareP w [110,105,108]):=by
 go_enter func215,ntmps215
 go_wp2_with fail
 go_ret;exact⟨rfl,by repeat(first|exact Lb|refine Below.alloc ?_ zw _)⟩
def tailT (Ts:List (List UInt8)) (j:Nat):List UInt8:=(Ts.take j).flatMap (fun T=>32::T)
theorem tailT_next {Ts:List (List UInt8)}{j:Nat}(h:j<Ts.length):tailT Ts (j+1)=tailT Ts j++(32::Ts.getD j []):=by
 unfold tailT;rw[List.take_add_one,List.flatMap_append];simp[List.getD,h]
theorem tailT_le {Ts:List (List UInt8)}:∀j:Nat,(tailT Ts j).length<=(Ts.flatMap (fun T=>32::T)).length:=fun j=>by
 unfold tailT;have:=congrArg List.length (List.flatMap_append (xs:=Ts.take j) (ys:=Ts.drop j) (f:=fun T:List UInt8=>32::T));rw[List.take_append_drop,List.length_append]at this;omega
theorem text_handler (hk:k=23\/k=24) {u sl:Value}(ht:TextOf W u T0) (hs:RowAt 0 W sl us) (hu:us.length<=5) (Ts:List (List UInt8)) (hm:Ts.length=us.length)
 (hts:∀j,j<us.length->TextOf W (us.getD j default) (Ts.getD j [])/\ ∃T p,us.getD j default=.iface T p) (hsum:T0.length+(Ts.flatMap (fun T=>32::T)).length<=18500) (w:World) (hw:Below W.heap.size W w) :
 Calls prog 255 #[.agg #[.int .i64 k,u,sl]] w (BareP w ((if k=24 then [115,104,97,108,108,111,119,32] else [104,97,110,100,108,101,32])++T0++ [32,119,105,116,104]++Ts.flatMap (fun T=>32::T)++ [32,101,110,100])):=by
 obtain⟨g,o,cap,rfl,-,hg,hc⟩:=hs;obtain⟨Ty,pv,gf,r,rfl,hme,hcf,hK⟩:=ht;obtain⟨t0,hq0⟩:∃t,tx T0=t:=⟨_,rfl⟩
 have hts0:t0.size<=18500:=by rw[<-hq0,z32];omega
 have HT0:=J hq0;obtain⟨n,hn⟩:∃n,us.length=n:=⟨_,rfl⟩
 have HK:=J (show ∀X,Below w.heap.size w X->Calls prog gf #[r] X fun e X'=> e=.returned (.string t0)/\Below X.heap.size X X' from fun X hX=>by rw[<-HT0.o];exact hK X (hw.trans (hX.mono hw.size)));have HTs:=J (show ∀j,j<n->TextOf W (us.getD j default) (Ts.getD j [])/\ ∃T p,us.getD j default=.iface T p from fun j hj=>hts j yf);have HC:=J (show ∀X,Below w.heap.size w X-> ∀j,j<n->X.cell? ⟨g,o+j,none⟩=some (us.getD j default) from fun X hX j hj=>by
  rw[hX.cell (p:=⟨g,o+j,none⟩) (Le hg hw.size),hw.cell (p:=⟨g,o+j,none⟩) hg,hc j yf,List.getElem?_eq_getElem yf,List.getD_eq_getElem?_getD,List.getElem?_eq_getElem yf,Option.getD_some])
 have HN:=J (Lc (show n<=5 by omega) (Lc (show Ts.length=n by omega) hsum));have HW:=J hw;obtain⟨ky,hky⟩:∃s,tx (if k=24 then [115,104,97,108,108,111,119,32] else [104,97,110,100,108,101,32])=s:=⟨_,rfl⟩
 have hks:ky.size<=8:=by rw[<-hky,z32];split<;>simp
 have hA:=(Ld w (.cells #[.int .i64 k,.iface Ty pv,.slice (some ⟨g,o,none⟩) us.length cap] 178)).1;have hB:=(Below.refl w.heap.size w).alloc La (.cells #[.int .i64 k,.iface Ty pv,.slice (some ⟨g,o,none⟩) us.length cap] 178);obtain⟨WA,hWA⟩:∃X,w.alloc (.cells #[.int .i64 k,.iface Ty pv,.slice (some ⟨g,o,none⟩) us.length cap] 178)=X:=⟨_,rfl⟩
 rw[hWA]at hA hB;rw[hn]at hA hWA |-;have HWA:=J hWA;have HB:=J hB;have HA:=J hA;obtain⟨R,hR⟩:∃R,((if k=24 then [115,104,97,108,108,111,119,32] else [104,97,110,100,108,101,32])++T0++ [32,119,105,116,104]++Ts.flatMap (fun T=>32::T)++ [32,101,110,100]:List UInt8)=R:=⟨_,rfl⟩
 rw[hR];have HR:I (tx R=ky++t0++tx [32,119,105,116,104]++tx (tailT Ts n)++tx [32,101,110,100]):=by
  show _=_;rw[<-hR,<-hky,<-hq0];simp only[z24];rw[show tailT Ts n=Ts.flatMap (fun T=>32::T) by unfold tailT;rw[List.take_of_length_le (by have:=HN.o.2.1;omega)]]
 have e0:WA.cell? ⟨w.heap.size,0,none⟩=some (.int .i64 k):=by rw[z8 hA 0];rfl
 have q0:∀y:Later WA.heap.size WA,y.w.cell? ⟨w.heap.size,0,none⟩=some (.int .i64 k):=fun y=>by rw[z8 ((y.h.block w.heap.size (z12 HA.o)).trans HA.o) 0];rfl
 have q1:∀y:Later WA.heap.size WA,y.w.cell? ⟨w.heap.size,1,none⟩=some (.iface Ty pv):=fun y=>by rw[z8 ((y.h.block w.heap.size (z12 HA.o)).trans HA.o) 1];rfl
 have hky':I (tx (if k=24 then [115,104,97,108,108,111,119,32] else [104,97,110,100,108,101,32])=ky):=hky;clear hg hc hK hq0 hts hm hsum hw hu hA hB hWA hR hn hky;go_enter func255,ntmps255
 rcases hk with rfl|rfl
 all_goals
  go_upto_region 1 with fail
  rw[HWA.o];go_upto_region 4 with fail
  have e1:WA.cell? ⟨w.heap.size,1,none⟩=some (.iface Ty pv):=by rw[z8 HA.o 1];rfl
  go_wp2_with fail
  refine(HK.o WA HB.o).mono ?_;rintro e w1 ⟨rfl,hb1⟩;have HB1:=J (HB.o.trans (hb1.mono HB.o.size));have HA1:=J ((hb1.block w.heap.size (z12 HA.o)).trans HA.o);clear hb1 e0 e1 q0 q1;have e2:=z8 HA1.o 2;simp at e2;go_wp2_with fail
  clear e2;go_loopw [4,19] (fun tv iv wr=> ∃(j:Nat) (S:ByteArray),iv=.int .i64 (j:Int)/\tv=.string S/\j<=n/\I (S=ky++t0++tx [32,119,105,116,104]++tx (tailT Ts j))/\I (Below w1.heap.size w1 wr)) (fun _ iv _=>n-(intOf iv).toNat)
  case atStart=>
   refine⟨0,_,rfl,rfl,Li _,?_,Lb⟩;show _=_;have e0:∀x:ByteArray,x++(⟨#[]⟩:ByteArray)=x:=fun x=>by
    apply ByteArray.ext;simp
   rw[<-hky'.o,show tx (tailT Ts 0)=⟨#[]⟩ from rfl,e0];rfl
  case round=>
   obtain⟨j,S,rfl,rfl,hj,HS,HX⟩:=hrel;have HXw:=J (HB1.o.trans (HX.o.mono HB1.o.size));have HSs:I (S.size<=40000):=by
    show _<=_;have h1:=tailT_le (Ts:=Ts) j;have h2:=HN.o.2.2;have h3:=congrArg ByteArray.size HS.o;simp only[ByteArray.size_append,z32,List.length_cons,List.length_nil]at h3;omega
   have hss:S.size<=40000:=HSs.o;by_cases hlt:(j:Int)<(n:Int)
   .have hjn:j<n:=by omega
    have hc:=HC.o wr HXw.o j hjn;obtain⟨hTx,Tj,pj,hej⟩:=HTs.o j hjn;rw[hej]at hTx hc;obtain⟨Ty',pv',gj,rj,ee,hmj,hcj,hKj⟩:=hTx
    cases ee;have HLj:I ((Ts.getD j []).length<=18500):=by
     show _<=_;have h1:=tailT_le (Ts:=Ts) (j+1);have h2:=HN.o.2.2;rw[tailT_next (by rw[HN.o.2.1];exact hjn),List.length_append,List.length_cons]at h1;omega
    have hnx:=tailT_next (Ts:=Ts) (j:=j) (by rw[HN.o.2.1];exact hjn);obtain⟨tj,htj⟩:∃t,tx (Ts.getD j [])=t:=⟨_,rfl⟩
    have hjs:tj.size<=18500:=by rw[<-htj,z32];exact HLj.o
    have HTj:=J htj;have HKj:=J (show ∀X,Below w.heap.size w X->Calls prog gj #[rj] X fun e X'=> e=.returned (.string tj)/\Below X.heap.size X X' from fun X hX=>by rw[<-HTj.o];exact hKj X (HW.o.trans (hX.mono HW.o.size)));have HNx:I (S++((⟨#[32]⟩:ByteArray)++tj)=ky++t0++tx [32,119,105,116,104]++tx (tailT Ts (j+1))):=by
     show _=_;rw[hnx,HS.o,<-htj,show(32::Ts.getD j []:List UInt8)= [32]++Ts.getD j [] from rfl];simp only[<-z24,ByteArray.append_assoc];rfl
    have hj0:(0:Int)<=(j:Int):=yf;have hstep:n-(intOf (.int .i64 ((j+1:Nat):Int))).toNat<n-(intOf (.int .i64 (j:Int))).toNat:=yl;have HJ5:I (j<=5):=by show _<=_;have:=HN.o.1;omega
    clear hKj htj hnx hej hjn;go_wp2_with fail
    refine(HKj.o wr HXw.o).mono ?_;rintro e w2 ⟨rfl,hb2⟩;have HX2:=J (HX.o.trans (hb2.mono HX.o.size));clear hb2 hc;go_wp2_with fail
    try rw[z18 (by have:=HJ5.o;omega)]
    exact⟨⟨j+1,_,rfl,rfl,yf,HNx,HX2⟩,hstep⟩
   .have ej:j=n:=by omega
    subst ej;go_wp2_with fail
    go_ret;refine⟨?_,HXw.o⟩;rw[HR.o,HS.o];rfl
def LevP (w:World) (l:Int) (e:Ending) (w':World):Prop:=e=.returned (.int .i64 l)/\Below w.heap.size w w'
theorem level_leaf (w:World):Calls prog 205 #[.agg #[]] w (LevP w 6):=by
 go_enter func205,ntmps205
 go_wp2_with fail
 go_ret;exact⟨rfl,by repeat(first|exact Lb|refine Below.alloc ?_ zw _)⟩
theorem level_open (w:World):Calls prog 200 #[.agg #[]] w (LevP w 0):=by
 go_enter func200,ntmps200
 go_wp2_with fail
 go_ret;exact⟨rfl,by repeat(first|exact Lb|refine Below.alloc ?_ zw _)⟩
theorem level_app (T0 T1:TypeId) (p0 p1:Value) (w:World):Calls prog 219 #[.agg #[.iface T0 p0,.iface T1 p1]] w (LevP w 5):=by
 go_enter func219,ntmps219
 go_wp2_with fail
 go_ret;exact⟨rfl,by repeat(first|exact Lb|refine Below.alloc ?_ zw _)⟩
theorem level_pair (T0 T1:TypeId) (p0 p1:Value) (w:World):Calls prog 233 #[.agg #[.iface T0 p0,.iface T1 p1]] w (LevP w 6):=by
 go_enter func233,ntmps233
 go_wp2_with fail
 go_ret;exact⟨rfl,by repeat(first|exact Lb|refine Below.alloc ?_ zw _)⟩
theorem level_cons (T0 T1:TypeId) (p0 p1:Value) (w:World):Calls prog 242 #[.agg #[.iface T0 p0,.iface T1 p1]] w (LevP w 1):=by
 go_enter func242,ntmps242
 go_wp2_with fail
 go_ret;exact⟨rfl,by repeat(first|exact Lb|refine Below.alloc ?_ zw _)⟩
theorem level_take (k:Int) (T0:TypeId) (p0:Value) (w:World):Calls prog 237 #[.agg #[.int .i64 k,.iface T0 p0]] w (LevP w 5):=by
 go_enter func237,ntmps237
 go_wp2_with fail
 go_ret;exact⟨rfl,by repeat(first|exact Lb|refine Below.alloc ?_ zw _)⟩
theorem level_perform (a:ByteArray) (T0:TypeId) (p0:Value) (w:World):Calls prog 249 #[.agg #[.string a,.iface T0 p0]] w (LevP w 5):=by
 go_enter func249,ntmps249
 go_wp2_with fail
 go_ret;exact⟨rfl,by repeat(first|exact Lb|refine Below.alloc ?_ zw _)⟩
theorem level_handler (k:Int) (T0:TypeId) (p0 sl:Value) (hs:RowAt B W sl us) (w:World):Calls prog 253 #[.agg #[.int .i64 k,.iface T0 p0,sl]] w (LevP w 6):=by
 obtain⟨g,o,cap,rfl,-,-,-⟩:=hs;go_enter func253,ntmps253
 go_wp2_with fail
 go_ret;exact⟨rfl,by repeat(first|exact Lb|refine Below.alloc ?_ zw _)⟩
theorem level_sign (hk:k=11\/k=12\/k=13\/k=14\/k=15) (T0 T1:TypeId) (p0 p1:Value) (w:World):Calls prog 263 #[.agg #[.int .i64 k,.iface T0 p0,.iface T1 p1]] w (LevP w (lvZ k)):=by
 rcases hk with rfl|rfl|rfl|rfl|rfl
 all_goals
  go_enter func263,ntmps263
  go_wp2_with fail
  go_ret;exact⟨rfl,by repeat(first|exact Lb|refine Below.alloc ?_ zw _)⟩
theorem z68 {l:Int}(T:TypeId) (pv:Value) (g:FuncId) (rv:Value) (hv:v=.iface T pv) (hm:∀w,(method 344 T pv "loop.example/handrail/impl.level").run prog w=.ok (g,rv) w)
 (hc:∀args w,(callFunc g args).run prog w=.ok (.enter g args) w) (hK:∀w,Calls prog g #[rv] w (LevP w l)):LevelOf v l:=⟨T,pv,g,rv,hv,hm,hc,hK⟩
theorem levelOf_pv {l:Int}(T:TypeId) (pv:Value) (g:FuncId) (hv:v=.iface T pv) (hm:∀w,(method 344 T pv "loop.example/handrail/impl.level").run prog w=.ok (g,pv) w)
 (hc:∀args w,(callFunc g args).run prog w=.ok (.enter g args) w) (hK:∀w,Calls prog g #[pv] w (LevP w l)):LevelOf v l:=⟨T,pv,g,pv,hv,hm,hc,hK⟩
theorem levelOf {n:Nd}(h:Shape B W n us v) (hi:∀u∈us,∃T p,u=.iface T p) (hx:n.kind≠25/\n.kind≠26):LevelOf v (lvZ n.kind):=by
 cases h with
 |int=>exact z68 _ _ 205 (.agg #[]) rfl (fun w=>yb) (fun args w=>yb) (fun w=>level_leaf w)
 |bool=>exact z68 _ _ 205 (.agg #[]) rfl (fun w=>yb) (fun args w=>yb) (fun w=>level_leaf w)
 |unit=>exact z68 _ _ 205 (.agg #[]) rfl (fun w=>yb) (fun args w=>yb) (fun w=>level_leaf w)
 |nil=>exact z68 _ _ 205 (.agg #[]) rfl (fun w=>yb) (fun args w=>yb) (fun w=>level_leaf w)
 |var=>exact z68 _ _ 205 (.agg #[]) rfl (fun w=>yb) (fun args w=>yb) (fun w=>level_leaf w)
 |fn=>exact z68 _ _ 200 (.agg #[]) rfl (fun w=>yb) (fun args w=>yb) (fun w=>level_open w)
 |bind=>exact z68 _ _ 200 (.agg #[]) rfl (fun w=>yb) (fun args w=>yb) (fun w=>level_open w)
 |recur=>exact z68 _ _ 200 (.agg #[]) rfl (fun w=>yb) (fun args w=>yb) (fun w=>level_open w)
 |cond=>exact z68 _ _ 200 (.agg #[]) rfl (fun w=>yb) (fun args w=>yb) (fun w=>level_open w)
 |case=>exact z68 _ _ 200 (.agg #[]) rfl (fun w=>yb) (fun args w=>yb) (fun w=>level_open w)
 | app=>
   obtain⟨T0,p0,rfl⟩:=hi _ (Lh (i:=0) rfl);obtain⟨T1,p1,rfl⟩:=hi _ (Lh (i:=1) rfl);exact levelOf_pv _ _ 219 rfl (fun w=>yb) (fun args w=>yb) (fun w=>level_app _ _ _ _ w)
 | sign hk=>
   obtain⟨T0,p0,rfl⟩:=hi _ (Lh (i:=0) rfl);obtain⟨T1,p1,rfl⟩:=hi _ (Lh (i:=1) rfl);exact levelOf_pv _ _ 263 rfl (fun w=>yb) (fun args w=>yb) (fun w=>level_sign hk _ _ _ _ w)
 | pair=>
   obtain⟨T0,p0,rfl⟩:=hi _ (Lh (i:=0) rfl);obtain⟨T1,p1,rfl⟩:=hi _ (Lh (i:=1) rfl);exact levelOf_pv _ _ 233 rfl (fun w=>yb) (fun args w=>yb) (fun w=>level_pair _ _ _ _ w)
 | take hk=>
   obtain⟨T0,p0,rfl⟩:=hi _ (Lh (i:=0) rfl);rcases hk with rfl|rfl|rfl
   all_goals exact levelOf_pv _ _ 237 rfl (fun w=>yb) (fun args w=>yb) (fun w=>level_take _ _ _ w)
 | cons=>
   obtain⟨T0,p0,rfl⟩:=hi _ (Lh (i:=0) rfl);obtain⟨T1,p1,rfl⟩:=hi _ (Lh (i:=1) rfl);exact levelOf_pv _ _ 242 rfl (fun w=>yb) (fun args w=>yb) (fun w=>level_cons _ _ _ _ w)
 | perform=>
   obtain⟨T0,p0,rfl⟩:=hi _ (Lh (i:=0) rfl);exact levelOf_pv _ _ 249 rfl (fun w=>yb) (fun args w=>yb) (fun w=>level_perform _ _ _ w)
 | handler hk hs hl=>
   obtain⟨T0,p0,rfl⟩:=hi _ (Lh (i:=0) rfl);rcases hk with rfl|rfl
   all_goals exact levelOf_pv _ _ 253 rfl (fun w=>yb) (fun args w=>yb) (fun w=>level_handler _ _ _ _ hs w)
 |ret=>exact absurd rfl hx.1
 |op=>exact absurd rfl hx.2
theorem word17_calls (w:World):Calls prog 240 #[.int .i64 17] w fun e w'=> e=.returned (.string (tx [102,115,116]))/\Below w.heap.size w w':= by
 go_enter func240,ntmps240
 go_wp2_with fail
 go_ret;exact⟨rfl,by repeat(first|exact Lb|refine Below.alloc ?_ zw _)⟩
theorem word18_calls (w:World):Calls prog 240 #[.int .i64 18] w fun e w'=> e=.returned (.string (tx [115,110,100]))/\Below w.heap.size w w':= by
 go_enter func240,ntmps240
 go_wp2_with fail
 go_ret;exact⟨rfl,by repeat(first|exact Lb|refine Below.alloc ?_ zw _)⟩
theorem word21_calls (w:World):Calls prog 240 #[.int .i64 21] w fun e w'=> e=.returned (.string (tx [112,114,105,110,116]))/\Below w.heap.size w w':= by
 go_enter func240,ntmps240
 go_wp2_with fail
 go_ret;exact⟨rfl,by repeat(first|exact Lb|refine Below.alloc ?_ zw _)⟩
theorem word11_calls (w:World):Calls prog 136 #[.int .i64 11] w fun e w'=> e=.returned (.string (tx [43]))/\Below w.heap.size w w':= by
 go_enter func136,ntmps136
 go_wp2_with fail
 go_ret;exact⟨rfl,by repeat(first|exact Lb|refine Below.alloc ?_ zw _)⟩
theorem word12_calls (w:World):Calls prog 136 #[.int .i64 12] w fun e w'=> e=.returned (.string (tx [45]))/\Below w.heap.size w w':= by
 go_enter func136,ntmps136
 go_wp2_with fail
 go_ret;exact⟨rfl,by repeat(first|exact Lb|refine Below.alloc ?_ zw _)⟩
theorem word13_calls (w:World):Calls prog 136 #[.int .i64 13] w fun e w'=> e=.returned (.string (tx [42]))/\Below w.heap.size w w':= by
 go_enter func136,ntmps136
 go_wp2_with fail
 go_ret;exact⟨rfl,by repeat(first|exact Lb|refine Below.alloc ?_ zw _)⟩
theorem word14_calls (w:World):Calls prog 136 #[.int .i64 14] w fun e w'=> e=.returned (.string (tx [61]))/\Below w.heap.size w w':= by
 go_enter func136,ntmps136
 go_wp2_with fail
 go_ret;exact⟨rfl,by repeat(first|exact Lb|refine Below.alloc ?_ zw _)⟩
theorem word15_calls (w:World):Calls prog 136 #[.int .i64 15] w fun e w'=> e=.returned (.string (tx [60]))/\Below w.heap.size w w':= by
 go_enter func136,ntmps136
 go_wp2_with fail
 go_ret;exact⟨rfl,by repeat(first|exact Lb|refine Below.alloc ?_ zw _)⟩
theorem text_app (hl0:LevelOf u0 l0) (ht0:TextOf W u0 T0) (hT0:T0.length<=18000) (hl1:LevelOf u1 l1) (ht1:TextOf W u1 T1) (hT1:T1.length<=18000) (w:World) (hw:Below W.heap.size W w) :
 Calls prog 221 #[.agg #[u0,u1]] w (BareP w (inT l0 5 T0++ [32]++inT l1 6 T1)):=by
 have hW0:=(fun(X:World) (hX:Below w.heap.size w X)=>z57 5 hl0 ht0 yf X (hw.trans (hX.mono hw.size)))
 obtain⟨Ty0,pv0,g0,r0,rfl,hm0,hc0,hK0⟩:=ht0;obtain⟨t0,hq0⟩:∃t,tx (inT l0 5 T0)=t:=⟨_,rfl⟩
 have hts0:t0.size<=18002:=by rw[<-hq0,z32];have:=inT_len l0 5 T0;omega
 have HT0:=J hq0;have hW1:=(fun(X:World) (hX:Below w.heap.size w X)=>z57 6 hl1 ht1 yf X (hw.trans (hX.mono hw.size)))
 obtain⟨Ty1,pv1,g1,r1,rfl,hm1,hc1,hK1⟩:=ht1;obtain⟨t1,hq1⟩:∃t,tx (inT l1 6 T1)=t:=⟨_,rfl⟩
 have hts1:t1.size<=18002:=by rw[<-hq1,z32];have:=inT_len l1 6 T1;omega
 have HT1:=J hq1;have HW:I (∀(L:Int) (v:Value) (t:ByteArray),((L=5/\v=.iface Ty0 pv0/\t=t0)\/(L=6/\v=.iface Ty1 pv1/\t=t1))-> ∀X,Below w.heap.size w X->Calls prog 222 #[.int .i64 L,v] X fun e X'=> e=.returned (.string t)/\Below X.heap.size X X'):=by
  intro L v t h X hX;rcases h with (⟨rfl,rfl,rfl⟩|⟨rfl,rfl,rfl⟩)
  .rw[<-HT0.o];exact hW0 X hX
  .rw[<-HT1.o];exact hW1 X hX
 have hA:=(Ld w (.cells #[.iface Ty0 pv0,.iface Ty1 pv1] 160)).1;have hB:=(Below.refl w.heap.size w).alloc La (.cells #[.iface Ty0 pv0,.iface Ty1 pv1] 160);obtain⟨WA,hWA⟩:∃X,w.alloc (.cells #[.iface Ty0 pv0,.iface Ty1 pv1] 160)=X:=⟨_,rfl⟩
 rw[hWA]at hA hB;have HWA:=J hWA;have HB:=J hB;have q0:∀y:Later WA.heap.size WA,y.w.cell? ⟨w.heap.size,0,none⟩=some (.iface Ty0 pv0):=fun y=>jx
 have q1:∀y:Later WA.heap.size WA,y.w.cell? ⟨w.heap.size,1,none⟩=some (.iface Ty1 pv1):=fun y=>jy
 obtain⟨R,hR⟩:∃R,(inT l0 5 T0++ [32]++inT l1 6 T1:List UInt8)=R:=⟨_,rfl⟩
 rw[hR];have HR:=J hR;clear hA hB hWA hR hw hK0 hq0 hT0 hW0 hl0 hm0 hc0 hK1 hq1 hT1 hW1 hl1 hm1 hc1;go_enter func221,ntmps221
 go_upto_region 1 with fail
 rw[HWA.o];refine z20 WA.heap.size yb yb ?_;repeat(go_big_quiet_step (first|(rename_i y;go_at_call 222;refine(HW.o _ _ _ qg _ (HB.o.trans (y.h.mono HB.o.size))).mono ?_;rintro e w5 ⟨rfl,hb5⟩;exact⟨rfl,⟨w5,y.h.trans (hb5.mono y.h.size)⟩,rfl⟩)))
 refine wpQuiet_nil ?_;rintro w6 ⟨y,rfl⟩;have B2:=J (HB.o.trans (y.h.mono HB.o.size));generalize y.w=X1 at*;go_wp2_with fail
 go_ret;refine⟨?_,B2.o⟩;rw[<-HR.o];simp only[<-z24,HT0.o,HT1.o];rfl
theorem text_cons (hl0:LevelOf u0 l0) (ht0:TextOf W u0 T0) (hT0:T0.length<=18000) (hl1:LevelOf u1 l1) (ht1:TextOf W u1 T1) (hT1:T1.length<=18000) (w:World) (hw:Below W.heap.size W w) :
 Calls prog 244 #[.agg #[u0,u1]] w (BareP w (inT l0 2 T0++ [32,58,58,32]++inT l1 1 T1)):=by
 have hW0:=(fun(X:World) (hX:Below w.heap.size w X)=>z57 2 hl0 ht0 yf X (hw.trans (hX.mono hw.size)))
 obtain⟨Ty0,pv0,g0,r0,rfl,hm0,hc0,hK0⟩:=ht0;obtain⟨t0,hq0⟩:∃t,tx (inT l0 2 T0)=t:=⟨_,rfl⟩
 have hts0:t0.size<=18002:=by rw[<-hq0,z32];have:=inT_len l0 2 T0;omega
 have HT0:=J hq0;have hW1:=(fun(X:World) (hX:Below w.heap.size w X)=>z57 1 hl1 ht1 yf X (hw.trans (hX.mono hw.size)))
 obtain⟨Ty1,pv1,g1,r1,rfl,hm1,hc1,hK1⟩:=ht1;obtain⟨t1,hq1⟩:∃t,tx (inT l1 1 T1)=t:=⟨_,rfl⟩
 have hts1:t1.size<=18002:=by rw[<-hq1,z32];have:=inT_len l1 1 T1;omega
 have HT1:=J hq1;have HW:I (∀(L:Int) (v:Value) (t:ByteArray),((L=2/\v=.iface Ty0 pv0/\t=t0)\/(L=1/\v=.iface Ty1 pv1/\t=t1))-> ∀X,Below w.heap.size w X->Calls prog 222 #[.int .i64 L,v] X fun e X'=> e=.returned (.string t)/\Below X.heap.size X X'):=by
  intro L v t h X hX;rcases h with (⟨rfl,rfl,rfl⟩|⟨rfl,rfl,rfl⟩)
  .rw[<-HT0.o];exact hW0 X hX
  .rw[<-HT1.o];exact hW1 X hX
 have hA:=(Ld w (.cells #[.iface Ty0 pv0,.iface Ty1 pv1] 172)).1;have hB:=(Below.refl w.heap.size w).alloc La (.cells #[.iface Ty0 pv0,.iface Ty1 pv1] 172);obtain⟨WA,hWA⟩:∃X,w.alloc (.cells #[.iface Ty0 pv0,.iface Ty1 pv1] 172)=X:=⟨_,rfl⟩
 rw[hWA]at hA hB;have HWA:=J hWA;have HB:=J hB;have q0:∀y:Later WA.heap.size WA,y.w.cell? ⟨w.heap.size,0,none⟩=some (.iface Ty0 pv0):=fun y=>jx
 have q1:∀y:Later WA.heap.size WA,y.w.cell? ⟨w.heap.size,1,none⟩=some (.iface Ty1 pv1):=fun y=>jy
 obtain⟨R,hR⟩:∃R,(inT l0 2 T0++ [32,58,58,32]++inT l1 1 T1:List UInt8)=R:=⟨_,rfl⟩
 rw[hR];have HR:=J hR;clear hA hB hWA hR hw hK0 hq0 hT0 hW0 hl0 hm0 hc0 hK1 hq1 hT1 hW1 hl1 hm1 hc1;go_enter func244,ntmps244
 go_upto_region 1 with fail
 rw[HWA.o];refine z20 WA.heap.size yb yb ?_;repeat(go_big_quiet_step (first|(rename_i y;go_at_call 222;refine(HW.o _ _ _ qg _ (HB.o.trans (y.h.mono HB.o.size))).mono ?_;rintro e w5 ⟨rfl,hb5⟩;exact⟨rfl,⟨w5,y.h.trans (hb5.mono y.h.size)⟩,rfl⟩)))
 refine wpQuiet_nil ?_;rintro w6 ⟨y,rfl⟩;have B2:=J (HB.o.trans (y.h.mono HB.o.size));generalize y.w=X1 at*;go_wp2_with fail
 go_ret;refine⟨?_,B2.o⟩;rw[<-HR.o];simp only[<-z24,HT0.o,HT1.o];rfl
theorem text_perform (a:ByteArray) (ha:a.size<=8) (hl0:LevelOf u0 l0) (ht0:TextOf W u0 T0) (hT0:T0.length<=18000) (w:World) (hw:Below W.heap.size W w) :
 Calls prog 251 #[.agg #[.string a,u0]] w (BareP w ([100,111,32]++a.data.toList++ [32]++inT l0 6 T0)):=by
 have hW0:=(fun(X:World) (hX:Below w.heap.size w X)=>z57 6 hl0 ht0 yf X (hw.trans (hX.mono hw.size)))
 obtain⟨Ty0,pv0,g0,r0,rfl,hm0,hc0,hK0⟩:=ht0;refine zb60 ?_;intro t0 hq0 hts0 HT0 HW;have hA:=(Ld w (.cells #[.string a,.iface Ty0 pv0] 176)).1;have hB:=(Below.refl w.heap.size w).alloc La (.cells #[.string a,.iface Ty0 pv0] 176);obtain⟨WA,hWA⟩:∃X,w.alloc (.cells #[.string a,.iface Ty0 pv0] 176)=X:=⟨_,rfl⟩
 rw[hWA]at hA hB;have HWA:=J hWA;have HB:=J hB;have q0:∀y:Later WA.heap.size WA,y.w.cell? ⟨w.heap.size,0,none⟩=some (.string a):=fun y=>jx
 have q1:∀y:Later WA.heap.size WA,y.w.cell? ⟨w.heap.size,1,none⟩=some (.iface Ty0 pv0):=fun y=>jy
 obtain⟨R,hR⟩:∃R,([100,111,32]++a.data.toList++ [32]++inT l0 6 T0:List UInt8)=R:=⟨_,rfl⟩
 rw[hR];have HR:=J hR;clear hA hB hWA hR hw hK0 hq0 hT0 hW0 hl0 hm0 hc0;go_enter func251,ntmps251
 go_upto_region 1 with fail
 rw[HWA.o];refine z20 WA.heap.size yb yb ?_;repeat(go_big_quiet_step (first|(rename_i y;go_at_call 222;refine(HW.o _ _ _ (by first|exact⟨rfl,rfl,rfl⟩) _ (HB.o.trans (y.h.mono HB.o.size))).mono ?_;rintro e w5 ⟨rfl,hb5⟩;exact⟨rfl,⟨w5,y.h.trans (hb5.mono y.h.size)⟩,rfl⟩)))
 refine wpQuiet_nil ?_;rintro w6 ⟨y,rfl⟩;have B2:=J (HB.o.trans (y.h.mono HB.o.size));generalize y.w=X1 at*;go_wp2_with fail
 go_ret;refine⟨?_,B2.o⟩;rw[<-HR.o];simp only[<-z24,HT0.o,tx_name];rfl
theorem text_take {key:List UInt8}(hky:key.length<=5) (hkw:∀X,Calls prog 240 #[.int .i64 k] X fun e X'=> e=.returned (.string (tx key))/\Below X.heap.size X X') (hl0:LevelOf u0 l0) (ht0:TextOf W u0 T0) (hT0:T0.length<=18000) (w:World) (hw:Below W.heap.size W w) :
 Calls prog 239 #[.agg #[.int .i64 k,u0]] w (BareP w (key++ [32]++inT l0 6 T0)):=by
 have hW0:=(fun(X:World) (hX:Below w.heap.size w X)=>z57 6 hl0 ht0 yf X (hw.trans (hX.mono hw.size)))
 obtain⟨Ty0,pv0,g0,r0,rfl,hm0,hc0,hK0⟩:=ht0;refine zb60 ?_;intro t0 hq0 hts0 HT0 HW;obtain⟨sg,hsg⟩:∃s,tx key=s:=⟨_,rfl⟩
 have hss:sg.size<=5:=by rw[<-hsg,z32];exact hky
 have HSg:=J hsg;have HWd:I (∀X,Calls prog 240 #[.int .i64 k] X fun e X'=> e=.returned (.string sg)/\Below X.heap.size X X'):=fun X=>by rw[<-HSg.o];exact hkw X
 clear hsg hky hkw;have hA:=(Ld w (.cells #[.int .i64 k,.iface Ty0 pv0] 170)).1;have hB:=(Below.refl w.heap.size w).alloc La (.cells #[.int .i64 k,.iface Ty0 pv0] 170);obtain⟨WA,hWA⟩:∃X,w.alloc (.cells #[.int .i64 k,.iface Ty0 pv0] 170)=X:=⟨_,rfl⟩
 rw[hWA]at hA hB;have HWA:=J hWA;have HB:=J hB;have q0:∀y:Later WA.heap.size WA,y.w.cell? ⟨w.heap.size,0,none⟩=some (.int .i64 k):=fun y=>jx
 have q1:∀y:Later WA.heap.size WA,y.w.cell? ⟨w.heap.size,1,none⟩=some (.iface Ty0 pv0):=fun y=>jy
 obtain⟨R,hR⟩:∃R,(key++ [32]++inT l0 6 T0:List UInt8)=R:=⟨_,rfl⟩
 rw[hR];have HR:=J hR;clear hA hB hWA hR hw hK0 hq0 hT0 hW0 hl0 hm0 hc0;go_enter func239,ntmps239
 go_upto_region 1 with fail
 rw[HWA.o];refine z20 WA.heap.size yb yb ?_;repeat(go_big_quiet_step (first|(rename_i y;go_at_call 222;refine(HW.o _ _ _ (by first|exact⟨rfl,rfl,rfl⟩) _ (HB.o.trans (y.h.mono HB.o.size))).mono ?_;rintro e w5 ⟨rfl,hb5⟩;exact⟨rfl,⟨w5,y.h.trans (hb5.mono y.h.size)⟩,rfl⟩)|(rename_i y;go_at_call 240;refine(HWd.o _).mono ?_;rintro e w5 ⟨rfl,hb5⟩;exact⟨rfl,⟨w5,y.h.trans (hb5.mono y.h.size)⟩,rfl⟩)))
 refine wpQuiet_nil ?_;rintro w6 ⟨y,rfl⟩;have B2:=J (HB.o.trans (y.h.mono HB.o.size));generalize y.w=X1 at*;go_wp2_with fail
 go_ret;refine⟨?_,B2.o⟩;rw[<-HR.o];simp only[<-z24,HT0.o,HSg.o];rfl
theorem text_sign {v p q:Int}{key:List UInt8}(hk:k=11\/k=12\/k=13\/k=14\/k=15) (hlv:lvZ k=v) (hv:(v=3/\p=3/\q=4)\/(v=4/\p=4/\q=5)\/(v=2/\p=3/\q=3)) (hky:key.length<=5) (hkw:∀X,Calls prog 136 #[.int .i64 k] X fun e X'=> e=.returned (.string (tx key))/\Below X.heap.size X X') (hl0:LevelOf u0 l0) (ht0:TextOf W u0 T0) (hT0:T0.length<=18000) (hl1:LevelOf u1 l1) (ht1:TextOf W u1 T1) (hT1:T1.length<=18000) (w:World) (hw:Below W.heap.size W w) :
 Calls prog 265 #[.agg #[.int .i64 k,u0,u1]] w (BareP w (inT l0 p T0++ [32]++key++ [32]++inT l1 q T1)):=by
 have hW0:=(fun(X:World) (hX:Below w.heap.size w X)=>z57 p hl0 ht0 yf X (hw.trans (hX.mono hw.size)))
 obtain⟨Ty0,pv0,g0,r0,rfl,hm0,hc0,hK0⟩:=ht0;obtain⟨t0,hq0⟩:∃t,tx (inT l0 p T0)=t:=⟨_,rfl⟩
 have hts0:t0.size<=18002:=by rw[<-hq0,z32];have:=inT_len l0 p T0;omega
 have HT0:=J hq0;have hW1:=(fun(X:World) (hX:Below w.heap.size w X)=>z57 q hl1 ht1 yf X (hw.trans (hX.mono hw.size)))
 obtain⟨Ty1,pv1,g1,r1,rfl,hm1,hc1,hK1⟩:=ht1;obtain⟨t1,hq1⟩:∃t,tx (inT l1 q T1)=t:=⟨_,rfl⟩
 have hts1:t1.size<=18002:=by rw[<-hq1,z32];have:=inT_len l1 q T1;omega
 have HT1:=J hq1;have HW:I (∀(L:Int) (v:Value) (t:ByteArray),((L=p/\v=.iface Ty0 pv0/\t=t0)\/(L=q/\v=.iface Ty1 pv1/\t=t1))-> ∀X,Below w.heap.size w X->Calls prog 222 #[.int .i64 L,v] X fun e X'=> e=.returned (.string t)/\Below X.heap.size X X'):=by
  intro L v t h X hX;rcases h with (⟨rfl,rfl,rfl⟩|⟨rfl,rfl,rfl⟩)
  .rw[<-HT0.o];exact hW0 X hX
  .rw[<-HT1.o];exact hW1 X hX
 obtain⟨sg,hsg⟩:∃s,tx key=s:=⟨_,rfl⟩
 have hss:sg.size<=5:=by rw[<-hsg,z32];exact hky
 have HSg:=J hsg;have HWd:I (∀X,Calls prog 136 #[.int .i64 k] X fun e X'=> e=.returned (.string sg)/\Below X.heap.size X X'):=fun X=>by rw[<-HSg.o];exact hkw X
 clear hsg hky hkw;have hA:=(Ld w (.cells #[.int .i64 k,.iface Ty0 pv0,.iface Ty1 pv1] 183)).1;have hB:=(Below.refl w.heap.size w).alloc La (.cells #[.int .i64 k,.iface Ty0 pv0,.iface Ty1 pv1] 183);obtain⟨WA,hWA⟩:∃X,w.alloc (.cells #[.int .i64 k,.iface Ty0 pv0,.iface Ty1 pv1] 183)=X:=⟨_,rfl⟩
 rw[hWA]at hA hB;have HWA:=J hWA;have HB:=J hB;obtain⟨R,hR⟩:∃R,(inT l0 p T0++ [32]++key++ [32]++inT l1 q T1:List UInt8)=R:=⟨_,rfl⟩
 rw[hR];have HR:=J hR;have HLv:I (∀X,Calls prog 263 #[.agg #[.int .i64 k,.iface Ty0 pv0,.iface Ty1 pv1]] X (LevP X v)):=fun X=>by rw[<-hlv];exact level_sign hk Ty0 Ty1 pv0 pv1 X
 have HA:=J hA;have c0:WA.cell? ⟨w.heap.size,0,none⟩=some (.int .i64 k):=by rw[z8 hA 0];rfl
 have c1:WA.cell? ⟨w.heap.size,1,none⟩=some (.iface Ty0 pv0):=by rw[z8 hA 1];rfl
 have c2:WA.cell? ⟨w.heap.size,2,none⟩=some (.iface Ty1 pv1):=by rw[z8 hA 2];rfl
 clear hk hlv hA hB hWA hR hw hK0 hq0 hT0 hW0 hl0 hm0 hc0 hK1 hq1 hT1 hW1 hl1 hm1 hc1;rcases hv with ⟨rfl,rfl,rfl⟩|⟨rfl,rfl,rfl⟩|⟨rfl,rfl,rfl⟩
 all_goals
  go_enter func265,ntmps265
  go_upto_region 1 with fail
  rw[HWA.o];go_wp2_with fail
  refine(HLv.o WA).mono ?_;rintro e W1 ⟨rfl,hb1⟩;have HA1:=J ((hb1.block w.heap.size (z12 HA.o)).trans HA.o);have HB1:=J (HB.o.trans (hb1.mono HB.o.size));clear hb1 HLv HWA HA c0 c1 c2;have q0:∀y:Later W1.heap.size W1,y.w.cell? ⟨w.heap.size,0,none⟩=some (.int .i64 k):=fun y=>by rw[z8 ((y.h.block w.heap.size (z12 HA1.o)).trans HA1.o) 0];rfl
  have q1:∀y:Later W1.heap.size W1,y.w.cell? ⟨w.heap.size,1,none⟩=some (.iface Ty0 pv0):=fun y=>by rw[z8 ((y.h.block w.heap.size (z12 HA1.o)).trans HA1.o) 1];rfl
  have q2:∀y:Later W1.heap.size W1,y.w.cell? ⟨w.heap.size,2,none⟩=some (.iface Ty1 pv1):=fun y=>by rw[z8 ((y.h.block w.heap.size (z12 HA1.o)).trans HA1.o) 2];rfl
  go_upto_region 5 with fail
  refine z20 W1.heap.size yb yb ?_;repeat(go_big_quiet_step (first|(rename_i y;go_at_call 222;refine(HW.o _ _ _ qg _ (HB1.o.trans (y.h.mono HB1.o.size))).mono ?_;rintro e w5 ⟨rfl,hb5⟩;exact⟨rfl,⟨w5,y.h.trans (hb5.mono y.h.size)⟩,rfl⟩)|(rename_i y;go_at_call 136;refine(HWd.o _).mono ?_;rintro e w5 ⟨rfl,hb5⟩;exact⟨rfl,⟨w5,y.h.trans (hb5.mono y.h.size)⟩,rfl⟩)))
  refine wpQuiet_nil ?_;rintro w6 ⟨y,rfl⟩;have B2:=J (HB1.o.trans (y.h.mono HB1.o.size));generalize y.w=X1 at*;go_wp2_with fail
  go_ret;refine⟨?_,B2.o⟩;rw[<-HR.o];simp only[<-z24,HT0.o,HT1.o,HSg.o];rfl
end
section
open Go.RowKit
def okb (l:Bool) (x:Int):Bool:=digitZ x || (l && letterZ x)
def IsRun (s:ByteArray) (l:Bool) (p e:Nat):Prop:=
 p<=e/\e<=s.size/\(∀j,p<=j->j<e->okb l (bz s j)=true)/\(e<s.size->okb l (bz s e)=false)
theorem IsRun.unique {l:Bool}{e':Nat}(h:IsRun s l p e) (h':IsRun s l p e'):e=e':= by
 obtain⟨h1,h2,h3,h4⟩:=h;obtain⟨g1,g2,g3,g4⟩:=h';rcases Nat.lt_trichotomy e e' with hlt|heq|hlt
 .have a:=g3 e h1 hlt;have b:=h4 yf;rw[a]at b
  cases b
 .exact heq
 .have a:=h3 e' g1 hlt;have b:=g4 yf;rw[a]at b
  cases b
def runGo (s:ByteArray) (l:Bool):Nat->Nat->Nat
 |0,p=>p
 |f+1,p=>if p<s.size/\okb l (bz s p)=true then runGo s l f (p+1) else p
def runTo (s:ByteArray) (l:Bool) (p:Nat):Nat:=runGo s l (s.size-p) p
theorem isRun_go (s:ByteArray) (l:Bool):∀(f p:Nat),p+f=s.size->IsRun s l p (runGo s l f p)
 |0,p,h=>⟨La,by simp[runGo];omega,fun j h1 h2=>by simp[runGo]at h2;omega,fun h'=> by simp[runGo]at h';omega⟩
 | f+1,p,h=>by
   unfold runGo;split
   .rename_i hc;obtain⟨h1,h2,h3,h4⟩:=isRun_go s l f (p+1) yf;refine⟨yf,h2,fun j hj1 hj2=>?_,h4⟩;by_cases e:j=p
    .rw[e];exact hc.2
    .exact h3 j yf hj2
   .rename_i hc;refine⟨La,yf,fun j h1 h2=>yf,fun h'=> ?_⟩
    cases hk:okb l (bz s p) with
    |false=>rfl
    |true=>exact absurd ⟨h',hk⟩ hc
theorem z36 (s:ByteArray) (l:Bool) (h:p<=s.size):IsRun s l p (runTo s l p):=isRun_go s l _ p yf
theorem IsRun.eq {l:Bool}(h:IsRun s l p e):e=runTo s l p:=h.unique (z36 s l (Lf h.1 h.2.1))
def signBytes:List (List UInt8):= [[45,62],[61,62],[58,58],[40],[41],[44],[43],[45],[42],[61],[60],[124],[58],[59]]
def signStrs:List ByteArray:=signBytes.map fun l=>⟨l.toArray⟩
def signHit (t g:ByteArray):Bool:=decide (g.size<=t.size) && ((t.extract 0 g.size).toList==g.toList)
def signOf (t:ByteArray):ByteArray:=(signStrs.find? (signHit t)).getD ByteArray.empty
structure Wd where
 kind:Int
 text:ByteArray
 at_:Nat
instance:Inhabited Wd:=⟨⟨0,ByteArray.empty,0⟩⟩
def wordAt (s:ByteArray) (p:Nat):Except Int (Wd×Nat):=
 if digitZ (bz s p)=true then
  let e:=runTo s false p
  if 9<e-p\/(bz s p=48/\1<e-p) then .error 3 else .ok (⟨1,s.extract p e,p⟩,e)
 else if letterZ (bz s p)=true then
  let e:=runTo s true p
  if 8<e-p then .error 4 else .ok (⟨if isKey (s.extract p e) then 3 else 2,s.extract p e,p⟩,e)
 else
  let g:=signOf (s.extract p s.size)
  if g.size=0 then .error 2 else .ok (⟨4,g,p⟩,p+g.size)
def wordVal:Except Int (Wd×Nat)->Value
 |.error c=> .tuple #[.agg #[.int .i64 0,.string ⟨#[]⟩,.int .i64 0],.int .i64 0,.int .i64 c]
 |.ok (d,e)=> .tuple #[.agg #[.int .i64 d.kind,.string d.text,.int .i64 d.at_],.int .i64 e,.int .i64 0]
theorem signOf_hit {t g:ByteArray}{k:Nat}(hk:k<14) (hg:signStrs.getD k ByteArray.empty=g) (hh:signHit t g=true) (hno:∀j,j<k->signHit t (signStrs.getD j ByteArray.empty)=false):signOf t=g:=by
 have hl:signStrs.length=14:=rfl;have e:∀j,j<14->signStrs[j]?=some (signStrs.getD j ByteArray.empty):=fun j hj=>by simp[List.getD,List.getElem?_eq_getElem (show j<signStrs.length by omega)]
 unfold signOf;have:signStrs.find? (signHit t)=some g:=by
  rw[List.find?_eq_some_iff_getElem];refine⟨hh,k,yf,?_,fun j hj=>?_⟩
  .have:=e k hk;rw[List.getElem?_eq_getElem (show k<signStrs.length by omega)]at this;rw[hg]at this;exact Option.some.inj this
  .have h1:=e j yf;rw[List.getElem?_eq_getElem (show j<signStrs.length by omega)]at h1;rw[Option.some.inj h1,hno j hj];rfl
 rw[this];rfl
theorem signOf_none {t:ByteArray}(hno:∀j,j<14->signHit t (signStrs.getD j ByteArray.empty)=false):signOf t=ByteArray.empty:=by
 unfold signOf;have:signStrs.find? (signHit t)=none:=by
  rw[List.find?_eq_none];intro x hx;obtain⟨j,hj,rfl⟩:=List.getElem_of_mem hx;have hl:signStrs.length=14:=rfl;have h1:=hno j yf;have e:signStrs.getD j ByteArray.empty=signStrs[j]:=by simp[List.getD,List.getElem?_eq_getElem hj]
  rw[e]at h1;simp[h1]
 rw[this];rfl
theorem signOf_size (t:ByteArray):(signOf t).size<=2:=by
 unfold signOf
 cases h:signStrs.find? (signHit t) with
 |none=>decide
 | some x=>
   have hx:=List.mem_of_find?_eq_some h;have:∀x∈signStrs,x.size<=2:=yh;exact this x hx
theorem wordAt_end {d:Wd}(hp:p<s.size) (h:wordAt s p=.ok (d,e)):p<e/\e<=p+9:=by
 unfold wordAt at h;by_cases hd:digitZ (bz s p)=true
 .obtain⟨h1,h2,h3,h4⟩:=z36 s false (p:=p) yf;rw[if_pos hd]at h;dsimp only at h;split at h
  .cases h
  ·cases h;have:p≠runTo s false p:=fun e=>by
    have:=h4 yf;rw[<-e,okb,hd]at this;simp at this
   omega
 .rw[if_neg hd]at h;by_cases hL:letterZ (bz s p)=true
  .obtain⟨h1,h2,h3,h4⟩:=z36 s true (p:=p) yf;rw[if_pos hL]at h;dsimp only at h;split at h
   .cases h
   ·cases h;have:p≠runTo s true p:=fun e=>by
     have:=h4 yf;rw[<-e,okb,hL]at this;simp at this
    omega
  .rw[if_neg hL]at h;dsimp only at h;have:=signOf_size (s.extract p s.size);split at h
   .cases h
   .cases h;omega
def blankZ (x:Int):Bool:=x==32 || x==10
def lexGo (s:ByteArray):Nat->Nat->List Wd->List Wd×Int×Nat
 |0,_,ws=>(ws,0,0)
 | f+1,p,ws=>
   if p<s.size then
    if blankZ (bz s p)=true then lexGo s f (p+1) ws
    else match wordAt s p with
     |.error c=>([],c,p)
     |.ok (d,e)=>lexGo s f e (ws++ [d])
   else (ws,0,0)
def lexAll (s:ByteArray):List Wd×Int×Nat:=if 1500<s.size then ([],1,0) else lexGo s s.size 0 []
theorem lexGo_end (h:¬ p<s.size):∀(f:Nat) (ws:List Wd),lexGo s f p ws=(ws,0,0)
 |0,_=>rfl
 |f+1,ws=>by rw[lexGo,if_neg h]
theorem lexGo_blank {ws:List Wd}(h:p<s.size) (hb:blankZ (bz s p)=true):lexGo s (f+1) p ws=lexGo s f (p+1) ws:=by
 rw[lexGo,if_pos h,if_pos hb]
theorem lexGo_bad {ws:List Wd}{c:Int}(h:p<s.size) (hb:¬ blankZ (bz s p)=true) (hw:wordAt s p=.error c):lexGo s (f+1) p ws=([],c,p):=by
 rw[lexGo,if_pos h,if_neg hb,hw]
theorem lexGo_word {ws:List Wd}{d:Wd}(h:p<s.size) (hb:¬ blankZ (bz s p)=true) (hw:wordAt s p=.ok (d,e)):lexGo s (f+1) p ws=lexGo s f e (ws++ [d]):=by
 rw[lexGo,if_pos h,if_neg hb,hw]
def flatW:List Wd->List Value
 |[]=> []
 |d::r=> .int .i64 d.kind:: .string d.text:: .int .i64 d.at_::flatW r
theorem flatW_append:∀(a b:List Wd),flatW (a++b)=flatW a++flatW b
 |[],_=>rfl
 |d::r,b=>by simp[flatW,flatW_append r b]
end
end Go.Proofs.YtfbojelpdccjaaaGreatDoor
