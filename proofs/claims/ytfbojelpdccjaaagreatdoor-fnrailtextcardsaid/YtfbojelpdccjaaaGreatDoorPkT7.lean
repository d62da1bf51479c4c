import Derived.Test.YtfbojelpdccjaaaGreatDoorPkT6
open Go.Proofs.Tryz
set_option maxHeartbeats 4000000
set_option maxRecDepth 100000
namespace Go.Proofs.YtfbojelpdccjaaaGreatDoor
open Go.RowKit Go.Deep
variable {T0 T1:List UInt8}{u0 u1:Value}{W:World}
section
open Go.RowKit Go.Deep
def LevelOf (v:Value) (l:Int):Prop:=
 ∃Ty pv g rv,v=.iface Ty pv/\(∀w,(method 344 Ty pv "loop.example/handrail/impl.level").run prog w=.ok (g,rv) w)/\(∀args w,(callFunc g args).run prog w=.ok (.enter g args) w)/\ ∀w,Calls prog g #[rv] w fun e w'=> e=.returned (.int .i64 l)/\Below w.heap.size w w'
def TextOf (W:World) (v:Value) (T:List UInt8):Prop:=
 ∃Ty pv g rv,v=.iface Ty pv/\(∀w,(method 344 Ty pv "loop.example/handrail/impl.text").run prog w=.ok (g,rv) w)/\(∀args w,(callFunc g args).run prog w=.ok (.enter g args) w)/\ ∀w,Below W.heap.size W w->Calls prog g #[rv] w (BareP w T)
theorem z57 {v:Value}{l:Int}{T:List UInt8}(L:Int) (hl:LevelOf v l) (ht:TextOf W v T) (hT:T.length<=20000) (w:World) (hw:Below W.heap.size W w) :
 Calls prog 222 #[.int .i64 L,v] w (BareP w (if l<L then [40]++T++ [41] else T)):=by
 obtain⟨Ty,pv,g1,r1,rfl,hm1,hc1,hK1⟩:=hl;obtain⟨Ty',pv',g2,r2,e,hm2,hc2,hK2⟩:=ht
 cases e;have HK1:=J (hK1 w);have HK2:=J (fun X (hX:Below w.heap.size w X)=>hK2 X (hw.trans (hX.mono hw.size)));obtain⟨t,ht⟩:∃t,tx T=t:=⟨_,rfl⟩
 have hts:t.size<=20000:=by rw[<-ht,z32];exact hT
 have HT:=J ht;have HK3:=J (show ∀X,Below w.heap.size w X->Calls prog g2 #[r2] X fun e X'=> e=.returned (.string t)/\Below X.heap.size X X' from fun X hX=>by rw[<-HT.o];exact HK2.o X hX);obtain⟨R,hR⟩:∃R,(if l<L then [40]++T++ [41] else T)=R:=⟨_,rfl⟩
 rw[hR];have HR:=J hR;clear hK1 hK2 hw ht HK2 hT hR;go_enter func222,ntmps222
 go_wp2_with fail
 refine HK1.o.mono ?_;rintro e w1 ⟨rfl,hb1⟩;have B1:=J hb1;clear hb1 hm1 hc1 HK1;by_cases hlt:l<L
 .go_wp2_with fail
  refine(HK3.o w1 B1.o).mono ?_;rintro e w2 ⟨rfl,hb2⟩;have B2:=J (B1.o.trans (hb2.mono B1.o.size));clear hb2 HK3 hm2 hc2;go_wp2_with fail
  go_ret;refine⟨?_,B2.o⟩;rw[<-HR.o,if_pos hlt,<-z24,<-z24,HT.o];rfl
 .go_wp2_with fail
  refine(HK3.o w1 B1.o).mono ?_;rintro e w2 ⟨rfl,hb2⟩;have B2:=J (B1.o.trans (hb2.mono B1.o.size));clear hb2 HK3 hm2 hc2;go_wp2_with fail
  go_ret;refine⟨?_,B2.o⟩;rw[<-HR.o,if_neg yf,HT.o];rfl
theorem text_unit (w:World):Calls prog 213 #[.agg #[]] w (BareP w [40,41]):=by
 go_enter func213,ntmps213
 go_wp2_with fail
 go_ret;exact⟨rfl,by repeat(first|exact Lb|refine Below.alloc ?_ zw _)⟩
theorem text_var (a:ByteArray) (w:World):Calls prog 217 #[.agg #[.string a]] w (BareP w a.data.toList):=by
 go_enter func217,ntmps217
 go_wp2_with fail
 go_ret;exact⟨rfl,by repeat(first|exact Lb|refine Below.alloc ?_ zw _)⟩
theorem text_fn {u:Value}{T:List UInt8}(a:ByteArray) (ha:a.size<=8) (ht:TextOf W u T) (hT:T.length<=20000) (w:World) (hw:Below W.heap.size W w) :
 Calls prog 203 #[.agg #[.string a,u]] w (BareP w ([102,110,32]++a.data.toList++ [32,45,62,32]++T)):=by
 obtain⟨Ty,pv,g,r,rfl,hm,hc,hK⟩:=ht;obtain⟨t,ht⟩:∃t,tx T=t:=⟨_,rfl⟩
 have hts:t.size<=20000:=by rw[<-ht,z32];exact hT
 have HT:=J ht;have HK:=J (show ∀X,Below w.heap.size w X->Calls prog g #[r] X fun e X'=> e=.returned (.string t)/\Below X.heap.size X X' from fun X hX=>by rw[<-HT.o];exact hK X (hw.trans (hX.mono hw.size)));clear hK hw ht hT;have hA:=(Ld w (.cells #[.string a,.iface Ty pv] 135)).1;have hB:=(Below.refl w.heap.size w).alloc La (.cells #[.string a,.iface Ty pv] 135);obtain⟨WA,hWA⟩:∃X,w.alloc (.cells #[.string a,.iface Ty pv] 135)=X:=⟨_,rfl⟩
 rw[hWA]at hA hB;have HWA:=J hWA;have HB:=J hB;have q0:∀y:Later WA.heap.size WA,y.w.cell? ⟨w.heap.size,0,none⟩=some (.string a):=fun y=>jx
 have q1:∀y:Later WA.heap.size WA,y.w.cell? ⟨w.heap.size,1,none⟩=some (.iface Ty pv):=fun y=>jy
 obtain⟨R,hR⟩:∃R,([102,110,32]++a.data.toList++ [32,45,62,32]++T:List UInt8)=R:=⟨_,rfl⟩
 rw[hR];have HR:=J hR;clear hA hB hWA hR;go_enter func203,ntmps203
 go_upto_region 1 with fail
 rw[HWA.o];refine z20 WA.heap.size yb yb ?_;repeat(go_big_quiet_step (first|(rename_i y;refine(HK.o _ (HB.o.trans (y.h.mono HB.o.size))).mono ?_;rintro e w5 ⟨rfl,hb5⟩;exact⟨rfl,⟨w5,y.h.trans (hb5.mono y.h.size)⟩,rfl⟩)))
 refine wpQuiet_nil ?_;rintro w6 ⟨y,rfl⟩;have B2:=J (HB.o.trans (y.h.mono HB.o.size));generalize y.w=X1 at*;go_wp2_with fail
 go_ret;refine⟨?_,B2.o⟩;rw[<-HR.o];simp only[<-z24];rw[HT.o,tx_name];rfl
def inT (l L:Int) (T:List UInt8):List UInt8:=if l<L then [40]++T++ [41] else T
theorem inT_len (l L:Int) (T:List UInt8):(inT l L T).length<=T.length+2:=by
 unfold inT;split
 .simp
 .omega
theorem text_let (a:ByteArray) (ha:a.size<=8) (ht0:TextOf W u0 T0) (hT0:T0.length<=18000) (ht1:TextOf W u1 T1) (hT1:T1.length<=18000) (w:World) (hw:Below W.heap.size W w) :
 Calls prog 225 #[.agg #[.string a,u0,u1]] w (BareP w ([108,101,116,32]++a.data.toList++ [32,61,32]++T0++ [32,105,110,32]++T1)):=by
 obtain⟨Ty0,pv0,g0,r0,rfl,hm0,hc0,hK0⟩:=ht0;refine zb56 ?_;intro t0 ht0 hts0 HT0 HK0;obtain⟨Ty1,pv1,g1,r1,rfl,hm1,hc1,hK1⟩:=ht1;refine zb57 ?_;intro t1 ht1 hts1 HT1 HK1;have hA:=(Ld w (.cells #[.string a,.iface Ty0 pv0,.iface Ty1 pv1] 162)).1;have hB:=(Below.refl w.heap.size w).alloc La (.cells #[.string a,.iface Ty0 pv0,.iface Ty1 pv1] 162);obtain⟨WA,hWA⟩:∃X,w.alloc (.cells #[.string a,.iface Ty0 pv0,.iface Ty1 pv1] 162)=X:=⟨_,rfl⟩
 rw[hWA]at hA hB;have HWA:=J hWA;have HB:=J hB;have q0:∀y:Later WA.heap.size WA,y.w.cell? ⟨w.heap.size,0,none⟩=some (.string a):=fun y=>jx
 have q1:∀y:Later WA.heap.size WA,y.w.cell? ⟨w.heap.size,1,none⟩=some (.iface Ty0 pv0):=fun y=>jy
 have q2:∀y:Later WA.heap.size WA,y.w.cell? ⟨w.heap.size,2,none⟩=some (.iface Ty1 pv1):=fun y=>jz
 obtain⟨R,hR⟩:∃R,([108,101,116,32]++a.data.toList++ [32,61,32]++T0++ [32,105,110,32]++T1:List UInt8)=R:=⟨_,rfl⟩
 rw[hR];have HR:=J hR;clear hA hB hWA hR hw hK0 ht0 hT0 hK1 ht1 hT1;go_enter func225,ntmps225
 go_upto_region 1 with fail
 rw[HWA.o];refine z20 WA.heap.size yb yb ?_;repeat(go_big_quiet_step (first|(rename_i y;refine(HK0.o _ (HB.o.trans (y.h.mono HB.o.size))).mono ?_;rintro e w5 ⟨rfl,hb5⟩;exact⟨rfl,⟨w5,y.h.trans (hb5.mono y.h.size)⟩,rfl⟩)|(rename_i y;refine(HK1.o _ (HB.o.trans (y.h.mono HB.o.size))).mono ?_;rintro e w5 ⟨rfl,hb5⟩;exact⟨rfl,⟨w5,y.h.trans (hb5.mono y.h.size)⟩,rfl⟩)))
 refine wpQuiet_nil ?_;rintro w6 ⟨y,rfl⟩;have B2:=J (HB.o.trans (y.h.mono HB.o.size));generalize y.w=X1 at*;go_wp2_with fail
 go_ret;refine⟨?_,B2.o⟩;rw[<-HR.o];simp only[<-z24,HT0.o,HT1.o,tx_name];rfl
theorem text_recur (a:ByteArray) (ha:a.size<=8) (b:ByteArray) (hb:b.size<=8) (ht0:TextOf W u0 T0) (hT0:T0.length<=18000) (ht1:TextOf W u1 T1) (hT1:T1.length<=18000) (w:World) (hw:Below W.heap.size W w) :
 Calls prog 228 #[.agg #[.string a,.string b,u0,u1]] w (BareP w ([108,101,116,32,114,101,99,32]++a.data.toList++ [32]++b.data.toList++ [32,61,32]++T0++ [32,105,110,32]++T1)):=by
 obtain⟨Ty0,pv0,g0,r0,rfl,hm0,hc0,hK0⟩:=ht0;refine zb56 ?_;intro t0 ht0 hts0 HT0 HK0;obtain⟨Ty1,pv1,g1,r1,rfl,hm1,hc1,hK1⟩:=ht1;refine zb57 ?_;intro t1 ht1 hts1 HT1 HK1;have hA:=(Ld w (.cells #[.string a,.string b,.iface Ty0 pv0,.iface Ty1 pv1] 164)).1;have hB:=(Below.refl w.heap.size w).alloc La (.cells #[.string a,.string b,.iface Ty0 pv0,.iface Ty1 pv1] 164);obtain⟨WA,hWA⟩:∃X,w.alloc (.cells #[.string a,.string b,.iface Ty0 pv0,.iface Ty1 pv1] 164)=X:=⟨_,rfl⟩
 rw[hWA]at hA hB;have HWA:=J hWA;have HB:=J hB;have q0:∀y:Later WA.heap.size WA,y.w.cell? ⟨w.heap.size,0,none⟩=some (.string a):=fun y=>jx
 have q1:∀y:Later WA.heap.size WA,y.w.cell? ⟨w.heap.size,1,none⟩=some (.string b):=fun y=>jy
 have q2:∀y:Later WA.heap.size WA,y.w.cell? ⟨w.heap.size,2,none⟩=some (.iface Ty0 pv0):=fun y=>jz
 have q3:∀y:Later WA.heap.size WA,y.w.cell? ⟨w.heap.size,3,none⟩=some (.iface Ty1 pv1):=fun y=>qe
 obtain⟨R,hR⟩:∃R,([108,101,116,32,114,101,99,32]++a.data.toList++ [32]++b.data.toList++ [32,61,32]++T0++ [32,105,110,32]++T1:List UInt8)=R:=⟨_,rfl⟩
 rw[hR];have HR:=J hR;clear hA hB hWA hR hw hK0 ht0 hT0 hK1 ht1 hT1;go_enter func228,ntmps228
 go_upto_region 1 with fail
 rw[HWA.o];refine z20 WA.heap.size yb yb ?_;repeat(go_big_quiet_step (first|(rename_i y;refine(HK0.o _ (HB.o.trans (y.h.mono HB.o.size))).mono ?_;rintro e w5 ⟨rfl,hb5⟩;exact⟨rfl,⟨w5,y.h.trans (hb5.mono y.h.size)⟩,rfl⟩)|(rename_i y;refine(HK1.o _ (HB.o.trans (y.h.mono HB.o.size))).mono ?_;rintro e w5 ⟨rfl,hb5⟩;exact⟨rfl,⟨w5,y.h.trans (hb5.mono y.h.size)⟩,rfl⟩)))
 refine wpQuiet_nil ?_;rintro w6 ⟨y,rfl⟩;have B2:=J (HB.o.trans (y.h.mono HB.o.size));generalize y.w=X1 at*;go_wp2_with fail
 go_ret;refine⟨?_,B2.o⟩;rw[<-HR.o];simp only[<-z24,HT0.o,HT1.o,tx_name];rfl
theorem text_cond {u2:Value}{T2:List UInt8}(ht0:TextOf W u0 T0) (hT0:T0.length<=18000) (ht1:TextOf W u1 T1) (hT1:T1.length<=18000) (ht2:TextOf W u2 T2) (hT2:T2.length<=18000) (w:World) (hw:Below W.heap.size W w) :
 Calls prog 231 #[.agg #[u0,u1,u2]] w (BareP w ([105,102,32]++T0++ [32,116,104,101,110,32]++T1++ [32,101,108,115,101,32]++T2)):=by
 obtain⟨Ty0,pv0,g0,r0,rfl,hm0,hc0,hK0⟩:=ht0;refine zb56 ?_;intro t0 ht0 hts0 HT0 HK0;obtain⟨Ty1,pv1,g1,r1,rfl,hm1,hc1,hK1⟩:=ht1;refine zb57 ?_;intro t1 ht1 hts1 HT1 HK1;obtain⟨Ty2,pv2,g2,r2,rfl,hm2,hc2,hK2⟩:=ht2;refine zb64 ?_;intro t2 ht2 hts2 HT2 HK2;have hA:=(Ld w (.cells #[.iface Ty0 pv0,.iface Ty1 pv1,.iface Ty2 pv2] 166)).1;have hB:=(Below.refl w.heap.size w).alloc La (.cells #[.iface Ty0 pv0,.iface Ty1 pv1,.iface Ty2 pv2] 166);obtain⟨WA,hWA⟩:∃X,w.alloc (.cells #[.iface Ty0 pv0,.iface Ty1 pv1,.iface Ty2 pv2] 166)=X:=⟨_,rfl⟩
 rw[hWA]at hA hB;have HWA:=J hWA;have HB:=J hB;have q0:∀y:Later WA.heap.size WA,y.w.cell? ⟨w.heap.size,0,none⟩=some (.iface Ty0 pv0):=fun y=>jx
 have q1:∀y:Later WA.heap.size WA,y.w.cell? ⟨w.heap.size,1,none⟩=some (.iface Ty1 pv1):=fun y=>jy
 have q2:∀y:Later WA.heap.size WA,y.w.cell? ⟨w.heap.size,2,none⟩=some (.iface Ty2 pv2):=fun y=>jz
 obtain⟨R,hR⟩:∃R,([105,102,32]++T0++ [32,116,104,101,110,32]++T1++ [32,101,108,115,101,32]++T2:List UInt8)=R:=⟨_,rfl⟩
 rw[hR];have HR:=J hR;clear hA hB hWA hR hw hK0 ht0 hT0 hK1 ht1 hT1 hK2 ht2 hT2;go_enter func231,ntmps231
 go_upto_region 1 with fail
 rw[HWA.o];refine z20 WA.heap.size yb yb ?_;repeat(go_big_quiet_step (first|(rename_i y;refine(HK0.o _ (HB.o.trans (y.h.mono HB.o.size))).mono ?_;rintro e w5 ⟨rfl,hb5⟩;exact⟨rfl,⟨w5,y.h.trans (hb5.mono y.h.size)⟩,rfl⟩)|(rename_i y;refine(HK1.o _ (HB.o.trans (y.h.mono HB.o.size))).mono ?_;rintro e w5 ⟨rfl,hb5⟩;exact⟨rfl,⟨w5,y.h.trans (hb5.mono y.h.size)⟩,rfl⟩)|(rename_i y;refine(HK2.o _ (HB.o.trans (y.h.mono HB.o.size))).mono ?_;rintro e w5 ⟨rfl,hb5⟩;exact⟨rfl,⟨w5,y.h.trans (hb5.mono y.h.size)⟩,rfl⟩)))
 refine wpQuiet_nil ?_;rintro w6 ⟨y,rfl⟩;have B2:=J (HB.o.trans (y.h.mono HB.o.size));generalize y.w=X1 at*;go_wp2_with fail
 go_ret;refine⟨?_,B2.o⟩;rw[<-HR.o];simp only[<-z24,HT0.o,HT1.o,HT2.o];rfl
theorem text_case {u2:Value}{T2:List UInt8}(a:ByteArray) (ha:a.size<=8) (b:ByteArray) (hb:b.size<=8) (ht0:TextOf W u0 T0) (hT0:T0.length<=18000) (ht1:TextOf W u1 T1) (hT1:T1.length<=18000) (ht2:TextOf W u2 T2) (hT2:T2.length<=18000) (w:World) (hw:Below W.heap.size W w) :
 Calls prog 247 #[.agg #[u0,u1,.string a,.string b,u2]] w (BareP w ([99,97,115,101,32]++T0++ [32,111,102,32,110,105,108,32,45,62,32]++T1++ [32,124,32]++a.data.toList++ [32,58,58,32]++b.data.toList++ [32,45,62,32]++T2)):=by
 obtain⟨Ty0,pv0,g0,r0,rfl,hm0,hc0,hK0⟩:=ht0;refine zb56 ?_;intro t0 ht0 hts0 HT0 HK0;obtain⟨Ty1,pv1,g1,r1,rfl,hm1,hc1,hK1⟩:=ht1;refine zb57 ?_;intro t1 ht1 hts1 HT1 HK1;obtain⟨Ty2,pv2,g2,r2,rfl,hm2,hc2,hK2⟩:=ht2;refine zb64 ?_;intro t2 ht2 hts2 HT2 HK2;have hA:=(Ld w (.cells #[.iface Ty0 pv0,.iface Ty1 pv1,.string a,.string b,.iface Ty2 pv2] 174)).1;have hB:=(Below.refl w.heap.size w).alloc La (.cells #[.iface Ty0 pv0,.iface Ty1 pv1,.string a,.string b,.iface Ty2 pv2] 174);obtain⟨WA,hWA⟩:∃X,w.alloc (.cells #[.iface Ty0 pv0,.iface Ty1 pv1,.string a,.string b,.iface Ty2 pv2] 174)=X:=⟨_,rfl⟩
 rw[hWA]at hA hB;have HWA:=J hWA;have HB:=J hB;have q0:∀y:Later WA.heap.size WA,y.w.cell? ⟨w.heap.size,0,none⟩=some (.iface Ty0 pv0):=fun y=>jx
 have q1:∀y:Later WA.heap.size WA,y.w.cell? ⟨w.heap.size,1,none⟩=some (.iface Ty1 pv1):=fun y=>jy
 have q2:∀y:Later WA.heap.size WA,y.w.cell? ⟨w.heap.size,2,none⟩=some (.string a):=fun y=>jz
 have q3:∀y:Later WA.heap.size WA,y.w.cell? ⟨w.heap.size,3,none⟩=some (.string b):=fun y=>qe
 have q4:∀y:Later WA.heap.size WA,y.w.cell? ⟨w.heap.size,4,none⟩=some (.iface Ty2 pv2):=fun y=>by rw[z8 ((y.h.block w.heap.size (z12 hA)).trans hA) 4];rfl
 obtain⟨R,hR⟩:∃R,([99,97,115,101,32]++T0++ [32,111,102,32,110,105,108,32,45,62,32]++T1++ [32,124,32]++a.data.toList++ [32,58,58,32]++b.data.toList++ [32,45,62,32]++T2:List UInt8)=R:=⟨_,rfl⟩
 rw[hR];have HR:=J hR;clear hA hB hWA hR hw hK0 ht0 hT0 hK1 ht1 hT1 hK2 ht2 hT2;go_enter func247,ntmps247
 go_upto_region 1 with fail
 rw[HWA.o];refine z20 WA.heap.size yb yb ?_;repeat(go_big_quiet_step (first|(rename_i y;refine(HK0.o _ (HB.o.trans (y.h.mono HB.o.size))).mono ?_;rintro e w5 ⟨rfl,hb5⟩;exact⟨rfl,⟨w5,y.h.trans (hb5.mono y.h.size)⟩,rfl⟩)|(rename_i y;refine(HK1.o _ (HB.o.trans (y.h.mono HB.o.size))).mono ?_;rintro e w5 ⟨rfl,hb5⟩;exact⟨rfl,⟨w5,y.h.trans (hb5.mono y.h.size)⟩,rfl⟩)|(rename_i y;refine(HK2.o _ (HB.o.trans (y.h.mono HB.o.size))).mono ?_;rintro e w5 ⟨rfl,hb5⟩;exact⟨rfl,⟨w5,y.h.trans (hb5.mono y.h.size)⟩,rfl⟩)))
 refine wpQuiet_nil ?_;rintro w6 ⟨y,rfl⟩;have B2:=J (HB.o.trans (y.h.mono HB.o.size));generalize y.w=X1 at*;go_wp2_with fail
 go_ret;refine⟨?_,B2.o⟩;rw[<-HR.o];simp only[<-z24,HT0.o,HT1.o,HT2.o,tx_name];rfl
theorem text_pair (ht0:TextOf W u0 T0) (hT0:T0.length<=18000) (ht1:TextOf W u1 T1) (hT1:T1.length<=18000) (w:World) (hw:Below W.heap.size W w) :
 Calls prog 235 #[.agg #[u0,u1]] w (BareP w ([40]++T0++ [44,32]++T1++ [41])):=by
 obtain⟨Ty0,pv0,g0,r0,rfl,hm0,hc0,hK0⟩:=ht0;refine zb56 ?_;intro t0 ht0 hts0 HT0 HK0;obtain⟨Ty1,pv1,g1,r1,rfl,hm1,hc1,hK1⟩:=ht1;refine zb57 ?_;intro t1 ht1 hts1 HT1 HK1;have hA:=(Ld w (.cells #[.iface Ty0 pv0,.iface Ty1 pv1] 168)).1;have hB:=(Below.refl w.heap.size w).alloc La (.cells #[.iface Ty0 pv0,.iface Ty1 pv1] 168);obtain⟨WA,hWA⟩:∃X,w.alloc (.cells #[.iface Ty0 pv0,.iface Ty1 pv1] 168)=X:=⟨_,rfl⟩
 rw[hWA]at hA hB;have HWA:=J hWA;have HB:=J hB;have q0:∀y:Later WA.heap.size WA,y.w.cell? ⟨w.heap.size,0,none⟩=some (.iface Ty0 pv0):=fun y=>jx
 have q1:∀y:Later WA.heap.size WA,y.w.cell? ⟨w.heap.size,1,none⟩=some (.iface Ty1 pv1):=fun y=>jy
 obtain⟨R,hR⟩:∃R,([40]++T0++ [44,32]++T1++ [41]:List UInt8)=R:=⟨_,rfl⟩
 rw[hR];have HR:=J hR;clear hA hB hWA hR hw hK0 ht0 hT0 hK1 ht1 hT1;go_enter func235,ntmps235
 go_upto_region 1 with fail
 rw[HWA.o];refine z20 WA.heap.size yb yb ?_;repeat(go_big_quiet_step (first|(rename_i y;refine(HK0.o _ (HB.o.trans (y.h.mono HB.o.size))).mono ?_;rintro e w5 ⟨rfl,hb5⟩;exact⟨rfl,⟨w5,y.h.trans (hb5.mono y.h.size)⟩,rfl⟩)|(rename_i y;refine(HK1.o _ (HB.o.trans (y.h.mono HB.o.size))).mono ?_;rintro e w5 ⟨rfl,hb5⟩;exact⟨rfl,⟨w5,y.h.trans (hb5.mono y.h.size)⟩,rfl⟩)))
 refine wpQuiet_nil ?_;rintro w6 ⟨y,rfl⟩;have B2:=J (HB.o.trans (y.h.mono HB.o.size));generalize y.w=X1 at*;go_wp2_with fail
 go_ret;refine⟨?_,B2.o⟩;rw[<-HR.o];simp only[<-z24,HT0.o,HT1.o];rfl
theorem text_ret (a:ByteArray) (ha:a.size<=8) (ht0:TextOf W u0 T0) (hT0:T0.length<=18000) (w:World) (hw:Below W.heap.size W w) :
 Calls prog 258 #[.agg #[.string a,u0]] w (BareP w ([114,101,116,32]++a.data.toList++ [32,45,62,32]++T0)):=by
 obtain⟨Ty0,pv0,g0,r0,rfl,hm0,hc0,hK0⟩:=ht0;refine zb56 ?_;intro t0 ht0 hts0 HT0 HK0;have hA:=(Ld w (.cells #[.string a,.iface Ty0 pv0] 179)).1;have hB:=(Below.refl w.heap.size w).alloc La (.cells #[.string a,.iface Ty0 pv0] 179);obtain⟨WA,hWA⟩:∃X,w.alloc (.cells #[.string a,.iface Ty0 pv0] 179)=X:=⟨_,rfl⟩
 rw[hWA]at hA hB;have HWA:=J hWA;have HB:=J hB;have q0:∀y:Later WA.heap.size WA,y.w.cell? ⟨w.heap.size,0,none⟩=some (.string a):=fun y=>jx
 have q1:∀y:Later WA.heap.size WA,y.w.cell? ⟨w.heap.size,1,none⟩=some (.iface Ty0 pv0):=fun y=>jy
 obtain⟨R,hR⟩:∃R,([114,101,116,32]++a.data.toList++ [32,45,62,32]++T0:List UInt8)=R:=⟨_,rfl⟩
 rw[hR];have HR:=J hR;clear hA hB hWA hR hw hK0 ht0 hT0;go_enter func258,ntmps258
 go_upto_region 1 with fail
 rw[HWA.o];refine z20 WA.heap.size yb yb ?_;repeat(go_big_quiet_step (first|(rename_i y;refine(HK0.o _ (HB.o.trans (y.h.mono HB.o.size))).mono ?_;rintro e w5 ⟨rfl,hb5⟩;exact⟨rfl,⟨w5,y.h.trans (hb5.mono y.h.size)⟩,rfl⟩)))
 refine wpQuiet_nil ?_;rintro w6 ⟨y,rfl⟩;have B2:=J (HB.o.trans (y.h.mono HB.o.size));generalize y.w=X1 at*;go_wp2_with fail
 go_ret;refine⟨?_,B2.o⟩;rw[<-HR.o];simp only[<-z24,HT0.o,tx_name];rfl
theorem text_op (a:ByteArray) (ha:a.size<=8) (b:ByteArray) (hb:b.size<=8) (c:ByteArray) (hc:c.size<=8) (ht0:TextOf W u0 T0) (hT0:T0.length<=18000) (w:World) (hw:Below W.heap.size W w) :
 Calls prog 261 #[.agg #[.string a,.string b,.string c,u0]] w (BareP w ([124,32]++a.data.toList++ [32]++b.data.toList++ [32]++c.data.toList++ [32,45,62,32]++T0)):=by
 obtain⟨Ty0,pv0,g0,r0,rfl,hm0,hc0,hK0⟩:=ht0;refine zb56 ?_;intro t0 ht0 hts0 HT0 HK0;have hA:=(Ld w (.cells #[.string a,.string b,.string c,.iface Ty0 pv0] 181)).1;have hB:=(Below.refl w.heap.size w).alloc La (.cells #[.string a,.string b,.string c,.iface Ty0 pv0] 181);obtain⟨WA,hWA⟩:∃X,w.alloc (.cells #[.string a,.string b,.string c,.iface Ty0 pv0] 181)=X:=⟨_,rfl⟩
 rw[hWA]at hA hB;have HWA:=J hWA;have HB:=J hB;have q0:∀y:Later WA.heap.size WA,y.w.cell? ⟨w.heap.size,0,none⟩=some (.string a):=fun y=>jx
 have q1:∀y:Later WA.heap.size WA,y.w.cell? ⟨w.heap.size,1,none⟩=some (.string b):=fun y=>jy
 have q2:∀y:Later WA.heap.size WA,y.w.cell? ⟨w.heap.size,2,none⟩=some (.string c):=fun y=>jz
 have q3:∀y:Later WA.heap.size WA,y.w.cell? ⟨w.heap.size,3,none⟩=some (.iface Ty0 pv0):=fun y=>qe
 obtain⟨R,hR⟩:∃R,([124,32]++a.data.toList++ [32]++b.data.toList++ [32]++c.data.toList++ [32,45,62,32]++T0:List UInt8)=R:=⟨_,rfl⟩
 rw[hR];have HR:=J hR;clear hA hB hWA hR hw hK0 ht0 hT0;go_enter func261,ntmps261
 go_upto_region 1 with fail
 rw[HWA.o];refine z20 WA.heap.size yb yb ?_;repeat(go_big_quiet_step (first|(rename_i y;refine(HK0.o _ (HB.o.trans (y.h.mono HB.o.size))).mono ?_;rintro e w5 ⟨rfl,hb5⟩;exact⟨rfl,⟨w5,y.h.trans (hb5.mono y.h.size)⟩,rfl⟩)))
 refine wpQuiet_nil ?_;rintro w6 ⟨y,rfl⟩;have B2:=J (HB.o.trans (y.h.mono HB.o.size));generalize y.w=X1 at*;go_wp2_with fail
 go_ret;refine⟨?_,B2.o⟩;rw[<-HR.o];simp only[<-z24,HT0.o,tx_name];rfl
end
end Go.Proofs.YtfbojelpdccjaaaGreatDoor
