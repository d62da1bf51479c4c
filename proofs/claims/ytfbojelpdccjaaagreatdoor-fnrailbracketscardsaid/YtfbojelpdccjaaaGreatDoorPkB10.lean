import Derived.Test.YtfbojelpdccjaaaGreatDoorPkB3
import Derived.Test.YtfbojelpdccjaaaGreatDoorPkB8
import Derived.Test.YtfbojelpdccjaaaGreatDoorPkB9
set_option maxHeartbeats 4000000
set_option maxRecDepth 100000
namespace Go.Proofs.YtfbojelpdccjaaaGreatDoor
open Go.RowKit Go.Deep
variable {T0 T1 : List UInt8} {u0 u1 : Value} {W : World}
section
open Go.RowKit Go.Deep
def LevelOf (v : Value) (l : Int) : Prop:=
 ∃ Ty pv g rv,v= .iface Ty pv∧(∀ w,(method 344 Ty pv "loop.example/handrail/impl.level").run Tryz.prog w= .ok (g,rv) w)∧(∀ args w,(callFunc g args).run Tryz.prog w= .ok (.enter g args) w)∧ ∀ w,Calls Tryz.prog g #[rv] w fun e w'=> e= .returned (.int .i64 l)∧Below w.heap.size w w'
def TextOf (W : World) (v : Value) (T : List UInt8) : Prop:=
 ∃ Ty pv g rv,v= .iface Ty pv∧(∀ w,(method 344 Ty pv "loop.example/handrail/impl.text").run Tryz.prog w= .ok (g,rv) w)∧(∀ args w,(callFunc g args).run Tryz.prog w= .ok (.enter g args) w)∧ ∀ w,Below W.heap.size W w→Calls Tryz.prog g #[rv] w (BareP w T)
theorem z56 {v : Value} {l : Int} {T : List UInt8} (L : Int) (hl : LevelOf v l) (ht : TextOf W v T) (hT : T.length≤20000) (w : World) (hw : Below W.heap.size W w) :
 Calls Tryz.prog 222 #[.int .i64 L,v] w (BareP w (if l < L then [40]++T++ [41] else T)):=by
 obtain⟨Ty,pv,g1,r1,rfl,hm1,hc1,hK1⟩:=hl;obtain⟨Ty',pv',g2,r2,e,hm2,hc2,hK2⟩:=ht
 cases e;have HK1:=hid (hK1 w);have HK2:=hid (fun X (hX : Below w.heap.size w X)=>hK2 X (hw.trans (hX.mono hw.size)));obtain⟨t,ht⟩ : ∃ t,tx T=t:=⟨_,rfl⟩
 have hts : t.size≤20000:=by rw [← ht,z26]; exact hT
 have HT:=hid ht;have HK3:=hid (show ∀ X,Below w.heap.size w X→Calls Tryz.prog g2 #[r2] X fun e X'=> e= .returned (.string t)∧Below X.heap.size X X' from fun X hX=>by rw [← HT.out]; exact HK2.out X hX);obtain⟨R,hR⟩ : ∃ R,(if l < L then [40]++T++ [41] else T)=R:=⟨_,rfl⟩
 rw [hR];have HR:=hid hR;clear hK1 hK2 hw ht HK2 hT hR;go_enter Tryz.func222,Tryz.ntmps222
 go_wp2_with fail
 refine HK1.out.mono ?_;rintro e w1 ⟨rfl,hb1⟩;have B1:=hid hb1;clear hb1 hm1 hc1 HK1;by_cases hlt : l < L
 ·go_wp2_with fail
  refine (HK3.out w1 B1.out).mono ?_;rintro e w2 ⟨rfl,hb2⟩;have B2:=hid (B1.out.trans (hb2.mono B1.out.size));clear hb2 HK3 hm2 hc2;go_wp2_with fail
  go_ret;refine⟨?_,B2.out⟩;rw [← HR.out,if_pos hlt,← z23,← z23,HT.out];rfl
 ·go_wp2_with fail
  refine (HK3.out w1 B1.out).mono ?_;rintro e w2 ⟨rfl,hb2⟩;have B2:=hid (B1.out.trans (hb2.mono B1.out.size));clear hb2 HK3 hm2 hc2;go_wp2_with fail
  go_ret;refine⟨?_,B2.out⟩;rw [← HR.out,if_neg (by omega),HT.out];rfl
theorem text_unit (w : World) : Calls Tryz.prog 213 #[.agg #[]] w (BareP w [40,41]):=by
 go_enter Tryz.func213,Tryz.ntmps213
 go_wp2_with fail
 go_ret;exact⟨rfl,by repeat (first | exact Below.refl _ _ | refine Below.alloc ?_ (by first | (simp; done) | (simp; omega)) _)⟩
theorem text_var (a : ByteArray) (w : World) : Calls Tryz.prog 217 #[.agg #[.string a]] w (BareP w a.data.toList):=by
 go_enter Tryz.func217,Tryz.ntmps217
 go_wp2_with fail
 go_ret;exact⟨rfl,by repeat (first | exact Below.refl _ _ | refine Below.alloc ?_ (by first | (simp; done) | (simp; omega)) _)⟩
theorem text_fn {u : Value} {T : List UInt8} (a : ByteArray) (ha : a.size≤8) (ht : TextOf W u T) (hT : T.length≤20000) (w : World) (hw : Below W.heap.size W w) :
 Calls Tryz.prog 203 #[.agg #[.string a,u]] w (BareP w ([102,110,32]++a.data.toList++ [32,45,62,32]++T)):=by
 obtain⟨Ty,pv,g,r,rfl,hm,hc,hK⟩:=ht;obtain⟨t,ht⟩ : ∃ t,tx T=t:=⟨_,rfl⟩
 have hts : t.size≤20000:=by rw [← ht,z26]; exact hT
 have HT:=hid ht;have HK:=hid (show ∀ X,Below w.heap.size w X→Calls Tryz.prog g #[r] X fun e X'=> e= .returned (.string t)∧Below X.heap.size X X' from fun X hX=>by rw [← HT.out]; exact hK X (hw.trans (hX.mono hw.size)));clear hK hw ht hT;have hA:=(MapKept.heap_alloc w (.cells #[.string a,.iface Ty pv] 135)).1;have hB:=(Below.refl w.heap.size w).alloc (Nat.le_refl _) (.cells #[.string a,.iface Ty pv] 135);obtain⟨WA,hWA⟩ : ∃ X,w.alloc (.cells #[.string a,.iface Ty pv] 135)=X:=⟨_,rfl⟩
 rw [hWA] at hA hB;have HWA:=hid hWA;have HB:=hid hB;have q0 : ∀ y : Later WA.heap.size WA,y.w.cell? ⟨w.heap.size,0,none⟩=some (.string a):=fun y=>by rw [z8 ((y.h.block w.heap.size (z13 hA)).trans hA) 0]; rfl
 have q1 : ∀ y : Later WA.heap.size WA,y.w.cell? ⟨w.heap.size,1,none⟩=some (.iface Ty pv):=fun y=>by rw [z8 ((y.h.block w.heap.size (z13 hA)).trans hA) 1]; rfl
 obtain⟨R,hR⟩ : ∃ R,([102,110,32]++a.data.toList++ [32,45,62,32]++T : List UInt8)=R:=⟨_,rfl⟩
 rw [hR];have HR:=hid hR;clear hA hB hWA hR;go_enter Tryz.func203,Tryz.ntmps203
 go_upto_region 1 with fail
 rw [HWA.out];refine z18 WA.heap.size (by kernel_rfl) (by kernel_rfl) ?_;repeat (go_big_quiet_step (first | (rename_i y; refine (HK.out _ (HB.out.trans (y.h.mono HB.out.size))).mono ?_; rintro e w5 ⟨rfl,hb5⟩; exact⟨rfl,⟨w5,y.h.trans (hb5.mono y.h.size)⟩,rfl⟩)))
 refine wpQuiet_nil ?_;rintro w6 ⟨y,rfl⟩;have B2:=hid (HB.out.trans (y.h.mono HB.out.size));generalize y.w=X1 at*;go_wp2_with fail
 go_ret;refine⟨?_,B2.out⟩;rw [← HR.out];simp only [← z23];rw [HT.out,z67];rfl
def inT (l L : Int) (T : List UInt8) : List UInt8:=if l < L then [40]++T++ [41] else T
theorem inT_len (l L : Int) (T : List UInt8) : (inT l L T).length≤T.length+2:=by
 unfold inT;split
 ·simp
 ·omega
theorem text_let (a : ByteArray) (ha : a.size≤8) (ht0 : TextOf W u0 T0) (hT0 : T0.length≤18000) (ht1 : TextOf W u1 T1) (hT1 : T1.length≤18000) (w : World) (hw : Below W.heap.size W w) :
 Calls Tryz.prog 225 #[.agg #[.string a,u0,u1]] w (BareP w ([108,101,116,32]++a.data.toList++ [32,61,32]++T0++ [32,105,110,32]++T1)):=by
 obtain⟨Ty0,pv0,g0,r0,rfl,hm0,hc0,hK0⟩:=ht0;obtain⟨t0,ht0⟩ : ∃ t,tx (T0)=t:=⟨_,rfl⟩
 have hts0 : t0.size≤18002:=by rw [← ht0,z26]; omega
 have HT0:=hid ht0;have HK0:=hid (show ∀ X,Below w.heap.size w X→Calls Tryz.prog g0 #[r0] X fun e X'=> e= .returned (.string t0)∧Below X.heap.size X X' from fun X hX=>by rw [← HT0.out]; exact hK0 X (hw.trans (hX.mono hw.size)));obtain⟨Ty1,pv1,g1,r1,rfl,hm1,hc1,hK1⟩:=ht1;obtain⟨t1,ht1⟩ : ∃ t,tx (T1)=t:=⟨_,rfl⟩
 have hts1 : t1.size≤18002:=by rw [← ht1,z26]; omega
 have HT1:=hid ht1;have HK1:=hid (show ∀ X,Below w.heap.size w X→Calls Tryz.prog g1 #[r1] X fun e X'=> e= .returned (.string t1)∧Below X.heap.size X X' from fun X hX=>by rw [← HT1.out]; exact hK1 X (hw.trans (hX.mono hw.size)));have hA:=(MapKept.heap_alloc w (.cells #[.string a,.iface Ty0 pv0,.iface Ty1 pv1] 162)).1;have hB:=(Below.refl w.heap.size w).alloc (Nat.le_refl _) (.cells #[.string a,.iface Ty0 pv0,.iface Ty1 pv1] 162);obtain⟨WA,hWA⟩ : ∃ X,w.alloc (.cells #[.string a,.iface Ty0 pv0,.iface Ty1 pv1] 162)=X:=⟨_,rfl⟩
 rw [hWA] at hA hB;have HWA:=hid hWA;have HB:=hid hB;have q0 : ∀ y : Later WA.heap.size WA,y.w.cell? ⟨w.heap.size,0,none⟩=some (.string a):=fun y=>by rw [z8 ((y.h.block w.heap.size (z13 hA)).trans hA) 0]; rfl
 have q1 : ∀ y : Later WA.heap.size WA,y.w.cell? ⟨w.heap.size,1,none⟩=some (.iface Ty0 pv0):=fun y=>by rw [z8 ((y.h.block w.heap.size (z13 hA)).trans hA) 1]; rfl
 have q2 : ∀ y : Later WA.heap.size WA,y.w.cell? ⟨w.heap.size,2,none⟩=some (.iface Ty1 pv1):=fun y=>by rw [z8 ((y.h.block w.heap.size (z13 hA)).trans hA) 2]; rfl
 obtain⟨R,hR⟩ : ∃ R,([108,101,116,32]++a.data.toList++ [32,61,32]++T0++ [32,105,110,32]++T1 : List UInt8)=R:=⟨_,rfl⟩
 rw [hR];have HR:=hid hR;clear hA hB hWA hR hw hK0 ht0 hT0 hK1 ht1 hT1;go_enter Tryz.func225,Tryz.ntmps225
 go_upto_region 1 with fail
 rw [HWA.out];refine z18 WA.heap.size (by kernel_rfl) (by kernel_rfl) ?_;repeat (go_big_quiet_step (first | (rename_i y; refine (HK0.out _ (HB.out.trans (y.h.mono HB.out.size))).mono ?_; rintro e w5 ⟨rfl,hb5⟩; exact⟨rfl,⟨w5,y.h.trans (hb5.mono y.h.size)⟩,rfl⟩) | (rename_i y; refine (HK1.out _ (HB.out.trans (y.h.mono HB.out.size))).mono ?_; rintro e w5 ⟨rfl,hb5⟩; exact⟨rfl,⟨w5,y.h.trans (hb5.mono y.h.size)⟩,rfl⟩)))
 refine wpQuiet_nil ?_;rintro w6 ⟨y,rfl⟩;have B2:=hid (HB.out.trans (y.h.mono HB.out.size));generalize y.w=X1 at*;go_wp2_with fail
 go_ret;refine⟨?_,B2.out⟩;rw [← HR.out];simp only [← z23,HT0.out,HT1.out,z67];rfl
theorem text_recur (a : ByteArray) (ha : a.size≤8) (b : ByteArray) (hb : b.size≤8) (ht0 : TextOf W u0 T0) (hT0 : T0.length≤18000) (ht1 : TextOf W u1 T1) (hT1 : T1.length≤18000) (w : World) (hw : Below W.heap.size W w) :
 Calls Tryz.prog 228 #[.agg #[.string a,.string b,u0,u1]] w (BareP w ([108,101,116,32,114,101,99,32]++a.data.toList++ [32]++b.data.toList++ [32,61,32]++T0++ [32,105,110,32]++T1)):=by
 obtain⟨Ty0,pv0,g0,r0,rfl,hm0,hc0,hK0⟩:=ht0;obtain⟨t0,ht0⟩ : ∃ t,tx (T0)=t:=⟨_,rfl⟩
 have hts0 : t0.size≤18002:=by rw [← ht0,z26]; omega
 have HT0:=hid ht0;have HK0:=hid (show ∀ X,Below w.heap.size w X→Calls Tryz.prog g0 #[r0] X fun e X'=> e= .returned (.string t0)∧Below X.heap.size X X' from fun X hX=>by rw [← HT0.out]; exact hK0 X (hw.trans (hX.mono hw.size)));obtain⟨Ty1,pv1,g1,r1,rfl,hm1,hc1,hK1⟩:=ht1;obtain⟨t1,ht1⟩ : ∃ t,tx (T1)=t:=⟨_,rfl⟩
 have hts1 : t1.size≤18002:=by rw [← ht1,z26]; omega
 have HT1:=hid ht1;have HK1:=hid (show ∀ X,Below w.heap.size w X→Calls Tryz.prog g1 #[r1] X fun e X'=> e= .returned (.string t1)∧Below X.heap.size X X' from fun X hX=>by rw [← HT1.out]; exact hK1 X (hw.trans (hX.mono hw.size)));have hA:=(MapKept.heap_alloc w (.cells #[.string a,.string b,.iface Ty0 pv0,.iface Ty1 pv1] 164)).1;have hB:=(Below.refl w.heap.size w).alloc (Nat.le_refl _) (.cells #[.string a,.string b,.iface Ty0 pv0,.iface Ty1 pv1] 164);obtain⟨WA,hWA⟩ : ∃ X,w.alloc (.cells #[.string a,.string b,.iface Ty0 pv0,.iface Ty1 pv1] 164)=X:=⟨_,rfl⟩
 rw [hWA] at hA hB;have HWA:=hid hWA;have HB:=hid hB;have q0 : ∀ y : Later WA.heap.size WA,y.w.cell? ⟨w.heap.size,0,none⟩=some (.string a):=fun y=>by rw [z8 ((y.h.block w.heap.size (z13 hA)).trans hA) 0]; rfl
 have q1 : ∀ y : Later WA.heap.size WA,y.w.cell? ⟨w.heap.size,1,none⟩=some (.string b):=fun y=>by rw [z8 ((y.h.block w.heap.size (z13 hA)).trans hA) 1]; rfl
 have q2 : ∀ y : Later WA.heap.size WA,y.w.cell? ⟨w.heap.size,2,none⟩=some (.iface Ty0 pv0):=fun y=>by rw [z8 ((y.h.block w.heap.size (z13 hA)).trans hA) 2]; rfl
 have q3 : ∀ y : Later WA.heap.size WA,y.w.cell? ⟨w.heap.size,3,none⟩=some (.iface Ty1 pv1):=fun y=>by rw [z8 ((y.h.block w.heap.size (z13 hA)).trans hA) 3]; rfl
 obtain⟨R,hR⟩ : ∃ R,([108,101,116,32,114,101,99,32]++a.data.toList++ [32]++b.data.toList++ [32,61,32]++T0++ [32,105,110,32]++T1 : List UInt8)=R:=⟨_,rfl⟩
 rw [hR];have HR:=hid hR;clear hA hB hWA hR hw hK0 ht0 hT0 hK1 ht1 hT1;go_enter Tryz.func228,Tryz.ntmps228
 go_upto_region 1 with fail
 rw [HWA.out];refine z18 WA.heap.size (by kernel_rfl) (by kernel_rfl) ?_;repeat (go_big_quiet_step (first | (rename_i y; refine (HK0.out _ (HB.out.trans (y.h.mono HB.out.size))).mono ?_; rintro e w5 ⟨rfl,hb5⟩; exact⟨rfl,⟨w5,y.h.trans (hb5.mono y.h.size)⟩,rfl⟩) | (rename_i y; refine (HK1.out _ (HB.out.trans (y.h.mono HB.out.size))).mono ?_; rintro e w5 ⟨rfl,hb5⟩; exact⟨rfl,⟨w5,y.h.trans (hb5.mono y.h.size)⟩,rfl⟩)))
 refine wpQuiet_nil ?_;rintro w6 ⟨y,rfl⟩;have B2:=hid (HB.out.trans (y.h.mono HB.out.size));generalize y.w=X1 at*;go_wp2_with fail
 go_ret;refine⟨?_,B2.out⟩;rw [← HR.out];simp only [← z23,HT0.out,HT1.out,z67];rfl
theorem text_cond {u2 : Value} {T2 : List UInt8} (ht0 : TextOf W u0 T0) (hT0 : T0.length≤18000) (ht1 : TextOf W u1 T1) (hT1 : T1.length≤18000) (ht2 : TextOf W u2 T2) (hT2 : T2.length≤18000) (w : World) (hw : Below W.heap.size W w) :
 Calls Tryz.prog 231 #[.agg #[u0,u1,u2]] w (BareP w ([105,102,32]++T0++ [32,116,104,101,110,32]++T1++ [32,101,108,115,101,32]++T2)):=by
 obtain⟨Ty0,pv0,g0,r0,rfl,hm0,hc0,hK0⟩:=ht0;obtain⟨t0,ht0⟩ : ∃ t,tx (T0)=t:=⟨_,rfl⟩
 have hts0 : t0.size≤18002:=by rw [← ht0,z26]; omega
 have HT0:=hid ht0;have HK0:=hid (show ∀ X,Below w.heap.size w X→Calls Tryz.prog g0 #[r0] X fun e X'=> e= .returned (.string t0)∧Below X.heap.size X X' from fun X hX=>by rw [← HT0.out]; exact hK0 X (hw.trans (hX.mono hw.size)));obtain⟨Ty1,pv1,g1,r1,rfl,hm1,hc1,hK1⟩:=ht1;obtain⟨t1,ht1⟩ : ∃ t,tx (T1)=t:=⟨_,rfl⟩
 have hts1 : t1.size≤18002:=by rw [← ht1,z26]; omega
 have HT1:=hid ht1;have HK1:=hid (show ∀ X,Below w.heap.size w X→Calls Tryz.prog g1 #[r1] X fun e X'=> e= .returned (.string t1)∧Below X.heap.size X X' from fun X hX=>by rw [← HT1.out]; exact hK1 X (hw.trans (hX.mono hw.size)));obtain⟨Ty2,pv2,g2,r2,rfl,hm2,hc2,hK2⟩:=ht2;obtain⟨t2,ht2⟩ : ∃ t,tx (T2)=t:=⟨_,rfl⟩
 have hts2 : t2.size≤18002:=by rw [← ht2,z26]; omega
 have HT2:=hid ht2;have HK2:=hid (show ∀ X,Below w.heap.size w X→Calls Tryz.prog g2 #[r2] X fun e X'=> e= .returned (.string t2)∧Below X.heap.size X X' from fun X hX=>by rw [← HT2.out]; exact hK2 X (hw.trans (hX.mono hw.size)));have hA:=(MapKept.heap_alloc w (.cells #[.iface Ty0 pv0,.iface Ty1 pv1,.iface Ty2 pv2] 166)).1;have hB:=(Below.refl w.heap.size w).alloc (Nat.le_refl _) (.cells #[.iface Ty0 pv0,.iface Ty1 pv1,.iface Ty2 pv2] 166);obtain⟨WA,hWA⟩ : ∃ X,w.alloc (.cells #[.iface Ty0 pv0,.iface Ty1 pv1,.iface Ty2 pv2] 166)=X:=⟨_,rfl⟩
 rw [hWA] at hA hB;have HWA:=hid hWA;have HB:=hid hB;have q0 : ∀ y : Later WA.heap.size WA,y.w.cell? ⟨w.heap.size,0,none⟩=some (.iface Ty0 pv0):=fun y=>by rw [z8 ((y.h.block w.heap.size (z13 hA)).trans hA) 0]; rfl
 have q1 : ∀ y : Later WA.heap.size WA,y.w.cell? ⟨w.heap.size,1,none⟩=some (.iface Ty1 pv1):=fun y=>by rw [z8 ((y.h.block w.heap.size (z13 hA)).trans hA) 1]; rfl
 have q2 : ∀ y : Later WA.heap.size WA,y.w.cell? ⟨w.heap.size,2,none⟩=some (.iface Ty2 pv2):=fun y=>by rw [z8 ((y.h.block w.heap.size (z13 hA)).trans hA) 2]; rfl
 obtain⟨R,hR⟩ : ∃ R,([105,102,32]++T0++ [32,116,104,101,110,32]++T1++ [32,101,108,115,101,32]++T2 : List UInt8)=R:=⟨_,rfl⟩
 rw [hR];have HR:=hid hR;clear hA hB hWA hR hw hK0 ht0 hT0 hK1 ht1 hT1 hK2 ht2 hT2;go_enter Tryz.func231,Tryz.ntmps231
 go_upto_region 1 with fail
 rw [HWA.out];refine z18 WA.heap.size (by kernel_rfl) (by kernel_rfl) ?_;repeat (go_big_quiet_step (first | (rename_i y; refine (HK0.out _ (HB.out.trans (y.h.mono HB.out.size))).mono ?_; rintro e w5 ⟨rfl,hb5⟩; exact⟨rfl,⟨w5,y.h.trans (hb5.mono y.h.size)⟩,rfl⟩) | (rename_i y; refine (HK1.out _ (HB.out.trans (y.h.mono HB.out.size))).mono ?_; rintro e w5 ⟨rfl,hb5⟩; exact⟨rfl,⟨w5,y.h.trans (hb5.mono y.h.size)⟩,rfl⟩) | (rename_i y; refine (HK2.out _ (HB.out.trans (y.h.mono HB.out.size))).mono ?_; rintro e w5 ⟨rfl,hb5⟩; exact⟨rfl,⟨w5,y.h.trans (hb5.mono y.h.size)⟩,rfl⟩)))
 refine wpQuiet_nil ?_;rintro w6 ⟨y,rfl⟩;have B2:=hid (HB.out.trans (y.h.mono HB.out.size));generalize y.w=X1 at*;go_wp2_with fail
 go_ret;refine⟨?_,B2.out⟩;rw [← HR.out];simp only [← z23,HT0.out,HT1.out,HT2.out];rfl
theorem text_case {u2 : Value} {T2 : List UInt8} (a : ByteArray) (ha : a.size≤8) (b : ByteArray) (hb : b.size≤8) (ht0 : TextOf W u0 T0) (hT0 : T0.length≤18000) (ht1 : TextOf W u1 T1) (hT1 : T1.length≤18000) (ht2 : TextOf W u2 T2) (hT2 : T2.length≤18000) (w : World) (hw : Below W.heap.size W w) :
 Calls Tryz.prog 247 #[.agg #[u0,u1,.string a,.string b,u2]] w (BareP w ([99,97,115,101,32]++T0++ [32,111,102,32,110,105,108,32,45,62,32]++T1++ [32,124,32]++a.data.toList++ [32,58,58,32]++b.data.toList++ [32,45,62,32]++T2)):=by
 obtain⟨Ty0,pv0,g0,r0,rfl,hm0,hc0,hK0⟩:=ht0;obtain⟨t0,ht0⟩ : ∃ t,tx (T0)=t:=⟨_,rfl⟩
 have hts0 : t0.size≤18002:=by rw [← ht0,z26]; omega
 have HT0:=hid ht0;have HK0:=hid (show ∀ X,Below w.heap.size w X→Calls Tryz.prog g0 #[r0] X fun e X'=> e= .returned (.string t0)∧Below X.heap.size X X' from fun X hX=>by rw [← HT0.out]; exact hK0 X (hw.trans (hX.mono hw.size)));obtain⟨Ty1,pv1,g1,r1,rfl,hm1,hc1,hK1⟩:=ht1;obtain⟨t1,ht1⟩ : ∃ t,tx (T1)=t:=⟨_,rfl⟩
 have hts1 : t1.size≤18002:=by rw [← ht1,z26]; omega
 have HT1:=hid ht1;have HK1:=hid (show ∀ X,Below w.heap.size w X→Calls Tryz.prog g1 #[r1] X fun e X'=> e= .returned (.string t1)∧Below X.heap.size X X' from fun X hX=>by rw [← HT1.out]; exact hK1 X (hw.trans (hX.mono hw.size)));obtain⟨Ty2,pv2,g2,r2,rfl,hm2,hc2,hK2⟩:=ht2;obtain⟨t2,ht2⟩ : ∃ t,tx (T2)=t:=⟨_,rfl⟩
 have hts2 : t2.size≤18002:=by rw [← ht2,z26]; omega
 have HT2:=hid ht2;have HK2:=hid (show ∀ X,Below w.heap.size w X→Calls Tryz.prog g2 #[r2] X fun e X'=> e= .returned (.string t2)∧Below X.heap.size X X' from fun X hX=>by rw [← HT2.out]; exact hK2 X (hw.trans (hX.mono hw.size)));have hA:=(MapKept.heap_alloc w (.cells #[.iface Ty0 pv0,.iface Ty1 pv1,.string a,.string b,.iface Ty2 pv2] 174)).1;have hB:=(Below.refl w.heap.size w).alloc (Nat.le_refl _) (.cells #[.iface Ty0 pv0,.iface Ty1 pv1,.string a,.string b,.iface Ty2 pv2] 174)
 obtain⟨WA,hWA⟩ : ∃ X,w.alloc (.cells #[.iface Ty0 pv0,.iface Ty1 pv1,.string a,.string b,.iface Ty2 pv2] 174)=X:=⟨_,rfl⟩
 rw [hWA] at hA hB;have HWA:=hid hWA;have HB:=hid hB;have q0 : ∀ y : Later WA.heap.size WA,y.w.cell? ⟨w.heap.size,0,none⟩=some (.iface Ty0 pv0):=fun y=>by rw [z8 ((y.h.block w.heap.size (z13 hA)).trans hA) 0]; rfl
 have q1 : ∀ y : Later WA.heap.size WA,y.w.cell? ⟨w.heap.size,1,none⟩=some (.iface Ty1 pv1):=fun y=>by rw [z8 ((y.h.block w.heap.size (z13 hA)).trans hA) 1]; rfl
 have q2 : ∀ y : Later WA.heap.size WA,y.w.cell? ⟨w.heap.size,2,none⟩=some (.string a):=fun y=>by rw [z8 ((y.h.block w.heap.size (z13 hA)).trans hA) 2]; rfl
 have q3 : ∀ y : Later WA.heap.size WA,y.w.cell? ⟨w.heap.size,3,none⟩=some (.string b):=fun y=>by rw [z8 ((y.h.block w.heap.size (z13 hA)).trans hA) 3]; rfl
 have q4 : ∀ y : Later WA.heap.size WA,y.w.cell? ⟨w.heap.size,4,none⟩=some (.iface Ty2 pv2):=fun y=>by rw [z8 ((y.h.block w.heap.size (z13 hA)).trans hA) 4]; rfl
 obtain⟨R,hR⟩ : ∃ R,([99,97,115,101,32]++T0++ [32,111,102,32,110,105,108,32,45,62,32]++T1++ [32,124,32]++a.data.toList++ [32,58,58,32]++b.data.toList++ [32,45,62,32]++T2 : List UInt8)=R:=⟨_,rfl⟩
 rw [hR];have HR:=hid hR;clear hA hB hWA hR hw hK0 ht0 hT0 hK1 ht1 hT1 hK2 ht2 hT2;go_enter Tryz.func247,Tryz.ntmps247
 go_upto_region 1 with fail
 rw [HWA.out];refine z18 WA.heap.size (by kernel_rfl) (by kernel_rfl) ?_;repeat (go_big_quiet_step (first | (rename_i y; refine (HK0.out _ (HB.out.trans (y.h.mono HB.out.size))).mono ?_; rintro e w5 ⟨rfl,hb5⟩; exact⟨rfl,⟨w5,y.h.trans (hb5.mono y.h.size)⟩,rfl⟩) | (rename_i y; refine (HK1.out _ (HB.out.trans (y.h.mono HB.out.size))).mono ?_; rintro e w5 ⟨rfl,hb5⟩; exact⟨rfl,⟨w5,y.h.trans (hb5.mono y.h.size)⟩,rfl⟩) | (rename_i y; refine (HK2.out _ (HB.out.trans (y.h.mono HB.out.size))).mono ?_; rintro e w5 ⟨rfl,hb5⟩; exact⟨rfl,⟨w5,y.h.trans (hb5.mono y.h.size)⟩,rfl⟩)))
 refine wpQuiet_nil ?_;rintro w6 ⟨y,rfl⟩;have B2:=hid (HB.out.trans (y.h.mono HB.out.size));generalize y.w=X1 at*;go_wp2_with fail
 go_ret;refine⟨?_,B2.out⟩;rw [← HR.out];simp only [← z23,HT0.out,HT1.out,HT2.out,z67];rfl
theorem text_pair (ht0 : TextOf W u0 T0) (hT0 : T0.length≤18000) (ht1 : TextOf W u1 T1) (hT1 : T1.length≤18000) (w : World) (hw : Below W.heap.size W w) :
 Calls Tryz.prog 235 #[.agg #[u0,u1]] w (BareP w ([40]++T0++ [44,32]++T1++ [41])):=by
 obtain⟨Ty0,pv0,g0,r0,rfl,hm0,hc0,hK0⟩:=ht0;obtain⟨t0,ht0⟩ : ∃ t,tx (T0)=t:=⟨_,rfl⟩
 have hts0 : t0.size≤18002:=by rw [← ht0,z26]; omega
 have HT0:=hid ht0;have HK0:=hid (show ∀ X,Below w.heap.size w X→Calls Tryz.prog g0 #[r0] X fun e X'=> e= .returned (.string t0)∧Below X.heap.size X X' from fun X hX=>by rw [← HT0.out]; exact hK0 X (hw.trans (hX.mono hw.size)));obtain⟨Ty1,pv1,g1,r1,rfl,hm1,hc1,hK1⟩:=ht1;obtain⟨t1,ht1⟩ : ∃ t,tx (T1)=t:=⟨_,rfl⟩
 have hts1 : t1.size≤18002:=by rw [← ht1,z26]; omega
 have HT1:=hid ht1;have HK1:=hid (show ∀ X,Below w.heap.size w X→Calls Tryz.prog g1 #[r1] X fun e X'=> e= .returned (.string t1)∧Below X.heap.size X X' from fun X hX=>by rw [← HT1.out]; exact hK1 X (hw.trans (hX.mono hw.size)));have hA:=(MapKept.heap_alloc w (.cells #[.iface Ty0 pv0,.iface Ty1 pv1] 168)).1;have hB:=(Below.refl w.heap.size w).alloc (Nat.le_refl _) (.cells #[.iface Ty0 pv0,.iface Ty1 pv1] 168);obtain⟨WA,hWA⟩ : ∃ X,w.alloc (.cells #[.iface Ty0 pv0,.iface Ty1 pv1] 168)=X:=⟨_,rfl⟩
 rw [hWA] at hA hB;have HWA:=hid hWA;have HB:=hid hB;have q0 : ∀ y : Later WA.heap.size WA,y.w.cell? ⟨w.heap.size,0,none⟩=some (.iface Ty0 pv0):=fun y=>by rw [z8 ((y.h.block w.heap.size (z13 hA)).trans hA) 0]; rfl
 have q1 : ∀ y : Later WA.heap.size WA,y.w.cell? ⟨w.heap.size,1,none⟩=some (.iface Ty1 pv1):=fun y=>by rw [z8 ((y.h.block w.heap.size (z13 hA)).trans hA) 1]; rfl
 obtain⟨R,hR⟩ : ∃ R,([40]++T0++ [44,32]++T1++ [41] : List UInt8)=R:=⟨_,rfl⟩
 rw [hR];have HR:=hid hR;clear hA hB hWA hR hw hK0 ht0 hT0 hK1 ht1 hT1;go_enter Tryz.func235,Tryz.ntmps235
 go_upto_region 1 with fail
 rw [HWA.out];refine z18 WA.heap.size (by kernel_rfl) (by kernel_rfl) ?_;repeat (go_big_quiet_step (first | (rename_i y; refine (HK0.out _ (HB.out.trans (y.h.mono HB.out.size))).mono ?_; rintro e w5 ⟨rfl,hb5⟩; exact⟨rfl,⟨w5,y.h.trans (hb5.mono y.h.size)⟩,rfl⟩) | (rename_i y; refine (HK1.out _ (HB.out.trans (y.h.mono HB.out.size))).mono ?_; rintro e w5 ⟨rfl,hb5⟩; exact⟨rfl,⟨w5,y.h.trans (hb5.mono y.h.size)⟩,rfl⟩)))
 refine wpQuiet_nil ?_;rintro w6 ⟨y,rfl⟩;have B2:=hid (HB.out.trans (y.h.mono HB.out.size));generalize y.w=X1 at*;go_wp2_with fail
 go_ret;refine⟨?_,B2.out⟩;rw [← HR.out];simp only [← z23,HT0.out,HT1.out];rfl
theorem text_ret (a : ByteArray) (ha : a.size≤8) (ht0 : TextOf W u0 T0) (hT0 : T0.length≤18000) (w : World) (hw : Below W.heap.size W w) :
 Calls Tryz.prog 258 #[.agg #[.string a,u0]] w (BareP w ([114,101,116,32]++a.data.toList++ [32,45,62,32]++T0)):=by
 obtain⟨Ty0,pv0,g0,r0,rfl,hm0,hc0,hK0⟩:=ht0;obtain⟨t0,ht0⟩ : ∃ t,tx (T0)=t:=⟨_,rfl⟩
 have hts0 : t0.size≤18002:=by rw [← ht0,z26]; omega
 have HT0:=hid ht0;have HK0:=hid (show ∀ X,Below w.heap.size w X→Calls Tryz.prog g0 #[r0] X fun e X'=> e= .returned (.string t0)∧Below X.heap.size X X' from fun X hX=>by rw [← HT0.out]; exact hK0 X (hw.trans (hX.mono hw.size)));have hA:=(MapKept.heap_alloc w (.cells #[.string a,.iface Ty0 pv0] 179)).1;have hB:=(Below.refl w.heap.size w).alloc (Nat.le_refl _) (.cells #[.string a,.iface Ty0 pv0] 179);obtain⟨WA,hWA⟩ : ∃ X,w.alloc (.cells #[.string a,.iface Ty0 pv0] 179)=X:=⟨_,rfl⟩
 rw [hWA] at hA hB;have HWA:=hid hWA;have HB:=hid hB;have q0 : ∀ y : Later WA.heap.size WA,y.w.cell? ⟨w.heap.size,0,none⟩=some (.string a):=fun y=>by rw [z8 ((y.h.block w.heap.size (z13 hA)).trans hA) 0]; rfl
 have q1 : ∀ y : Later WA.heap.size WA,y.w.cell? ⟨w.heap.size,1,none⟩=some (.iface Ty0 pv0):=fun y=>by rw [z8 ((y.h.block w.heap.size (z13 hA)).trans hA) 1]; rfl
 obtain⟨R,hR⟩ : ∃ R,([114,101,116,32]++a.data.toList++ [32,45,62,32]++T0 : List UInt8)=R:=⟨_,rfl⟩
 rw [hR];have HR:=hid hR;clear hA hB hWA hR hw hK0 ht0 hT0;go_enter Tryz.func258,Tryz.ntmps258
 go_upto_region 1 with fail
 rw [HWA.out];refine z18 WA.heap.size (by kernel_rfl) (by kernel_rfl) ?_;repeat (go_big_quiet_step (first | (rename_i y; refine (HK0.out _ (HB.out.trans (y.h.mono HB.out.size))).mono ?_; rintro e w5 ⟨rfl,hb5⟩; exact⟨rfl,⟨w5,y.h.trans (hb5.mono y.h.size)⟩,rfl⟩)))
 refine wpQuiet_nil ?_;rintro w6 ⟨y,rfl⟩;have B2:=hid (HB.out.trans (y.h.mono HB.out.size));generalize y.w=X1 at*;go_wp2_with fail
 go_ret;refine⟨?_,B2.out⟩;rw [← HR.out];simp only [← z23,HT0.out,z67];rfl
theorem text_op (a : ByteArray) (ha : a.size≤8) (b : ByteArray) (hb : b.size≤8) (c : ByteArray) (hc : c.size≤8) (ht0 : TextOf W u0 T0) (hT0 : T0.length≤18000) (w : World) (hw : Below W.heap.size W w) :
 Calls Tryz.prog 261 #[.agg #[.string a,.string b,.string c,u0]] w (BareP w ([124,32]++a.data.toList++ [32]++b.data.toList++ [32]++c.data.toList++ [32,45,62,32]++T0)):=by
 obtain⟨Ty0,pv0,g0,r0,rfl,hm0,hc0,hK0⟩:=ht0;obtain⟨t0,ht0⟩ : ∃ t,tx (T0)=t:=⟨_,rfl⟩
 have hts0 : t0.size≤18002:=by rw [← ht0,z26]; omega
 have HT0:=hid ht0;have HK0:=hid (show ∀ X,Below w.heap.size w X→Calls Tryz.prog g0 #[r0] X fun e X'=> e= .returned (.string t0)∧Below X.heap.size X X' from fun X hX=>by rw [← HT0.out]; exact hK0 X (hw.trans (hX.mono hw.size)));have hA:=(MapKept.heap_alloc w (.cells #[.string a,.string b,.string c,.iface Ty0 pv0] 181)).1;have hB:=(Below.refl w.heap.size w).alloc (Nat.le_refl _) (.cells #[.string a,.string b,.string c,.iface Ty0 pv0] 181);obtain⟨WA,hWA⟩ : ∃ X,w.alloc (.cells #[.string a,.string b,.string c,.iface Ty0 pv0] 181)=X:=⟨_,rfl⟩
 rw [hWA] at hA hB;have HWA:=hid hWA;have HB:=hid hB;have q0 : ∀ y : Later WA.heap.size WA,y.w.cell? ⟨w.heap.size,0,none⟩=some (.string a):=fun y=>by rw [z8 ((y.h.block w.heap.size (z13 hA)).trans hA) 0]; rfl
 have q1 : ∀ y : Later WA.heap.size WA,y.w.cell? ⟨w.heap.size,1,none⟩=some (.string b):=fun y=>by rw [z8 ((y.h.block w.heap.size (z13 hA)).trans hA) 1]; rfl
 have q2 : ∀ y : Later WA.heap.size WA,y.w.cell? ⟨w.heap.size,2,none⟩=some (.string c):=fun y=>by rw [z8 ((y.h.block w.heap.size (z13 hA)).trans hA) 2]; rfl
 have q3 : ∀ y : Later WA.heap.size WA,y.w.cell? ⟨w.heap.size,3,none⟩=some (.iface Ty0 pv0):=fun y=>by rw [z8 ((y.h.block w.heap.size (z13 hA)).trans hA) 3]; rfl
 obtain⟨R,hR⟩ : ∃ R,([124,32]++a.data.toList++ [32]++b.data.toList++ [32]++c.data.toList++ [32,45,62,32]++T0 : List UInt8)=R:=⟨_,rfl⟩
 rw [hR];have HR:=hid hR;clear hA hB hWA hR hw hK0 ht0 hT0;go_enter Tryz.func261,Tryz.ntmps261
 go_upto_region 1 with fail
 rw [HWA.out];refine z18 WA.heap.size (by kernel_rfl) (by kernel_rfl) ?_;repeat (go_big_quiet_step (first | (rename_i y; refine (HK0.out _ (HB.out.trans (y.h.mono HB.out.size))).mono ?_; rintro e w5 ⟨rfl,hb5⟩; exact⟨rfl,⟨w5,y.h.trans (hb5.mono y.h.size)⟩,rfl⟩)))
 refine wpQuiet_nil ?_;rintro w6 ⟨y,rfl⟩;have B2:=hid (HB.out.trans (y.h.mono HB.out.size));generalize y.w=X1 at*;go_wp2_with fail
 go_ret;refine⟨?_,B2.out⟩;rw [← HR.out];simp only [← z23,HT0.out,z67];rfl
end
end Go.Proofs.YtfbojelpdccjaaaGreatDoor
