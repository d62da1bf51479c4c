import Derived.Test.YtfbojelpdccjaaaGreatDoorPkB10
import Derived.Test.YtfbojelpdccjaaaGreatDoorPkB11
import Derived.Test.YtfbojelpdccjaaaGreatDoorPkB0
set_option maxHeartbeats 16000000
set_option maxRecDepth 100000
namespace Go.Proofs.YtfbojelpdccjaaaGreatDoor
open Go.RowKit Go.Deep
variable {s : ByteArray} {l0 l1 : Int} {T0 T1 : List UInt8} {e f p : Nat} {u0 u1 : Value} {W : World}
section
open Go.RowKit Go.Deep
theorem word17_calls (w : World) : Calls Tryz.prog 240 #[.int .i64 17] w fun e w'=> e= .returned (.string (tx [102,115,116]))∧Below w.heap.size w w':= by
 go_enter Tryz.func240,Tryz.ntmps240
 go_wp2_with fail
 go_ret;exact⟨rfl,by repeat (first | exact Below.refl _ _ | refine Below.alloc ?_ (by first | (simp; done) | (simp; omega)) _)⟩
theorem word18_calls (w : World) : Calls Tryz.prog 240 #[.int .i64 18] w fun e w'=> e= .returned (.string (tx [115,110,100]))∧Below w.heap.size w w':= by
 go_enter Tryz.func240,Tryz.ntmps240
 go_wp2_with fail
 go_ret;exact⟨rfl,by repeat (first | exact Below.refl _ _ | refine Below.alloc ?_ (by first | (simp; done) | (simp; omega)) _)⟩
theorem word21_calls (w : World) : Calls Tryz.prog 240 #[.int .i64 21] w fun e w'=> e= .returned (.string (tx [112,114,105,110,116]))∧Below w.heap.size w w':= by
 go_enter Tryz.func240,Tryz.ntmps240
 go_wp2_with fail
 go_ret;exact⟨rfl,by repeat (first | exact Below.refl _ _ | refine Below.alloc ?_ (by first | (simp; done) | (simp; omega)) _)⟩
theorem word11_calls (w : World) : Calls Tryz.prog 136 #[.int .i64 11] w fun e w'=> e= .returned (.string (tx [43]))∧Below w.heap.size w w':= by
 go_enter Tryz.func136,Tryz.ntmps136
 go_wp2_with fail
 go_ret;exact⟨rfl,by repeat (first | exact Below.refl _ _ | refine Below.alloc ?_ (by first | (simp; done) | (simp; omega)) _)⟩
theorem word12_calls (w : World) : Calls Tryz.prog 136 #[.int .i64 12] w fun e w'=> e= .returned (.string (tx [45]))∧Below w.heap.size w w':= by
 go_enter Tryz.func136,Tryz.ntmps136
 go_wp2_with fail
 go_ret;exact⟨rfl,by repeat (first | exact Below.refl _ _ | refine Below.alloc ?_ (by first | (simp; done) | (simp; omega)) _)⟩
theorem word13_calls (w : World) : Calls Tryz.prog 136 #[.int .i64 13] w fun e w'=> e= .returned (.string (tx [42]))∧Below w.heap.size w w':= by
 go_enter Tryz.func136,Tryz.ntmps136
 go_wp2_with fail
 go_ret;exact⟨rfl,by repeat (first | exact Below.refl _ _ | refine Below.alloc ?_ (by first | (simp; done) | (simp; omega)) _)⟩
theorem word14_calls (w : World) : Calls Tryz.prog 136 #[.int .i64 14] w fun e w'=> e= .returned (.string (tx [61]))∧Below w.heap.size w w':= by
 go_enter Tryz.func136,Tryz.ntmps136
 go_wp2_with fail
 go_ret;exact⟨rfl,by repeat (first | exact Below.refl _ _ | refine Below.alloc ?_ (by first | (simp; done) | (simp; omega)) _)⟩
theorem word15_calls (w : World) : Calls Tryz.prog 136 #[.int .i64 15] w fun e w'=> e= .returned (.string (tx [60]))∧Below w.heap.size w w':= by
 go_enter Tryz.func136,Tryz.ntmps136
 go_wp2_with fail
 go_ret;exact⟨rfl,by repeat (first | exact Below.refl _ _ | refine Below.alloc ?_ (by first | (simp; done) | (simp; omega)) _)⟩
theorem text_app (hl0 : LevelOf u0 l0) (ht0 : TextOf W u0 T0) (hT0 : T0.length≤18000) (hl1 : LevelOf u1 l1) (ht1 : TextOf W u1 T1) (hT1 : T1.length≤18000) (w : World) (hw : Below W.heap.size W w) :
 Calls Tryz.prog 221 #[.agg #[u0,u1]] w (BareP w (inT l0 5 T0++ [32]++inT l1 6 T1)):=by
 have hW0:=(fun (X : World) (hX : Below w.heap.size w X)=>z56 5 hl0 ht0 (by omega) X (hw.trans (hX.mono hw.size)))
 obtain⟨Ty0,pv0,g0,r0,rfl,hm0,hc0,hK0⟩:=ht0;obtain⟨t0,hq0⟩ : ∃ t,tx (inT l0 5 T0)=t:=⟨_,rfl⟩
 have hts0 : t0.size≤18002:=by rw [← hq0,z26]; have:=inT_len l0 5 T0; omega
 have HT0:=hid hq0;have hW1:=(fun (X : World) (hX : Below w.heap.size w X)=>z56 6 hl1 ht1 (by omega) X (hw.trans (hX.mono hw.size)))
 obtain⟨Ty1,pv1,g1,r1,rfl,hm1,hc1,hK1⟩:=ht1;obtain⟨t1,hq1⟩ : ∃ t,tx (inT l1 6 T1)=t:=⟨_,rfl⟩
 have hts1 : t1.size≤18002:=by rw [← hq1,z26]; have:=inT_len l1 6 T1; omega
 have HT1:=hid hq1;have HW : Hid (∀ (L : Int) (v : Value) (t : ByteArray),((L=5∧v= .iface Ty0 pv0∧t=t0)∨(L=6∧v= .iface Ty1 pv1∧t=t1))→ ∀ X,Below w.heap.size w X→Calls Tryz.prog 222 #[.int .i64 L,v] X fun e X'=> e= .returned (.string t)∧Below X.heap.size X X'):=by
  intro L v t h X hX;rcases h with (⟨rfl,rfl,rfl⟩ | ⟨rfl,rfl,rfl⟩)
  ·rw [← HT0.out]; exact hW0 X hX
  ·rw [← HT1.out]; exact hW1 X hX
 have hA:=(MapKept.heap_alloc w (.cells #[.iface Ty0 pv0,.iface Ty1 pv1] 160)).1;have hB:=(Below.refl w.heap.size w).alloc (Nat.le_refl _) (.cells #[.iface Ty0 pv0,.iface Ty1 pv1] 160);obtain⟨WA,hWA⟩ : ∃ X,w.alloc (.cells #[.iface Ty0 pv0,.iface Ty1 pv1] 160)=X:=⟨_,rfl⟩
 rw [hWA] at hA hB;have HWA:=hid hWA;have HB:=hid hB;have q0 : ∀ y : Later WA.heap.size WA,y.w.cell? ⟨w.heap.size,0,none⟩=some (.iface Ty0 pv0):=fun y=>by rw [z8 ((y.h.block w.heap.size (z13 hA)).trans hA) 0]; rfl
 have q1 : ∀ y : Later WA.heap.size WA,y.w.cell? ⟨w.heap.size,1,none⟩=some (.iface Ty1 pv1):=fun y=>by rw [z8 ((y.h.block w.heap.size (z13 hA)).trans hA) 1]; rfl
 obtain⟨R,hR⟩ : ∃ R,(inT l0 5 T0++ [32]++inT l1 6 T1 : List UInt8)=R:=⟨_,rfl⟩
 rw [hR];have HR:=hid hR;clear hA hB hWA hR hw hK0 hq0 hT0 hW0 hl0 hm0 hc0 hK1 hq1 hT1 hW1 hl1 hm1 hc1;go_enter Tryz.func221,Tryz.ntmps221
 go_upto_region 1 with fail
 rw [HWA.out];refine z18 WA.heap.size (by kernel_rfl) (by kernel_rfl) ?_;repeat (go_big_quiet_step (first | (rename_i y; go_at_call 222; refine (HW.out _ _ _ (by first | exact Or.inl ⟨rfl,rfl,rfl⟩ | exact Or.inr ⟨rfl,rfl,rfl⟩) _ (HB.out.trans (y.h.mono HB.out.size))).mono ?_; rintro e w5 ⟨rfl,hb5⟩; exact⟨rfl,⟨w5,y.h.trans (hb5.mono y.h.size)⟩,rfl⟩)))
 refine wpQuiet_nil ?_;rintro w6 ⟨y,rfl⟩;have B2:=hid (HB.out.trans (y.h.mono HB.out.size));generalize y.w=X1 at*;go_wp2_with fail
 go_ret;refine⟨?_,B2.out⟩;rw [← HR.out];simp only [← z23,HT0.out,HT1.out];rfl
theorem text_cons (hl0 : LevelOf u0 l0) (ht0 : TextOf W u0 T0) (hT0 : T0.length≤18000) (hl1 : LevelOf u1 l1) (ht1 : TextOf W u1 T1) (hT1 : T1.length≤18000) (w : World) (hw : Below W.heap.size W w) :
 Calls Tryz.prog 244 #[.agg #[u0,u1]] w (BareP w (inT l0 2 T0++ [32,58,58,32]++inT l1 1 T1)):=by
 have hW0:=(fun (X : World) (hX : Below w.heap.size w X)=>z56 2 hl0 ht0 (by omega) X (hw.trans (hX.mono hw.size)))
 obtain⟨Ty0,pv0,g0,r0,rfl,hm0,hc0,hK0⟩:=ht0;obtain⟨t0,hq0⟩ : ∃ t,tx (inT l0 2 T0)=t:=⟨_,rfl⟩
 have hts0 : t0.size≤18002:=by rw [← hq0,z26]; have:=inT_len l0 2 T0; omega
 have HT0:=hid hq0;have hW1:=(fun (X : World) (hX : Below w.heap.size w X)=>z56 1 hl1 ht1 (by omega) X (hw.trans (hX.mono hw.size)))
 obtain⟨Ty1,pv1,g1,r1,rfl,hm1,hc1,hK1⟩:=ht1;obtain⟨t1,hq1⟩ : ∃ t,tx (inT l1 1 T1)=t:=⟨_,rfl⟩
 have hts1 : t1.size≤18002:=by rw [← hq1,z26]; have:=inT_len l1 1 T1; omega
 have HT1:=hid hq1;have HW : Hid (∀ (L : Int) (v : Value) (t : ByteArray),((L=2∧v= .iface Ty0 pv0∧t=t0)∨(L=1∧v= .iface Ty1 pv1∧t=t1))→ ∀ X,Below w.heap.size w X→Calls Tryz.prog 222 #[.int .i64 L,v] X fun e X'=> e= .returned (.string t)∧Below X.heap.size X X'):=by
  intro L v t h X hX;rcases h with (⟨rfl,rfl,rfl⟩ | ⟨rfl,rfl,rfl⟩)
  ·rw [← HT0.out]; exact hW0 X hX
  ·rw [← HT1.out]; exact hW1 X hX
 have hA:=(MapKept.heap_alloc w (.cells #[.iface Ty0 pv0,.iface Ty1 pv1] 172)).1;have hB:=(Below.refl w.heap.size w).alloc (Nat.le_refl _) (.cells #[.iface Ty0 pv0,.iface Ty1 pv1] 172);obtain⟨WA,hWA⟩ : ∃ X,w.alloc (.cells #[.iface Ty0 pv0,.iface Ty1 pv1] 172)=X:=⟨_,rfl⟩
 rw [hWA] at hA hB;have HWA:=hid hWA;have HB:=hid hB;have q0 : ∀ y : Later WA.heap.size WA,y.w.cell? ⟨w.heap.size,0,none⟩=some (.iface Ty0 pv0):=fun y=>by rw [z8 ((y.h.block w.heap.size (z13 hA)).trans hA) 0]; rfl
 have q1 : ∀ y : Later WA.heap.size WA,y.w.cell? ⟨w.heap.size,1,none⟩=some (.iface Ty1 pv1):=fun y=>by rw [z8 ((y.h.block w.heap.size (z13 hA)).trans hA) 1]; rfl
 obtain⟨R,hR⟩ : ∃ R,(inT l0 2 T0++ [32,58,58,32]++inT l1 1 T1 : List UInt8)=R:=⟨_,rfl⟩
 rw [hR];have HR:=hid hR;clear hA hB hWA hR hw hK0 hq0 hT0 hW0 hl0 hm0 hc0 hK1 hq1 hT1 hW1 hl1 hm1 hc1;go_enter Tryz.func244,Tryz.ntmps244
 go_upto_region 1 with fail
 rw [HWA.out];refine z18 WA.heap.size (by kernel_rfl) (by kernel_rfl) ?_;repeat (go_big_quiet_step (first | (rename_i y; go_at_call 222; refine (HW.out _ _ _ (by first | exact Or.inl ⟨rfl,rfl,rfl⟩ | exact Or.inr ⟨rfl,rfl,rfl⟩) _ (HB.out.trans (y.h.mono HB.out.size))).mono ?_; rintro e w5 ⟨rfl,hb5⟩; exact⟨rfl,⟨w5,y.h.trans (hb5.mono y.h.size)⟩,rfl⟩)))
 refine wpQuiet_nil ?_;rintro w6 ⟨y,rfl⟩;have B2:=hid (HB.out.trans (y.h.mono HB.out.size));generalize y.w=X1 at*;go_wp2_with fail
 go_ret;refine⟨?_,B2.out⟩;rw [← HR.out];simp only [← z23,HT0.out,HT1.out];rfl
theorem text_perform (a : ByteArray) (ha : a.size≤8) (hl0 : LevelOf u0 l0) (ht0 : TextOf W u0 T0) (hT0 : T0.length≤18000) (w : World) (hw : Below W.heap.size W w) :
 Calls Tryz.prog 251 #[.agg #[.string a,u0]] w (BareP w ([100,111,32]++a.data.toList++ [32]++inT l0 6 T0)):=by
 have hW0:=(fun (X : World) (hX : Below w.heap.size w X)=>z56 6 hl0 ht0 (by omega) X (hw.trans (hX.mono hw.size)))
 obtain⟨Ty0,pv0,g0,r0,rfl,hm0,hc0,hK0⟩:=ht0;obtain⟨t0,hq0⟩ : ∃ t,tx (inT l0 6 T0)=t:=⟨_,rfl⟩
 have hts0 : t0.size≤18002:=by rw [← hq0,z26]; have:=inT_len l0 6 T0; omega
 have HT0:=hid hq0;have HW : Hid (∀ (L : Int) (v : Value) (t : ByteArray),((L=6∧v= .iface Ty0 pv0∧t=t0))→ ∀ X,Below w.heap.size w X→Calls Tryz.prog 222 #[.int .i64 L,v] X fun e X'=> e= .returned (.string t)∧Below X.heap.size X X'):=by
  intro L v t h X hX;rcases h with ⟨rfl,rfl,rfl⟩
  ·rw [← HT0.out]; exact hW0 X hX
 have hA:=(MapKept.heap_alloc w (.cells #[.string a,.iface Ty0 pv0] 176)).1;have hB:=(Below.refl w.heap.size w).alloc (Nat.le_refl _) (.cells #[.string a,.iface Ty0 pv0] 176);obtain⟨WA,hWA⟩ : ∃ X,w.alloc (.cells #[.string a,.iface Ty0 pv0] 176)=X:=⟨_,rfl⟩
 rw [hWA] at hA hB;have HWA:=hid hWA;have HB:=hid hB;have q0 : ∀ y : Later WA.heap.size WA,y.w.cell? ⟨w.heap.size,0,none⟩=some (.string a):=fun y=>by rw [z8 ((y.h.block w.heap.size (z13 hA)).trans hA) 0]; rfl
 have q1 : ∀ y : Later WA.heap.size WA,y.w.cell? ⟨w.heap.size,1,none⟩=some (.iface Ty0 pv0):=fun y=>by rw [z8 ((y.h.block w.heap.size (z13 hA)).trans hA) 1]; rfl
 obtain⟨R,hR⟩ : ∃ R,([100,111,32]++a.data.toList++ [32]++inT l0 6 T0 : List UInt8)=R:=⟨_,rfl⟩
 rw [hR];have HR:=hid hR;clear hA hB hWA hR hw hK0 hq0 hT0 hW0 hl0 hm0 hc0;go_enter Tryz.func251,Tryz.ntmps251
 go_upto_region 1 with fail
 rw [HWA.out];refine z18 WA.heap.size (by kernel_rfl) (by kernel_rfl) ?_;repeat (go_big_quiet_step (first | (rename_i y; go_at_call 222; refine (HW.out _ _ _ (by first | exact⟨rfl,rfl,rfl⟩) _ (HB.out.trans (y.h.mono HB.out.size))).mono ?_; rintro e w5 ⟨rfl,hb5⟩; exact⟨rfl,⟨w5,y.h.trans (hb5.mono y.h.size)⟩,rfl⟩)))
 refine wpQuiet_nil ?_;rintro w6 ⟨y,rfl⟩;have B2:=hid (HB.out.trans (y.h.mono HB.out.size));generalize y.w=X1 at*;go_wp2_with fail
 go_ret;refine⟨?_,B2.out⟩;rw [← HR.out];simp only [← z23,HT0.out,z67];rfl
theorem text_take {k : Int} {key : List UInt8} (hky : key.length≤5) (hkw : ∀ X,Calls Tryz.prog 240 #[.int .i64 k] X fun e X'=> e= .returned (.string (tx key))∧Below X.heap.size X X') (hl0 : LevelOf u0 l0) (ht0 : TextOf W u0 T0) (hT0 : T0.length≤18000) (w : World) (hw : Below W.heap.size W w) :
 Calls Tryz.prog 239 #[.agg #[.int .i64 k,u0]] w (BareP w (key++ [32]++inT l0 6 T0)):=by
 have hW0:=(fun (X : World) (hX : Below w.heap.size w X)=>z56 6 hl0 ht0 (by omega) X (hw.trans (hX.mono hw.size)))
 obtain⟨Ty0,pv0,g0,r0,rfl,hm0,hc0,hK0⟩:=ht0;obtain⟨t0,hq0⟩ : ∃ t,tx (inT l0 6 T0)=t:=⟨_,rfl⟩
 have hts0 : t0.size≤18002:=by rw [← hq0,z26]; have:=inT_len l0 6 T0; omega
 have HT0:=hid hq0;have HW : Hid (∀ (L : Int) (v : Value) (t : ByteArray),((L=6∧v= .iface Ty0 pv0∧t=t0))→ ∀ X,Below w.heap.size w X→Calls Tryz.prog 222 #[.int .i64 L,v] X fun e X'=> e= .returned (.string t)∧Below X.heap.size X X'):=by
  intro L v t h X hX;rcases h with ⟨rfl,rfl,rfl⟩
  ·rw [← HT0.out]; exact hW0 X hX
 obtain⟨sg,hsg⟩ : ∃ s,tx key=s:=⟨_,rfl⟩
 have hss : sg.size≤5:=by rw [← hsg,z26]; exact hky
 have HSg:=hid hsg;have HWd : Hid (∀ X,Calls Tryz.prog 240 #[.int .i64 k] X fun e X'=> e= .returned (.string sg)∧Below X.heap.size X X'):=fun X=>by rw [← HSg.out]; exact hkw X
 clear hsg hky hkw;have hA:=(MapKept.heap_alloc w (.cells #[.int .i64 k,.iface Ty0 pv0] 170)).1;have hB:=(Below.refl w.heap.size w).alloc (Nat.le_refl _) (.cells #[.int .i64 k,.iface Ty0 pv0] 170);obtain⟨WA,hWA⟩ : ∃ X,w.alloc (.cells #[.int .i64 k,.iface Ty0 pv0] 170)=X:=⟨_,rfl⟩
 rw [hWA] at hA hB;have HWA:=hid hWA;have HB:=hid hB;have q0 : ∀ y : Later WA.heap.size WA,y.w.cell? ⟨w.heap.size,0,none⟩=some (.int .i64 k):=fun y=>by rw [z8 ((y.h.block w.heap.size (z13 hA)).trans hA) 0]; rfl
 have q1 : ∀ y : Later WA.heap.size WA,y.w.cell? ⟨w.heap.size,1,none⟩=some (.iface Ty0 pv0):=fun y=>by rw [z8 ((y.h.block w.heap.size (z13 hA)).trans hA) 1]; rfl
 obtain⟨R,hR⟩ : ∃ R,(key++ [32]++inT l0 6 T0 : List UInt8)=R:=⟨_,rfl⟩
 rw [hR];have HR:=hid hR;clear hA hB hWA hR hw hK0 hq0 hT0 hW0 hl0 hm0 hc0;go_enter Tryz.func239,Tryz.ntmps239
 go_upto_region 1 with fail
 rw [HWA.out];refine z18 WA.heap.size (by kernel_rfl) (by kernel_rfl) ?_;repeat (go_big_quiet_step (first | (rename_i y; go_at_call 222; refine (HW.out _ _ _ (by first | exact⟨rfl,rfl,rfl⟩) _ (HB.out.trans (y.h.mono HB.out.size))).mono ?_; rintro e w5 ⟨rfl,hb5⟩; exact⟨rfl,⟨w5,y.h.trans (hb5.mono y.h.size)⟩,rfl⟩) | (rename_i y; go_at_call 240; refine (HWd.out _).mono ?_; rintro e w5 ⟨rfl,hb5⟩; exact⟨rfl,⟨w5,y.h.trans (hb5.mono y.h.size)⟩,rfl⟩)))
 refine wpQuiet_nil ?_;rintro w6 ⟨y,rfl⟩;have B2:=hid (HB.out.trans (y.h.mono HB.out.size));generalize y.w=X1 at*;go_wp2_with fail
 go_ret;refine⟨?_,B2.out⟩;rw [← HR.out];simp only [← z23,HT0.out,HSg.out];rfl
theorem text_sign {k v p q : Int} {key : List UInt8} (hk : k=11∨k=12∨k=13∨k=14∨k=15) (hlv : lvZ k=v) (hv : (v=3∧p=3∧q=4)∨(v=4∧p=4∧q=5)∨(v=2∧p=3∧q=3)) (hky : key.length≤5) (hkw : ∀ X,Calls Tryz.prog 136 #[.int .i64 k] X fun e X'=> e= .returned (.string (tx key))∧Below X.heap.size X X') (hl0 : LevelOf u0 l0) (ht0 : TextOf W u0 T0) (hT0 : T0.length≤18000) (hl1 : LevelOf u1 l1) (ht1 : TextOf W u1 T1) (hT1 : T1.length≤18000) (w : World) (hw : Below W.heap.size W w) :
 Calls Tryz.prog 265 #[.agg #[.int .i64 k,u0,u1]] w (BareP w (inT l0 p T0++ [32]++key++ [32]++inT l1 q T1)):=by
 have hW0:=(fun (X : World) (hX : Below w.heap.size w X)=>z56 p hl0 ht0 (by omega) X (hw.trans (hX.mono hw.size)))
 obtain⟨Ty0,pv0,g0,r0,rfl,hm0,hc0,hK0⟩:=ht0;obtain⟨t0,hq0⟩ : ∃ t,tx (inT l0 p T0)=t:=⟨_,rfl⟩
 have hts0 : t0.size≤18002:=by rw [← hq0,z26]; have:=inT_len l0 p T0; omega
 have HT0:=hid hq0;have hW1:=(fun (X : World) (hX : Below w.heap.size w X)=>z56 q hl1 ht1 (by omega) X (hw.trans (hX.mono hw.size)))
 obtain⟨Ty1,pv1,g1,r1,rfl,hm1,hc1,hK1⟩:=ht1;obtain⟨t1,hq1⟩ : ∃ t,tx (inT l1 q T1)=t:=⟨_,rfl⟩
 have hts1 : t1.size≤18002:=by rw [← hq1,z26]; have:=inT_len l1 q T1; omega
 have HT1:=hid hq1;have HW : Hid (∀ (L : Int) (v : Value) (t : ByteArray),((L=p∧v= .iface Ty0 pv0∧t=t0)∨(L=q∧v= .iface Ty1 pv1∧t=t1))→ ∀ X,Below w.heap.size w X→Calls Tryz.prog 222 #[.int .i64 L,v] X fun e X'=> e= .returned (.string t)∧Below X.heap.size X X'):=by
  intro L v t h X hX;rcases h with (⟨rfl,rfl,rfl⟩ | ⟨rfl,rfl,rfl⟩)
  ·rw [← HT0.out]; exact hW0 X hX
  ·rw [← HT1.out]; exact hW1 X hX
 obtain⟨sg,hsg⟩ : ∃ s,tx key=s:=⟨_,rfl⟩
 have hss : sg.size≤5:=by rw [← hsg,z26]; exact hky
 have HSg:=hid hsg;have HWd : Hid (∀ X,Calls Tryz.prog 136 #[.int .i64 k] X fun e X'=> e= .returned (.string sg)∧Below X.heap.size X X'):=fun X=>by rw [← HSg.out]; exact hkw X
 clear hsg hky hkw;have hA:=(MapKept.heap_alloc w (.cells #[.int .i64 k,.iface Ty0 pv0,.iface Ty1 pv1] 183)).1;have hB:=(Below.refl w.heap.size w).alloc (Nat.le_refl _) (.cells #[.int .i64 k,.iface Ty0 pv0,.iface Ty1 pv1] 183);obtain⟨WA,hWA⟩ : ∃ X,w.alloc (.cells #[.int .i64 k,.iface Ty0 pv0,.iface Ty1 pv1] 183)=X:=⟨_,rfl⟩
 rw [hWA] at hA hB;have HWA:=hid hWA;have HB:=hid hB;obtain⟨R,hR⟩ : ∃ R,(inT l0 p T0++ [32]++key++ [32]++inT l1 q T1 : List UInt8)=R:=⟨_,rfl⟩
 rw [hR];have HR:=hid hR;have HLv : Hid (∀ X,Calls Tryz.prog 263 #[.agg #[.int .i64 k,.iface Ty0 pv0,.iface Ty1 pv1]] X (LevP X v)):=fun X=>by rw [← hlv]; exact level_sign hk Ty0 Ty1 pv0 pv1 X
 have HA:=hid hA;have c0 : WA.cell? ⟨w.heap.size,0,none⟩=some (.int .i64 k):=by rw [z8 hA 0]; rfl
 have c1 : WA.cell? ⟨w.heap.size,1,none⟩=some (.iface Ty0 pv0):=by rw [z8 hA 1]; rfl
 have c2 : WA.cell? ⟨w.heap.size,2,none⟩=some (.iface Ty1 pv1):=by rw [z8 hA 2]; rfl
 clear hk hlv hA hB hWA hR hw hK0 hq0 hT0 hW0 hl0 hm0 hc0 hK1 hq1 hT1 hW1 hl1 hm1 hc1;rcases hv with ⟨rfl,rfl,rfl⟩ | ⟨rfl,rfl,rfl⟩ | ⟨rfl,rfl,rfl⟩
 all_goals
  go_enter Tryz.func265,Tryz.ntmps265
  go_upto_region 1 with fail
  rw [HWA.out];go_wp2_with fail
  refine (HLv.out WA).mono ?_;rintro e W1 ⟨rfl,hb1⟩;have HA1:=hid ((hb1.block w.heap.size (z13 HA.out)).trans HA.out);have HB1:=hid (HB.out.trans (hb1.mono HB.out.size));clear hb1 HLv HWA HA c0 c1 c2;have q0 : ∀ y : Later W1.heap.size W1,y.w.cell? ⟨w.heap.size,0,none⟩=some (.int .i64 k):=fun y=>by rw [z8 ((y.h.block w.heap.size (z13 HA1.out)).trans HA1.out) 0]; rfl
  have q1 : ∀ y : Later W1.heap.size W1,y.w.cell? ⟨w.heap.size,1,none⟩=some (.iface Ty0 pv0):=fun y=>by rw [z8 ((y.h.block w.heap.size (z13 HA1.out)).trans HA1.out) 1]; rfl
  have q2 : ∀ y : Later W1.heap.size W1,y.w.cell? ⟨w.heap.size,2,none⟩=some (.iface Ty1 pv1):=fun y=>by rw [z8 ((y.h.block w.heap.size (z13 HA1.out)).trans HA1.out) 2]; rfl
  go_upto_region 5 with fail
  refine z18 W1.heap.size (by kernel_rfl) (by kernel_rfl) ?_;repeat (go_big_quiet_step (first | (rename_i y; go_at_call 222; refine (HW.out _ _ _ (by first | exact Or.inl ⟨rfl,rfl,rfl⟩ | exact Or.inr ⟨rfl,rfl,rfl⟩) _ (HB1.out.trans (y.h.mono HB1.out.size))).mono ?_; rintro e w5 ⟨rfl,hb5⟩; exact⟨rfl,⟨w5,y.h.trans (hb5.mono y.h.size)⟩,rfl⟩) | (rename_i y; go_at_call 136; refine (HWd.out _).mono ?_; rintro e w5 ⟨rfl,hb5⟩; exact⟨rfl,⟨w5,y.h.trans (hb5.mono y.h.size)⟩,rfl⟩)))
  refine wpQuiet_nil ?_;rintro w6 ⟨y,rfl⟩;have B2:=hid (HB1.out.trans (y.h.mono HB1.out.size));generalize y.w=X1 at*;go_wp2_with fail
  go_ret;refine⟨?_,B2.out⟩;rw [← HR.out];simp only [← z23,HT0.out,HT1.out,HSg.out];rfl
end
section
open Go.RowKit
def okb (l : Bool) (x : Int) : Bool:=digitZ x || (l && letterZ x)
def IsRun (s : ByteArray) (l : Bool) (p e : Nat) : Prop:=
 p≤e∧e≤s.size∧(∀ j,p≤j→j < e→okb l (bz s j)=true)∧(e < s.size→okb l (bz s e)=false)
theorem IsRun.unique {l : Bool} {e' : Nat} (h : IsRun s l p e) (h' : IsRun s l p e') : e=e':= by
 obtain⟨h1,h2,h3,h4⟩:=h;obtain⟨g1,g2,g3,g4⟩:=h';rcases Nat.lt_trichotomy e e' with hlt | heq | hlt
 ·have a:=g3 e h1 hlt;have b:=h4 (by omega);rw [a] at b
  cases b
 ·exact heq
 ·have a:=h3 e' g1 hlt;have b:=g4 (by omega);rw [a] at b
  cases b
def runGo (s : ByteArray) (l : Bool) : Nat→Nat→Nat
 | 0,p=>p
 | f+1,p=>if p < s.size∧okb l (bz s p)=true then runGo s l f (p+1) else p
def runTo (s : ByteArray) (l : Bool) (p : Nat) : Nat:=runGo s l (s.size - p) p
theorem isRun_go (s : ByteArray) (l : Bool) : ∀ (f p : Nat),p+f=s.size→IsRun s l p (runGo s l f p)
 | 0,p,h=>⟨Nat.le_refl _,by simp [runGo]; omega,fun j h1 h2=>by simp [runGo] at h2; omega,fun h'=> by simp [runGo] at h'; omega⟩
 | f+1,p,h=>by
   unfold runGo;split
   ·rename_i hc;obtain⟨h1,h2,h3,h4⟩:=isRun_go s l f (p+1) (by omega);refine⟨by omega,h2,fun j hj1 hj2=>?_,h4⟩;by_cases e : j=p
    ·rw [e];exact hc.2
    ·exact h3 j (by omega) hj2
   ·rename_i hc;refine⟨Nat.le_refl _,by omega,fun j h1 h2=>by omega,fun h'=> ?_⟩
    cases hk : okb l (bz s p) with
    | false=>rfl
    | true=>exact absurd ⟨h',hk⟩ hc
theorem z36 (s : ByteArray) (l : Bool) (h : p≤s.size) : IsRun s l p (runTo s l p):=isRun_go s l _ p (by omega)
theorem IsRun.eq {l : Bool} (h : IsRun s l p e) : e=runTo s l p:=h.unique (z36 s l (Nat.le_trans h.1 h.2.1))
def signBytes : List (List UInt8):= [[45,62],[61,62],[58,58],[40],[41],[44],[43],[45],[42],[61],[60],[124],[58],[59]]
def signStrs : List ByteArray:=signBytes.map fun l=>⟨l.toArray⟩
def signHit (t g : ByteArray) : Bool:=decide (g.size≤t.size) && ((t.extract 0 g.size).toList==g.toList)
def signOf (t : ByteArray) : ByteArray:=(signStrs.find? (signHit t)).getD ByteArray.empty
structure Wd where
 kind : Int
 text : ByteArray
 at_ : Nat
instance : Inhabited Wd:=⟨⟨0,ByteArray.empty,0⟩⟩
def wordAt (s : ByteArray) (p : Nat) : Except Int (Wd×Nat):=
 if digitZ (bz s p)=true then
  let e:=runTo s false p
  if 9 < e - p∨(bz s p=48∧1 < e - p) then .error 3 else .ok (⟨1,s.extract p e,p⟩,e)
 else if letterZ (bz s p)=true then
  let e:=runTo s true p
  if 8 < e - p then .error 4 else .ok (⟨if isKey (s.extract p e) then 3 else 2,s.extract p e,p⟩,e)
 else
  let g:=signOf (s.extract p s.size)
  if g.size=0 then .error 2 else .ok (⟨4,g,p⟩,p+g.size)
theorem signOf_hit {t g : ByteArray} {k : Nat} (hk : k < 14) (hg : signStrs.getD k ByteArray.empty=g) (hh : signHit t g=true) (hno : ∀ j,j < k→signHit t (signStrs.getD j ByteArray.empty)=false) : signOf t=g:=by
 have hl : signStrs.length=14:=rfl;have e : ∀ j,j < 14→signStrs[j]? =some (signStrs.getD j ByteArray.empty):=fun j hj=>by simp [List.getD,List.getElem?_eq_getElem (show j < signStrs.length by omega)]
 unfold signOf;have : signStrs.find? (signHit t)=some g:=by
  rw [List.find?_eq_some_iff_getElem];refine⟨hh,k,by omega,?_,fun j hj=>?_⟩
  ·have:=e k hk;rw [List.getElem?_eq_getElem (show k < signStrs.length by omega)] at this;rw [hg] at this;exact Option.some.inj this
  ·have h1:=e j (by omega);rw [List.getElem?_eq_getElem (show j < signStrs.length by omega)] at h1;rw [Option.some.inj h1,hno j hj];rfl
 rw [this];rfl
theorem signOf_size (t : ByteArray) : (signOf t).size≤2:=by
 unfold signOf
 cases h : signStrs.find? (signHit t) with
 | none=>decide
 | some x=>
   have hx:=List.mem_of_find?_eq_some h;have : ∀ x∈signStrs,x.size≤2:=by decide
   exact this x hx
theorem wordAt_end {d : Wd} (hp : p < s.size) (h : wordAt s p= .ok (d,e)) : p < e∧e≤p+9:=by
 unfold wordAt at h;by_cases hd : digitZ (bz s p)=true
 ·obtain⟨h1,h2,h3,h4⟩:=z36 s false (p:=p) (by omega);rw [if_pos hd] at h;dsimp only at h;split at h
  ·cases h
  ·cases h;have : p≠runTo s false p:=fun e=>by
    have:=h4 (by omega);rw [← e,okb,hd] at this;simp at this
   omega
 ·rw [if_neg hd] at h;by_cases hL : letterZ (bz s p)=true
  ·obtain⟨h1,h2,h3,h4⟩:=z36 s true (p:=p) (by omega);rw [if_pos hL] at h;dsimp only at h;split at h
   ·cases h
   ·cases h;have : p≠runTo s true p:=fun e=>by
     have:=h4 (by omega);rw [← e,okb,hL] at this;simp at this
    omega
  ·rw [if_neg hL] at h;dsimp only at h;have:=signOf_size (s.extract p s.size);split at h
   ·cases h
   ·cases h;omega
def blankZ (x : Int) : Bool:=x==32 || x==10
def lexGo (s : ByteArray) : Nat→Nat→List Wd→List Wd×Int×Nat
 | 0,_,ws=>(ws,0,0)
 | f+1,p,ws=>
   if p < s.size then
    if blankZ (bz s p)=true then lexGo s f (p+1) ws
    else match wordAt s p with
     | .error c=>([],c,p)
     | .ok (d,e)=>lexGo s f e (ws++ [d])
   else (ws,0,0)
def lexAll (s : ByteArray) : List Wd×Int×Nat:=if 1500 < s.size then ([],1,0) else lexGo s s.size 0 []
theorem lexGo_end (h : ¬ p < s.size) : ∀ (f : Nat) (ws : List Wd),lexGo s f p ws=(ws,0,0)
 | 0,_=>rfl
 | f+1,ws=>by rw [lexGo,if_neg h]
theorem lexGo_blank {ws : List Wd} (h : p < s.size) (hb : blankZ (bz s p)=true) : lexGo s (f+1) p ws=lexGo s f (p+1) ws:=by
 rw [lexGo,if_pos h,if_pos hb]
theorem lexGo_bad {ws : List Wd} {c : Int} (h : p < s.size) (hb : ¬ blankZ (bz s p)=true) (hw : wordAt s p= .error c) : lexGo s (f+1) p ws=([],c,p):=by
 rw [lexGo,if_pos h,if_neg hb,hw]
theorem lexGo_word {ws : List Wd} {d : Wd} (h : p < s.size) (hb : ¬ blankZ (bz s p)=true) (hw : wordAt s p= .ok (d,e)) : lexGo s (f+1) p ws=lexGo s f e (ws++ [d]):=by
 rw [lexGo,if_pos h,if_neg hb,hw]
def flatW : List Wd→List Value
 | []=> []
 | d::r=> .int .i64 d.kind:: .string d.text:: .int .i64 d.at_::flatW r
theorem flatW_append : ∀ (a b : List Wd),flatW (a++b)=flatW a++flatW b
 | [],_=>rfl
 | d::r,b=>by simp [flatW,flatW_append r b]
end
end Go.Proofs.YtfbojelpdccjaaaGreatDoor
