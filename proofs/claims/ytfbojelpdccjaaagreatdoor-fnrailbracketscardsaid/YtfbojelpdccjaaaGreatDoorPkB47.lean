import Derived.IntWalk
import Derived.Test.YtfbojelpdccjaaaGreatDoorPkB46
set_option maxHeartbeats 32000000
set_option maxRecDepth 100000
namespace Go.Proofs.YtfbojelpdccjaaaGreatDoor
open Go.RowKit Go.Deep
variable {w : World}
section
open Go.RowKit Go.Deep
theorem set2_is {q : Nat} {x y : Value} {t : TypeId} (a b : Value) (h : w.heap[q]? =some (.cells #[x,y] t)) : ((w.setCell ⟨q,0,none⟩ a).setCell ⟨q,1,none⟩ b).heap[q]? =some (.cells #[a,b] t):=by
 have h1:=z33 (i:=0) a h;have h2:=z33 (i:=1) b h1;simpa using h2
theorem set2_other {q g : Nat} (a b : Value) (h : g≠q) : ((w.setCell ⟨q,0,none⟩ a).setCell ⟨q,1,none⟩ b).heap[g]? =w.heap[g]? :=
 (Below.heap_setCell _ _ _ _ h).trans (Below.heap_setCell _ _ _ _ h)
theorem cell_other {w' : World} {g : Nat} (h : w'.heap[g]? =w.heap[g]?) (o : Nat) : w'.cell? ⟨g,o,none⟩=w.cell? ⟨g,o,none⟩:=by
 simp [World.cell?,h]
theorem box_apart {X Y : World} {q1 q2 : Nat} {x1 y1 x2 y2 : Value} {t1 t2 : TypeId} (h1 : X.heap[q1]? =some (.cells #[x1,y1] t1)) (h2 : X.heap[q2]? =some (.cells #[x2,y2] t2)) (ho : ∀ g,g≠q1→g≠q2→Y.heap[g]? =X.heap[g]?) {b o : Nat} {v : Value} (hc : X.cell? ⟨b,o+2,none⟩=some v) : ∀ i,Y.cell? ⟨b,i,none⟩=X.cell? ⟨b,i,none⟩:=by
 have n1 : b≠q1:=fun e=>by
  rw [e,z8 h1] at hc;simp at hc
 have n2 : b≠q2:=fun e=>by
  rw [e,z8 h2] at hc;simp at hc
 exact fun i=>cell_other (ho b n1 n2) i
theorem RdK.apart {t : ByteArray} {T : List Nd→Bool} {X Y : World} {a1 : Option Addr} {l1 c1 : Nat} {a2 : Option Addr} {l2 c2 : Nat} {es : List Ef} {ns : List Nd} {kk aa : Int} {q1 q2 : Nat} {x1 y1 x2 y2 : Value} {t1 t2 : TypeId} (h : RdK t T X a1 l1 c1 a2 l2 c2 es ns kk aa) (h1 : X.heap[q1]? =some (.cells #[x1,y1] t1)) (h2 : X.heap[q2]? =some (.cells #[x2,y2] t2)) (hs : X.heap.size≤Y.heap.size) (ho : ∀ g,g≠q1→g≠q2→Y.heap[g]? =X.heap[g]?) : RdK t T Y a1 l1 c1 a2 l2 c2 es ns kk aa:=by
 refine⟨?_,?_,h.es_,h.ns_,h.kk_,h.aa_,h.le,h.ln,h.fe,h.fn⟩
 ·obtain⟨a,cp,e,hh⟩:=h.eff;refine⟨a,cp,e,hh.imp id ?_⟩;rintro⟨b,off,ea,hb,hc⟩;refine⟨b,off,ea,Nat.lt_of_lt_of_le hb hs,fun k hk c hc'=> ?_⟩;have h2':= hc k hk 2 (by decide);rw [box_apart h1 h2 ho h2'];exact hc k hk c hc'
 ·obtain⟨a,cp,e,hh⟩:=h.nod;refine⟨a,cp,e,hh.imp id ?_⟩;rintro⟨b,off,ea,hb,hc⟩;refine⟨b,off,ea,Nat.lt_of_lt_of_le hb hs,fun k hk c hc'=> ?_⟩;have h2':= hc k hk 2 (by decide);rw [box_apart h1 h2 ho h2'];exact hc k hk c hc'
theorem rbr_walk (a0 : Option Addr) (len cap : Nat) (W : World) (hcap : len≤cap) (hB : BytesAt W a0 len) (hL : Laid W) :
 Calls Tryz.prog 4 #[.slice a0 len cap] W fun e W'=> e= .returned (.bool true)∧Below W.heap.size W W':= by
 by_cases hl : (1048576 : Int) < (len : Int)
 ·go_enter Tryz.func4,Tryz.ntmps4
  go_wp2_with fail
  go_ret;exact⟨rfl,Below.refl _ _⟩
 have HD:=hid (drawProg_calls a0 len cap W (by omega) hcap hB);have HLa:=hid hL;obtain⟨T,hT⟩ : ∃ T : List Nd→Bool,∀ ns,SpecAns ns (T ns)∧ImplAns ns (T ns):=⟨fun ns=>Classical.choose (answers ns),fun ns=>Classical.choose_spec (answers ns)⟩
 have HT:=hid hT;have hl' : (len : Int)≤1048576:=by omega
 clear hB hl hcap hL hT;go_enter Tryz.func4,Tryz.ntmps4
 go_wp2_with fail
 refine HD.out.mono ?_;rintro e W1 ⟨ad,cp,v,es,ns,rfl,hE,he5,hBe,hN,hBn,hnl,hb1⟩;obtain⟨S,hBo⟩:=both_texts (HLa.out.stays hb1) hE he5 hBe hN hBn;have hES:=effW_slice hE;have hNS:=nodeV_slice hN;obtain⟨av,cv,rfl⟩:=nodeS_len hNS;obtain⟨le,hle⟩ : ∃ n,es.length=n:=⟨_,rfl⟩
 obtain⟨ln,hln⟩ : ∃ n,ns.length=n:=⟨_,rfl⟩
 have HSt:=hid hBo.text.len;rw [hle,hln] at hBo;rw [hle] at hES;rw [hln] at hNS;have HLn:=hid (show es.length=le∧ns.length=ln∧le≤5∧ln≤1000 by omega);have HBo:=hid hBo;have HB1:=hid hb1;have HRt:=hid hBo.text.right;rw [hle,hln];have hA:=(MapKept.heap_alloc W1 (.cells #[.slice ad le cp,.slice av ln cv] 26)).1;have hb2:=(Below.refl W1.heap.size W1).alloc (Nat.le_refl _) (.cells #[.slice ad le cp,.slice av ln cv] 26);obtain⟨W2,hW2⟩ : ∃ X,W1.alloc (.cells #[.slice ad le cp,.slice av ln cv] 26)=X:=⟨_,rfl⟩
 rw [hW2] at hA hb2;obtain⟨q,hq⟩ : ∃ q,W1.heap.size=q:=⟨_,rfl⟩
 rw [hq] at hA;have HW2:=hid hW2;have K2 : Hid (BoxK W2 q (.slice ad le cp) (.slice av ln cv) 26):=⟨hA⟩
 have B2:=hid hb2;have HP1:=hid (And.intro hES hNS);clear HD hb1 hE he5 hBe hN hBn hnl hBo hES hNS hle hln hA hb2 hW2 hl';go_upto_region 4 with fail
 rw [HW2.out];try rw [hq]
 clear HW2 hq;have c0:=K2.out.c0;have c1:=K2.out.c1;go_wp2_with fail
 refine (HBo.out.impl W2 B2.out).mono ?_;rintro e W3 ⟨rfl,hb3⟩;have K3:=hid (K2.out.below hb3);have B3:=hid (B2.out.trans (hb3.mono B2.out.size));clear hb3 c0 c1;obtain⟨SX,hSX⟩ : ∃ x,tx S=x:=⟨_,rfl⟩
 have HSX:=hid hSX;rw [hSX];clear hSX;have c0:=K3.out.c0;have c1:=K3.out.c1;go_wp2_with fail
 refine (HBo.out.spec W3 B3.out).mono ?_;rintro e W4 ⟨rfl,hb4⟩;have K4:=hid (K3.out.below hb4);have B4:=hid (B3.out.trans (hb4.mono B3.out.size));clear hb4 c0 c1;rw [HSX.out];have c0:=K4.out.c0;have c1:=K4.out.c1;have hss : (SX.toList !=SX.toList)=false:=by simp
 by_cases hbig : (1500 : Int) < (SX.size : Int)
 ·go_wp2_with fail
  go_ret;exact⟨rfl,HB1.out.trans (B4.out.mono HB1.out.size)⟩
 have HSz:=hid (show SX.size≤1500 by omega);have HRP : Hid (∀ k,k < SX.size→ ∃ n t,ns=n::t.flat∧RightP es n t S):=fun k hk=>by
  rcases HRt.out with ⟨rfl,-⟩ | h
  ·have e : SX.size=0:=by rw [← HSX.out]; rfl
   omega
  ·exact h
 have HTX : Hid (SX.data.toList=S):=by show _=_; rw [← HSX.out]; simp [tx]
 clear c0 c1 HRt HSX K2 K3 B2 B3;go_wp2_with fail
 clear hss hbig;go_loopw [5,6] (fun n i wr=> ∃ (k : Nat) (m : Int),n= .int .i64 m∧i= .int .i64 (k : Int)∧Hid (0≤m∧m≤12)∧Hid (Below W4.heap.size W4 wr)) (fun _ i _=>SX.size - (intOf i).toNat)
 case atStart=>exact⟨0,0,rfl,rfl,⟨by decide,by decide⟩,Below.refl _ _⟩
 case round=>
  obtain⟨k,m,rfl,rfl,HM,HBr⟩:=hrel;have HKr:=hid (K4.out.below HBr.out);have HBw:=hid (B4.out.trans (HBr.out.mono B4.out.size));have HBe:=hid (HB1.out.trans (HBw.out.mono HB1.out.size));by_cases hk : (k : Int) < (SX.size : Int)
  ·have hkn : k < SX.size:=by omega
   have hk0 : (0 : Int)≤(k : Int):=by omega
   have hstep : Hid (SX.size - (intOf (.int .i64 ((k+1 : Nat) : Int))).toNat < SX.size - (intOf (.int .i64 (k : Int))).toNat):=by show _ < _; simp only [intOf,Int.toNat_natCast]; omega
   have HK : Hid (k≤1500):=by show _≤_; have:=HSz.out; omega
   by_cases hm : m < 12
   ·have h40:=byte_is (b:=SX[k]'hkn) (c:=40) (n:=40) rfl (by omega);have hw1 : wrap64 ((k : Int)+1)=(k : Int)+1:=by have:=HK.out; unfold wrap64; omega
    by_cases hc : SX[k]'hkn=40
    ·have x1 : ((((SX[k]'hkn).toNat : Int) !=40)=false):=by
      rw [bne,h40.2 hc];rfl
     obtain⟨nn,tt,hnt,hR⟩:=HRP.out k hkn;obtain⟨P,A,B,e1,e2,e3,e4⟩:=hR.mate (i:=k) (by rw [← HTX.out]; simpa using hkn) (by rw [← HTX.out,← byte_at SX k hkn]; exact hc);obtain⟨al,hal⟩ : ∃ n,A.length=n:=⟨_,rfl⟩
     obtain⟨z,hz⟩ : ∃ z : Int,((k+1+al : Nat) : Int)=z:=⟨_,rfl⟩
     have HMt : Hid (∀ w,Calls Tryz.prog 13 #[.string SX,.int .i64 (k : Int)] w fun e w'=> e= .returned (.int .i64 z)∧w'= w):=fun w=>by
      have h:=hrMate_calls (TX:=SX) (P:=P) (A:=A) (B:=B) (by rw [HTX.out]; exact e1) e3 e4 (by have:=HSz.out; omega) w;rw [e2,hal,hz] at h;exact h
     have hlen : SX.size=k+1+al+1+B.length:=by
      have:=congrArg List.length e1;simp only [List.length_append,List.length_cons] at this;have e : SX.data.toList.length=SX.size:=by simp
      rw [HTX.out] at e;omega
     have hlt : z < (SX.size : Int):=by omega
     have HNd : Hid (∀ s' : ByteArray,s'.data.toList=P++32::(A++32::B)→nsR (readZ s' T)≠ns):=fun s' hs'=> by
      rw [hnt];exact hR.needless e1 T hs'
     have HPz:=hid (And.intro e1 (And.intro e2 (And.intro hal hz)));have hz0 : ¬ z < 0:=by omega
     have hzk : (k : Int)+1≤z:=by omega
     have HZ : Hid (z≤1500):=by show _≤_; have:=HSz.out; omega
     clear e1 e2 e3 e4 hal hz hlen hnt hR h40 hc;go_wp2_with fail
     refine (HMt.out _).mono ?_;rintro e w' ⟨rfl,hw⟩;have hw':= hw.symm;subst hw';clear hw;by_cases hq : z=(k : Int)+1
     ·have x2 : (z==(k : Int)+1)=true:=by rw [beq_iff_eq]; exact hq
      clear HMt HNd HPz hlt hzk;subst hq;go_wp2_with fail
      exact⟨⟨k+1,m,rfl,rfl,HM,HBr⟩,hstep.out⟩
     ·have x2 : (z==(k : Int)+1)=false:=by rw [← Bool.not_eq_true,beq_iff_eq]; exact hq
      have hw2 : wrap64 (m+1)=m+1:=by have:=HM.out; unfold wrap64; omega
      have HM1 : Hid (0≤m+1∧m+1≤12):=by show _∧_; have:=HM.out; omega
      have hw3 : wrap64 (z+1)=z+1:=by have:=HZ.out; unfold wrap64; omega
      go_upto_region 19 with fail
      obtain⟨s1,hs1⟩ : ∃ x,SX.extract 0 k=x:=⟨_,rfl⟩
      obtain⟨s2,hs2⟩ : ∃ x,s1++⟨#[32]⟩=x:=⟨_,rfl⟩
      obtain⟨s3,hs3⟩ : ∃ x,SX.extract (k+1) z.toNat=x:=⟨_,rfl⟩
      obtain⟨s4,hs4⟩ : ∃ x,s2++s3=x:=⟨_,rfl⟩
      obtain⟨s5,hs5⟩ : ∃ x,s4++⟨#[32]⟩=x:=⟨_,rfl⟩
      obtain⟨s6,hs6⟩ : ∃ x,SX.extract (z+1).toNat SX.size=x:=⟨_,rfl⟩
      obtain⟨s7,hs7⟩ : ∃ x,s5++s6=x:=⟨_,rfl⟩
      have hkle : (k : Int)≤(SX.size : Int):=by omega
      have hk10 : (0 : Int)≤(k : Int)+1:=by omega
      have hzl : z≤(SX.size : Int):=by omega
      have hz10 : 0≤z+1:=by omega
      have hz1l : z+1≤(SX.size : Int):=by omega
      have S1 : s1.size≤1500:=by rw [← hs1,ByteArray.size_extract]; have:=HSz.out; omega
      have S2 : s2.size≤1501:=by rw [← hs2,ByteArray.size_append]; have e : (⟨#[32]⟩ : ByteArray).size=1:=rfl; omega
      have S3 : s3.size≤1500:=by rw [← hs3,ByteArray.size_extract]; have:=HSz.out; omega
      have S4 : s4.size≤3001:=by rw [← hs4,ByteArray.size_append]; omega
      have S5 : s5.size≤3002:=by rw [← hs5,ByteArray.size_append]; have e : (⟨#[32]⟩ : ByteArray).size=1:=rfl; omega
      have S6 : s6.size≤1500:=by rw [← hs6,ByteArray.size_extract]; have:=HSz.out; omega
      have HD : Hid (nsR (readZ s7 T)≠ns):=by
       obtain⟨g1,g2,g3,g4⟩:=HPz.out;have hzt : (z+1).toNat=z.toNat+1:=by omega
       have h:=struck_is (TX:=SX) (P:=P) (A:=A) (B:=B) (by rw [HTX.out]; exact g1) (i:=k) (k:=z.toNat) g2.symm (by omega);refine HNd.out s7 ?_;rw [← hs7,← hs6,← hs5,← hs4,← hs3,← hs2,← hs1,hzt];exact h
      clear HPz HNd HMt;have HBd0 : Hid (Below wr.heap.size wr wr.drew):=(Below.refl _ _).drew;have hS0 : (fun X : World=>Below wr.drew.heap.size wr.drew X) wr.drew:=Below.refl _ _;refine z27 (S:=fun X : World=>Below wr.drew.heap.size wr.drew X) (by kernel_rfl) rfl rfl ?_;refine pick_o 0 (.string SX) hS0 ?_;refine pick_o 1 (.int .i64 (k : Int)) hS0 ?_;refine pick_o (hy:=fun w' _=>by simp [go_sem,hk0,hkle,hs1]) 2 (.string s1) hS0 ?_
      refine z10 (i:=3) (v:= .string s2) (by kernel_rfl) rfl (by kernel_rfl) (by kernel_rfl) rfl rfl (fun w' _=>by simp [go_sem,hs2]; omega) hS0 (by simp [go_sem]; exact rfl) ?_;refine pick_o 4 (.string SX) hS0 ?_;refine pick_o 5 (.int .i64 (k : Int)) hS0 ?_;refine z10 (i:=6) (v:= .int .i64 ((k : Int)+1)) (by kernel_rfl) rfl (by kernel_rfl) (by kernel_rfl) rfl rfl (fun w' _=>by simp [go_sem]; exact (IntWalk.i64_left _).trans hw1) hS0 (by simp [go_sem]; exact rfl) ?_;refine pick_o 7 (.int .i64 z) hS0 ?_;refine pick_o (hy:=fun w' _=>by simp [go_sem,hk10,hzk,hzl,hs3]) 8 (.string s3) hS0 ?_
      refine z10 (i:=9) (v:= .string s4) (by kernel_rfl) rfl (by kernel_rfl) (by kernel_rfl) rfl rfl (fun w' _=>by simp [go_sem,hs4]; omega) hS0 (by simp [go_sem]; exact rfl) ?_;refine z10 (i:=10) (v:= .string s5) (by kernel_rfl) rfl (by kernel_rfl) (by kernel_rfl) rfl rfl (fun w' _=>by simp [go_sem,hs5]; omega) hS0 (by simp [go_sem]; exact rfl) ?_;refine pick_o 11 (.string SX) hS0 ?_;refine pick_o 12 (.int .i64 z) hS0 ?_
      refine z10 (i:=13) (v:= .int .i64 (z+1)) (by kernel_rfl) rfl (by kernel_rfl) (by kernel_rfl) rfl rfl (fun w' _=>by simp [go_sem]; exact (IntWalk.i64_left _).trans hw3) hS0 (by simp [go_sem]; exact rfl) ?_;refine pick_o (hy:=fun w' _=>by simp [go_sem,hz10,hz1l,hs6]) 14 (.string s6) hS0 ?_;refine z10 (i:=15) (v:= .string s7) (by kernel_rfl) rfl (by kernel_rfl) (by kernel_rfl) rfl rfl (fun w' _=>by simp [go_sem,hs7]; omega) hS0 (by simp [go_sem]; exact rfl) ?_;clear hq x1 x2
      refine pick_boxes (c:=16) (ia:=20) (ib:=21) (m:=17) (x0:=18) (x1:=19) (n:=2) (ts:=65) (f:=9) (s:= .string s7) (ob1:= .cells #[.slice none 0 0,.slice none 0 0] 26) (ob2:= .cells #[.int .i64 0,.int .i64 0] 31) (fun u v X=> ∃ a1 l1 d1 a2 l2 d2 es1 ns1 kk aa,u= .agg #[.slice a1 l1 d1,.slice a2 l2 d2]∧v= .agg #[.int .i64 kk,.int .i64 aa]∧RdK s7 T X a1 l1 d1 a2 l2 d2 es1 ns1 kk aa) (by kernel_rfl) rfl rfl rfl rfl rfl rfl ⟨rfl,rfl⟩ ⟨rfl,rfl⟩ ⟨rfl,rfl⟩ ⟨rfl,rfl⟩ ⟨rfl,rfl⟩ ⟨rfl,rfl⟩ rfl rfl (fun a' w' h=>by simp [go_sem] at h ⊢; simp [h]) (fun a' w'=> by simp [go_sem,boxPtr]) (fun a' w'=> by simp [go_sem,boxPtr]) (fun a' w' v h=>by simp [go_sem] at h ⊢; simp [h]) (fun a' w' u v h=>by simp [go_sem] at h ⊢; simp [h]) (fun a' w' u v h=>by simp [go_sem] at h ⊢; simp [h]) (fun X hX=>hX) (fun u v X X' ⟨a1,l1,d1,a2,l2,d2,es1,ns1,kk,aa,g1,g2,g3⟩ hb=>⟨a1,l1,d1,a2,l2,d2,es1,ns1,kk,aa,g1,g2,g3.below hb⟩) (fun w' hw'=> (readI_calls s7 T (fun ns=>(HT.out ns).2) w').mono ?_) ?_
      ·rintro e X ⟨a1,l1,d1,a2,l2,d2,es1,ns1,kk,aa,rfl,g3,-,hb⟩;exact⟨_,_,rfl,⟨a1,l1,d1,a2,l2,d2,es1,ns1,kk,aa,rfl,rfl,g3⟩,hb⟩
      rintro u v X q1 q2 ⟨a1,l1,d1,a2,l2,d2,es1,ns1,kk,aa,rfl,rfl,hrd⟩ hX hq1 hq2 hne hz1 hz2;have p0:=z8 hq1 0;have p1:=z8 hq1 1;obtain⟨y0,y1⟩:=ffz2 hq1;simp at p0 p1;obtain⟨X1,hX1⟩ : ∃ Y,(X.setCell ⟨q1,0,none⟩ (.slice a1 l1 d1)).setCell ⟨q1,1,none⟩ (.slice a2 l2 d2)=Y:=⟨_,rfl⟩
      have hb1 : Below wr.drew.heap.size wr.drew X1:=by
       rw [← hX1];exact (hX.setCell (p:=⟨q1,0,none⟩) hz1 _).setCell (p:=⟨q1,1,none⟩) hz1 _
      have k1 : X1.heap[q1]? =some (.cells #[.slice a1 l1 d1,.slice a2 l2 d2] 26):=by rw [← hX1]; exact set2_is _ _ hq1
      have k2 : X1.heap[q2]? =some (.cells #[.int .i64 0,.int .i64 0] 31):=by rw [← hX1,set2_other _ _ (fun e=>hne e.symm)]; exact hq2
      have o1 : ∀ g,g≠q1→X1.heap[g]? =X.heap[g]? :=fun g hg=>by rw [← hX1]; exact set2_other _ _ hg
      refine z68 (i:=22) (w1:=X1) rfl rfl (by kernel_rfl) rfl rfl (by simp [go_sem,boxPtr,p0,p1,y0,y1,hX1]) hb1 ?_;have p0:=z8 k2 0;have p1:=z8 k2 1;obtain⟨y0,y1⟩:=ffz2 k2;simp at p0 p1;obtain⟨Y,hY⟩ : ∃ Y,(X1.setCell ⟨q2,0,none⟩ (.int .i64 kk)).setCell ⟨q2,1,none⟩ (.int .i64 aa)=Y:=⟨_,rfl⟩
      have hb2 : Below wr.drew.heap.size wr.drew Y:=by
       rw [← hY];exact (hb1.setCell (p:=⟨q2,0,none⟩) hz2 _).setCell (p:=⟨q2,1,none⟩) hz2 _
      have k3 : Y.heap[q2]? =some (.cells #[.int .i64 kk,.int .i64 aa] 31):=by rw [← hY]; exact set2_is _ _ k2
      have k4 : Y.heap[q1]? =some (.cells #[.slice a1 l1 d1,.slice a2 l2 d2] 26):=by rw [← hY,set2_other _ _ hne]; exact k1
      have o2 : ∀ g,g≠q1→g≠q2→Y.heap[g]? =X.heap[g]? :=fun g hg hg'=> by rw [← hY,set2_other _ _ hg']; exact o1 g hg
      refine z68 (i:=23) (w1:=Y) rfl rfl (by kernel_rfl) rfl rfl (by simp [go_sem,boxPtr,p0,p1,y0,y1,hY]) hb2 ?_;refine z24 (by kernel_rfl) ?_;unfold boxPtr;have hsY : X.heap.size≤Y.heap.size:=by rw [← hY,← hX1]; simp [World.setCell]
      have HRd:=hid (hrd.apart hq1 hq2 hsY o2);have PY : Hid (BoxK Y q1 (.slice a1 l1 d1) (.slice a2 l2 d2) 26):=⟨k4⟩
      have FY : Hid (BoxK Y q2 (.int .i64 kk) (.int .i64 aa) 31):=⟨k3⟩
      have HBY : Hid (Below wr.heap.size wr Y):=HBd0.out.trans (hb2.mono HBd0.out.size);have HKY:=hid (HKr.out.below HBY.out);have HBz:=hid (HBw.out.trans (HBY.out.mono HBw.out.size));have HBl:=hid (HBr.out.trans (HBY.out.mono HBr.out.size));have HH:=hid (hrProg_calls Y (HP1.out.1.below HBz.out) (HP1.out.2.below HBz.out) HRd.out.eff HRd.out.nod (by have:=HLn.out; omega) (by have:=HLn.out; omega));clear p0 p1 y0 y1 hX1 hY hb1 hb2 hsY k1 k2 k3 k4 o1 o2 hX hq1 hq2 hne hz1 hz2 hrd HBd0 hS0;have c0:=HKY.out.c0;have c1:=HKY.out.c1;have w0:=PY.out.c0;have w1:=PY.out.c1;have g0:=FY.out.c0
      by_cases hk0 : kk=0
      ·subst hk0;go_wp2_with fail
       refine HH.out.mono ?_;rintro e Z ⟨⟨b2,rfl,hb2⟩,hb8⟩;have e4 : b2=false:=by
        cases b2 with
        | false=>rfl
        | true=>
          have h:=(hb2.1 rfl).2;rw [HRd.out.ns_] at h;exact absurd h.symm HD.out
       have HBm:=hid (HBl.out.trans (hb8.mono HBl.out.size));subst e4;clear hb2 hb8 HH c0 c1 w0 w1 g0;go_wp2_with fail
       exact⟨⟨k+1,m+1,rfl,rfl,HM1,HBm⟩,hstep.out⟩
      ·go_wp2_with fail
       exact⟨⟨k+1,m+1,rfl,rfl,HM1,HBl⟩,hstep.out⟩
    ·have x1 : ((((SX[k]'hkn).toNat : Int) !=40)=true):=by
      rw [bne,show ((((SX[k]'hkn).toNat : Int)==40))=false by rw [← Bool.not_eq_true,h40]; exact hc];rfl
     clear h40 hc;go_wp2_with fail
     exact⟨⟨k+1,m,rfl,rfl,HM,HBr⟩,hstep.out⟩
   ·go_wp2_with fail
    go_ret;exact⟨rfl,HBe.out⟩
  ·go_wp2_with fail
   go_ret;exact⟨rfl,HBe.out⟩
end
end Go.Proofs.YtfbojelpdccjaaaGreatDoor
