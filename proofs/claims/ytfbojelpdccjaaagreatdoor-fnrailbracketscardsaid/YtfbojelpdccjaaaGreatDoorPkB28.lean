import Derived.Test.YtfbojelpdccjaaaGreatDoorPkB26
set_option maxHeartbeats 8000000
set_option maxRecDepth 100000
namespace Go.Proofs.YtfbojelpdccjaaaGreatDoor
open Go.RowKit Go.Deep
variable {s : Cn} {d : Dr} {ve : Value} {W : World}
section
open Go.RowKit Go.Deep
def HanC (d : Dr) (ve : Value) (es : List Ef) (D : Nat) : Prop:=
 ∀ (ty deep : Int) (v vm : Value) (ks : List Kn) (ms : List Bool) (X : World) (s : Cn),deep≤D→ -90≤deep→Gen d ve X s→Fit s 250→Env d ve es X v ks vm ms (D+1)→
  Calls Tryz.prog 109 #[.pointer (some ⟨d.G,0,none⟩),.int .i64 ty,v,vm,.int .i64 deep] X (NodesPost d ve X s 250)
theorem of_post {X : World} {s1 : Cn} {e : Ending} {Y : World} {c : Nat} (hg : Grew d W X) (e1 : s1.p=s.p) (e2 : s1.next=s.next) (e3 : s1.left=s.left - 1) (h : NodesPost d ve X s1 c e Y) (hc : c≤9∨(0 < s.left∧c≤300)) : NodesPost d ve W s 10 e Y:=by
 obtain⟨v,ns,s',t,h1,h2,h3,h4,h5,h6⟩:=h;refine⟨v,ns,s',t+1,h1,h2,by omega,h4,hg.trans h5,?_⟩;unfold Spent at h6 ⊢;omega
theorem of_fit {s1 : Cn} (hf : Fit s 10) (e1 : s1.p=s.p) (e2 : s1.next=s.next) (e3 : s1.left=s.left - 1) : Fit s1 9∧(0 < s.left→Fit s1 300):=by
 unfold Fit at hf ⊢;omega
theorem leaf5n {v : Value} {ks : List Kn} (ty : Int) (h1 : ty≠1) (h2 : ty≠2) (h3 : ty≠3) (h4 : ty≠4) (h : Gen d ve W s) (hf : Fit s 9) (hk : KnowsD d W v ks) (hl : ks.length≤998) :
 Calls Tryz.prog 106 #[.pointer (some ⟨d.G,0,none⟩),.int .i64 ty,v] W (NodesPost d ve W s 9):=by
 have HF:=hid hf;have A0:=hid (At.start h);have HKn:=hid hk;have HKl:=hid hl;have HK:=hid (A0.out.nodes0 (gknown_calls ty h (by unfold Fit at hf; omega) hk (by omega)));obtain⟨ad,cp,rfl⟩:=hk.is;clear hk hl h hf;have e1 : (ty==1)=false:=by simp [h1]
 have e2 : (ty==2)=false:=by simp [h2]
 have e3 : (ty==3)=false:=by simp [h3]
 have e4 : (ty==4)=false:=by simp [h4]
 clear h1 h2 h3 h4;go_enter Tryz.func106,Tryz.ntmps106
 go_wp2_with fail
 refine HK.out.mono ?_;rintro e X1 ⟨v1,n1,s1,t1,rfl,hn1,hl1,ha1,hg1⟩;have A1:=hid ha1;have N1:=hid (And.intro hn1 hl1);have G1:=hid hg1;obtain⟨ad1,cp1,rfl⟩:=hn1.is;obtain⟨l1,hl1e⟩ : ∃ l,n1.length=l:=⟨_,rfl⟩
 have HL1:=hid hl1e;rw [hl1e] at N1 ⊢;clear hn1 hl1 ha1 hg1 HK hl1e A0;by_cases hz : l1=0
 ·subst hz;go_wp2_with fail
  refine (A1.out.name HF.out (by omega)).mono ?_;rintro e X2 ⟨x2,s2,rfl,hb2,ha,hg⟩;have A2:=hid ha;have G2:=hid hg;clear ha hg;have B2:=hid hb2;clear hb2;go_wp2_with fail
  refine (A2.out.add x2 1 0 (HKn.out.grew (G1.out.trans G2.out)) B2.out (by have:=HKl.out; omega)).mono ?_;rintro e X3 ⟨u3,ks3,rfl,hk3,hkl3,ha,hg⟩;have A3:=hid ha;have G3:=hid hg;clear ha hg;have K3:=hid (And.intro hk3 hkl3);clear hk3 hkl3;go_wp2_with fail
  refine (A3.out.nodes (leaf1 1 rfl A3.out.1 (A3.out.fit HF.out 4 (by omega)) K3.out.1 (by have:=K3.out.2; have:=HKl.out; omega))).mono ?_;rintro e X4 ⟨v4,n4,s4,t4,rfl,hn4,hl4,ha,hg⟩;have A4:=hid ha;have G4:=hid hg;clear ha hg;have N4:=hid (And.intro hn4 hl4);obtain⟨ad4,cp4,rfl⟩:=hn4.is;clear hn4 hl4;go_wp2_with fail
  refine (A4.out.put1 6 0 0 x2 ByteArray.empty ByteArray.empty N4.out.1 ⟨B2.out,z11,z11⟩ (by have:=A4.out.bound HF.out (by omega) (by decide); have:=N4.out.2; omega)).mono ?_;rintro e X5 ⟨v5,n5,rfl,hn5,hl5,ha,hg⟩;have A5:=hid ha;have G5:=hid hg;clear ha hg;have N5:=hid (And.intro hn5 hl5);obtain⟨ad5,cp5,rfl⟩:=hn5.is;clear hn5 hl5;go_wp2_with fail
  go_ret;exact A5.out.done 1 N5.out.1 (by have:=N5.out.2; have:=N4.out.2; omega) (by omega)
 ·have hz' : (0 : Int) < (l1 : Int):=by omega
  have g0:=A1.out.1.c0;go_wp2_with fail
  refine (A1.out.pick HF.out (by omega) 3 (by decide)).mono ?_;rintro e X2 ⟨m2,s2,rfl,hm2,hM2,ha,hg⟩;have A2:=hid ha;have G2:=hid hg;clear ha hg;clear g0;by_cases hm : 0 < m2
  ·go_wp2_with fail
   go_ret;exact A2.out.done 0 (N1.out.1.grew G2.out) (by have:=N1.out.2; have:=HL1.out; omega) (by omega)
  ·have hm0 : m2=0:=by omega
   subst hm0;go_wp2_with fail
   refine (A2.out.name HF.out (by omega)).mono ?_;rintro e X3 ⟨x3,s3,rfl,hb3,ha,hg⟩;have A3:=hid ha;have G3:=hid hg;clear ha hg;have B3:=hid hb3;clear hb3;go_wp2_with fail
   refine (A3.out.add x3 1 0 (HKn.out.grew (G1.out.trans (G2.out.trans G3.out))) B3.out (by have:=HKl.out; omega)).mono ?_;rintro e X4 ⟨u4,ks4,rfl,hk4,hkl4,ha,hg⟩;have A4:=hid ha;have G4:=hid hg;clear ha hg;have K4:=hid (And.intro hk4 hkl4);clear hk4 hkl4;go_wp2_with fail
   refine (A4.out.nodes (leaf1 1 rfl A4.out.1 (A4.out.fit HF.out 4 (by omega)) K4.out.1 (by have:=K4.out.2; have:=HKl.out; omega))).mono ?_;rintro e X5 ⟨v5,n5,s5,t5,rfl,hn5,hl5,ha,hg⟩;have A5:=hid ha;have G5:=hid hg;clear ha hg;have N5:=hid (And.intro hn5 hl5);obtain⟨ad5,cp5,rfl⟩:=hn5.is;clear hn5 hl5;go_wp2_with fail
   refine (A5.out.put1 6 0 0 x3 ByteArray.empty ByteArray.empty N5.out.1 ⟨B3.out,z11,z11⟩ (by have:=A5.out.bound HF.out (by omega) (by decide); have:=N5.out.2; omega)).mono ?_;rintro e X6 ⟨v6,n6,rfl,hn6,hl6,ha,hg⟩;have A6:=hid ha;have G6:=hid hg;clear ha hg;have N6:=hid (And.intro hn6 hl6);obtain⟨ad6,cp6,rfl⟩:=hn6.is;clear hn6 hl6;go_wp2_with fail
   go_ret;exact A6.out.done 1 N6.out.1 (by have:=N6.out.2; have:=N5.out.2; omega) (by omega)
theorem leaf_nine {v : Value} {ks : List Kn} (ty : Int) (h : Gen d ve W s) (hf : Fit s 9) (hk : KnowsD d W v ks) (hl : ks.length≤998) :
 Calls Tryz.prog 106 #[.pointer (some ⟨d.G,0,none⟩),.int .i64 ty,v] W (NodesPost d ve W s 9):=by
 by_cases h1 : ty=1
 ·exact (leaf1 ty h1 h (hf.mono (by omega)) hk (by omega)).mono fun e W' h=>h.mono (by omega)
 by_cases h2 : ty=2
 ·exact (leaf2 ty h2 h (hf.mono (by omega)) hk (by omega)).mono fun e W' h=>h.mono (by omega)
 by_cases h3 : ty=3
 ·exact (leaf3 ty h3 h (hf.mono (by omega)) hk (by omega)).mono fun e W' h=>h.mono (by omega)
 by_cases h4 : ty=4
 ·exact (leaf4 ty h4 h (hf.mono (by omega)) hk (by omega)).mono fun e W' h=>h.mono (by omega)
 exact leaf5n ty h1 h2 h3 h4 h hf hk hl
theorem of_step {es : List Ef} {D : Nat} (hD : D≤90) (hO : OfC d ve es D) (hH : HanC d ve es D) : OfC d ve es (D+1):=by
 intro deep ty v vm ks ms W s h1 h2 hf h hE;have HO:=hid hO;have HH:=hid hH;have hl:=h.setLeft (s.left - 1);have f2:=h.f2;have c2:=h.c2;have HF0:=hid hf;have HW : Hid (wrap64 (s.left - 1)=s.left - 1):=by show _=_; unfold Fit at hf; unfold wrap64; omega
 have HD0:=hid (And.intro h1 (And.intro h2 hD));obtain⟨ad,cp,rfl⟩:=hE.know.is;obtain⟨adm,cpm,rfl⟩:=hE.may.is;obtain⟨X,hX⟩ : ∃ X,W.setCell ⟨d.G,2,none⟩ (.int .i64 (s.left - 1))=X:=⟨_,rfl⟩
 rw [hX] at hl;have HX:=hid hX;obtain⟨s1,hs1⟩ : ∃ s1 : Cn,{ s with left:=s.left - 1 }= s1:=⟨_,rfl⟩
 rw [hs1] at hl;have e1 : s1.p=s.p:=by rw [← hs1]
 have e2 : s1.next=s.next:=by rw [← hs1]
 have e3 : s1.left=s.left - 1:=by rw [← hs1]
 have HFF:=hid (of_fit hf e1 e2 e3);have HP:=hid (fun (c : Nat) (e : Ending) (Y : World) (h : NodesPost d ve X s1 c e Y) (hc : c≤9∨(0 < s.left∧c≤300))=>of_post hl.2 e1 e2 e3 h hc);have A0:=hid (At.start hl.1);have HE:=hid (hE.grew hl.2);have g2:=hl.1.c2;have g0:=hl.1.c0;rw [e3] at g2;obtain⟨L,hL⟩ : ∃ L : Int,s.left - 1=L:=⟨_,rfl⟩
 have HLe:=hid hL;rw [hL] at g2;clear hO hH hl hf h hE hX hs1 e1 e2 e3 hL;go_enter Tryz.func70,Tryz.ntmps70
 go_upto_region 2 with fail
 try rw [HW.out]
 rw [HX.out];clear c2 f2 HW HX;have HLF:=hid (leaf_nine ty A0.out.1 HFF.out.1 HE.out.know (by have:=HE.out.room; omega));by_cases hd : deep≤1
 ·go_wp2_with fail
  refine HLF.out.mono ?_;rintro e Xl ⟨vl,nl,sl,tl,rfl,hnl,hll,hgl,hgrl,hspl⟩;have NL:=hid (And.intro hnl (And.intro hll (And.intro hgl (And.intro hgrl hspl))));clear hnl hll hgl hgrl hspl;go_wp2_with fail
  go_ret;exact HP.out 9 _ _ ⟨vl,nl,sl,tl,rfl,NL.out.1,NL.out.2.1,NL.out.2.2.1,NL.out.2.2.2.1,NL.out.2.2.2.2⟩ (Or.inl (by omega))
 ·by_cases hl0 : L≤0
  ·go_wp2_with fail
   refine HLF.out.mono ?_;rintro e Xl ⟨vl,nl,sl,tl,rfl,hnl,hll,hgl,hgrl,hspl⟩;have NL:=hid (And.intro hnl (And.intro hll (And.intro hgl (And.intro hgrl hspl))));clear hnl hll hgl hgrl hspl;go_wp2_with fail
   go_ret;exact HP.out 9 _ _ ⟨vl,nl,sl,tl,rfl,NL.out.1,NL.out.2.1,NL.out.2.2.1,NL.out.2.2.2.1,NL.out.2.2.2.2⟩ (Or.inl (by omega))
  ·have HPos : Hid (0 < s.left):=by show _ < _; have:=HLe.out; omega
   have HF:=hid (HFF.out.2 HPos.out);have HD:=hid (And.intro (show deep - 1≤(D : Int) by have:=HD0.out.1; omega) (And.intro (show -90≤deep - 1 by omega) (show D≤100 by omega)));have hdu : deep≤1000:=by have:=HD0.out; omega
   go_wp2_with fail
   refine (A0.out.pick HF.out (by omega) 9 (by decide)).mono ?_;rintro e X1 ⟨m1,s51,rfl,hm1,hM1,ha,hg⟩;have A1:=hid ha;have G1:=hid hg;clear ha hg;by_cases h9 : m1=0
   ·subst h9;have HL3:=hid (A1.out.nodes (leaf_calls ty A1.out.1 (A1.out.fit HF.out 10 (by omega)) (HE.out.grew G1.out).know (by have:=HE.out.room; omega)));go_wp2_with fail
    refine HL3.out.mono ?_;rintro e X2 ⟨v2,n2,s2,t2,rfl,hn2,hl2,ha,hg⟩;have A2:=hid ha;have G2:=hid hg;clear ha hg;have N2:=hid (And.intro hn2 hl2);clear hn2 hl2;go_wp2_with fail
    go_ret;exact HP.out 300 _ _ (A2.out.done 0 N2.out.1 (by have:=N2.out.2; omega) (by omega)) (Or.inr ⟨HPos.out,by omega⟩)
   ·have z9 : (m1==0)=false:=by simp [h9]
    have g0:=A1.out.1.c0;go_wp2_with fail
    refine (A1.out.pick HF.out (by omega) 11 (by decide)).mono ?_;rintro e X2 ⟨m2,s2,rfl,hm2,hM2,ha,hg⟩;have A2:=hid ha;have G2:=hid hg;clear ha hg;clear g0;have hcs : m2=0∨m2=1∨m2=2∨m2=3∨m2=4∨m2=5∨m2=6∨m2=7∨m2=8∨m2=9∨m2=10:=by omega
    rcases hcs with rfl | rfl | rfl | rfl | rfl | rfl | rfl | rfl | rfl | rfl | rfl
    ·go_wp2_with fail
     refine (A2.out.nodes (HO.out (deep - 1) 2 _ _ _ _ _ _ (by have:=HD.out; omega) (by have:=HD.out; omega) (A2.out.fit HF.out 10 (by omega)) A2.out.1 (HE.out.grew (G1.out.trans G2.out)).down)).mono ?_;rintro e X3 ⟨v3,n3,s3,t3,rfl,hn3,hl3,ha,hg⟩;have A3:=hid ha;have G3:=hid hg;clear ha hg;have N3:=hid (And.intro hn3 hl3);obtain⟨ad3,cp3,rfl⟩:=hn3.is;clear hn3 hl3;go_wp2_with fail
     refine (A3.out.nodes (HO.out (deep - 1) ty _ _ _ _ _ _ (by have:=HD.out; omega) (by have:=HD.out; omega) (A3.out.fit HF.out 10 (by omega)) A3.out.1 (HE.out.grew (G1.out.trans (G2.out.trans G3.out))).down)).mono ?_;rintro e X4 ⟨v4,n4,s4,t4,rfl,hn4,hl4,ha,hg⟩;have A4:=hid ha;have G4:=hid hg;clear ha hg;have N4:=hid (And.intro hn4 hl4);obtain⟨ad4,cp4,rfl⟩:=hn4.is;clear hn4 hl4;go_wp2_with fail
     refine (A4.out.nodes (HO.out (deep - 1) ty _ _ _ _ _ _ (by have:=HD.out; omega) (by have:=HD.out; omega) (A4.out.fit HF.out 10 (by omega)) A4.out.1 (HE.out.grew (G1.out.trans (G2.out.trans (G3.out.trans G4.out)))).down)).mono ?_;rintro e X5 ⟨v5,n5,s5,t5,rfl,hn5,hl5,ha,hg⟩;have A5:=hid ha;have G5:=hid hg;clear ha hg;have N5:=hid (And.intro hn5 hl5);obtain⟨ad5,cp5,rfl⟩:=hn5.is;clear hn5 hl5;go_wp2_with fail
     refine (A5.out.put3 10 0 0 ByteArray.empty ByteArray.empty ByteArray.empty (N3.out.1.grew (G4.out.trans G5.out)) (N4.out.1.grew G5.out) N5.out.1 ⟨z11,z11,z11⟩ (by have:=A5.out.bound HF.out (by omega) (by decide); have:=N3.out.2; have:=N4.out.2; have:=N5.out.2; omega)).mono ?_;rintro e X6 ⟨v6,n6,rfl,hn6,hl6,ha,hg⟩;have A6:=hid ha;have G6:=hid hg;clear ha hg;have N6:=hid (And.intro hn6 hl6);obtain⟨ad6,cp6,rfl⟩:=hn6.is;clear hn6 hl6;go_wp2_with fail
     go_ret;exact HP.out 300 _ _ (A6.out.done 1 N6.out.1 (by have:=N6.out.2; have:=N3.out.2; have:=N4.out.2; have:=N5.out.2; omega) (by omega)) (Or.inr ⟨HPos.out,by omega⟩)
    ·go_wp2_with fail
     refine (A2.out.name HF.out (by omega)).mono ?_;rintro e X3 ⟨x3,s3,rfl,hb3,ha,hg⟩;have A3:=hid ha;have G3:=hid hg;clear ha hg;have B3:=hid hb3;clear hb3;have g0:=A3.out.1.c0;go_wp2_with fail
     refine (A3.out.pick HF.out (by omega) 5 (by decide)).mono ?_;rintro e X4 ⟨m4,s4,rfl,hm4,hM4,ha,hg⟩;have A4:=hid ha;have G4:=hid hg;clear ha hg;clear g0;go_wp2_with fail
     refine (A4.out.nodes (HO.out (deep - 1) (1+m4) _ _ _ _ _ _ (by have:=HD.out; omega) (by have:=HD.out; omega) (A4.out.fit HF.out 10 (by omega)) A4.out.1 (HE.out.grew (G1.out.trans (G2.out.trans (G3.out.trans G4.out)))).down)).mono ?_;rintro e X5 ⟨v5,n5,s5,t5,rfl,hn5,hl5,ha,hg⟩;have A5:=hid ha;have G5:=hid hg;clear ha hg;have N5:=hid (And.intro hn5 hl5);obtain⟨ad5,cp5,rfl⟩:=hn5.is;clear hn5 hl5;go_wp2_with fail
     refine (A5.out.add x3 (1+m4) 0 (HE.out.grew (G1.out.trans (G2.out.trans (G3.out.trans (G4.out.trans G5.out))))).know B3.out (by have:=HE.out.room; omega)).mono ?_;rintro e X6 ⟨u6,ks6,rfl,hk6,hkl6,ha,hg⟩;have A6:=hid ha;have G6:=hid hg;clear ha hg;have K6:=hid (And.intro hk6 hkl6);obtain⟨ad6,cp6,rfl⟩:=hk6.is;clear hk6 hkl6;go_wp2_with fail
     refine (A6.out.nodes (HO.out (deep - 1) ty _ _ _ _ _ _ (by have:=HD.out; omega) (by have:=HD.out; omega) (A6.out.fit HF.out 10 (by omega)) A6.out.1 ((HE.out.grew (G1.out.trans (G2.out.trans (G3.out.trans (G4.out.trans (G5.out.trans G6.out)))))).with K6.out.1 (by have:=K6.out.2; omega)))).mono ?_;rintro e X7 ⟨v7,n7,s7,t7,rfl,hn7,hl7,ha,hg⟩;have A7:=hid ha;have G7:=hid hg;clear ha hg;have N7:=hid (And.intro hn7 hl7);obtain⟨ad7,cp7,rfl⟩:=hn7.is;clear hn7 hl7;go_wp2_with fail
     refine (A7.out.put2 8 0 0 x3 ByteArray.empty ByteArray.empty (N5.out.1.grew (G6.out.trans G7.out)) N7.out.1 ⟨B3.out,z11,z11⟩ (by have:=A7.out.bound HF.out (by omega) (by decide); have:=N5.out.2; have:=N7.out.2; omega)).mono ?_;rintro e X8 ⟨v8,n8,rfl,hn8,hl8,ha,hg⟩;have A8:=hid ha;have G8:=hid hg;clear ha hg;have N8:=hid (And.intro hn8 hl8);obtain⟨ad8,cp8,rfl⟩:=hn8.is;clear hn8 hl8;go_wp2_with fail
     go_ret;exact HP.out 300 _ _ (A8.out.done 1 N8.out.1 (by have:=N8.out.2; have:=N5.out.2; have:=N7.out.2; omega) (by omega)) (Or.inr ⟨HPos.out,by omega⟩)
    ·go_wp2_with fail
     refine (A2.out.name HF.out (by omega)).mono ?_;rintro e X3 ⟨x3,s3,rfl,hb3,ha,hg⟩;have A3:=hid ha;have G3:=hid hg;clear ha hg;have B3:=hid hb3;clear hb3;go_wp2_with fail
     refine (A3.out.name HF.out (by omega)).mono ?_;rintro e X4 ⟨x4,s4,rfl,hb4,ha,hg⟩;have A4:=hid ha;have G4:=hid hg;clear ha hg;have B4:=hid hb4;clear hb4;go_wp2_with fail
     refine (A4.out.nodes (HO.out (deep - 1) 4 _ _ _ _ _ _ (by have:=HD.out; omega) (by have:=HD.out; omega) (A4.out.fit HF.out 10 (by omega)) A4.out.1 (HE.out.grew (G1.out.trans (G2.out.trans (G3.out.trans G4.out)))).down)).mono ?_;rintro e X5 ⟨v5,n5,s5,t5,rfl,hn5,hl5,ha,hg⟩;have A5:=hid ha;have G5:=hid hg;clear ha hg;have N5:=hid (And.intro hn5 hl5);obtain⟨ad5,cp5,rfl⟩:=hn5.is;clear hn5 hl5;go_wp2_with fail
     refine (A5.out.nodes (HO.out (deep - 1) ty _ _ _ _ _ _ (by have:=HD.out; omega) (by have:=HD.out; omega) (A5.out.fit HF.out 10 (by omega)) A5.out.1 (HE.out.grew (G1.out.trans (G2.out.trans (G3.out.trans (G4.out.trans G5.out))))).down)).mono ?_;rintro e X6 ⟨v6,n6,s6,t6,rfl,hn6,hl6,ha,hg⟩;have A6:=hid ha;have G6:=hid hg;clear ha hg;have N6:=hid (And.intro hn6 hl6);obtain⟨ad6,cp6,rfl⟩:=hn6.is;clear hn6 hl6;go_wp2_with fail
     refine (A6.out.add x3 1 0 (HE.out.grew (G1.out.trans (G2.out.trans (G3.out.trans (G4.out.trans (G5.out.trans G6.out)))))).know B3.out (by have:=HE.out.room; omega)).mono ?_;rintro e X7 ⟨u7,ks7,rfl,hk7,hkl7,ha,hg⟩;have A7:=hid ha;have G7:=hid hg;clear ha hg;have K7:=hid (And.intro hk7 hkl7);obtain⟨ad7,cp7,rfl⟩:=hk7.is;clear hk7 hkl7;go_wp2_with fail
     refine (A7.out.add x4 4 0 K7.out.1 B4.out (by have:=HE.out.room; have:=K7.out.2; omega)).mono ?_;rintro e X8 ⟨u8,ks8,rfl,hk8,hkl8,ha,hg⟩;have A8:=hid ha;have G8:=hid hg;clear ha hg;have K8:=hid (And.intro hk8 hkl8);obtain⟨ad8,cp8,rfl⟩:=hk8.is;clear hk8 hkl8;go_wp2_with fail
     refine (A8.out.nodes (HO.out (deep - 1) ty _ _ _ _ _ _ (by have:=HD.out; omega) (by have:=HD.out; omega) (A8.out.fit HF.out 10 (by omega)) A8.out.1 ((HE.out.grew (G1.out.trans (G2.out.trans (G3.out.trans (G4.out.trans (G5.out.trans (G6.out.trans (G7.out.trans G8.out)))))))).with K8.out.1 (by have:=K7.out.2; have:=K8.out.2; omega)))).mono ?_;rintro e X9 ⟨v9,n9,s9,t9,rfl,hn9,hl9,ha,hg⟩;have A9:=hid ha;have G9:=hid hg;clear ha hg;have N9:=hid (And.intro hn9 hl9);obtain⟨ad9,cp9,rfl⟩:=hn9.is;clear hn9 hl9;go_wp2_with fail
     refine (A9.out.put3 20 0 0 x3 x4 ByteArray.empty (N5.out.1.grew (G6.out.trans (G7.out.trans (G8.out.trans G9.out)))) (N6.out.1.grew (G7.out.trans (G8.out.trans G9.out))) N9.out.1 ⟨B3.out,B4.out,z11⟩ (by have:=A9.out.bound HF.out (by omega) (by decide); have:=N5.out.2; have:=N6.out.2; have:=N9.out.2; omega)).mono ?_;rintro e X10 ⟨v10,n10,rfl,hn10,hl10,ha,hg⟩;have A10:=hid ha;have G10:=hid hg;clear ha hg;have N10:=hid (And.intro hn10 hl10);obtain⟨ad10,cp10,rfl⟩:=hn10.is;clear hn10 hl10;go_wp2_with fail
     go_ret;exact HP.out 300 _ _ (A10.out.done 1 N10.out.1 (by have:=N10.out.2; have:=N5.out.2; have:=N6.out.2; have:=N9.out.2; omega) (by omega)) (Or.inr ⟨HPos.out,by omega⟩)
    ·go_wp2_with fail
     refine (A2.out.nodes (HH.out ty (deep - 1) _ _ _ _ _ _ (by have:=HD.out; omega) (by have:=HD.out; omega) A2.out.1 (A2.out.fit HF.out 250 (by omega)) (HE.out.grew (G1.out.trans G2.out)))).mono ?_;rintro e X3 ⟨v3,n3,s3,t3,rfl,hn3,hl3,ha,hg⟩;have A3:=hid ha;have G3:=hid hg;clear ha hg;have N3:=hid (And.intro hn3 hl3);obtain⟨ad3,cp3,rfl⟩:=hn3.is;clear hn3 hl3;go_wp2_with fail
     go_ret;exact HP.out 300 _ _ (A3.out.done 0 N3.out.1 (by have:=N3.out.2; omega) (by omega)) (Or.inr ⟨HPos.out,by omega⟩)
    ·go_wp2_with fail
     refine (A2.out.nodes (HH.out ty (deep - 1) _ _ _ _ _ _ (by have:=HD.out; omega) (by have:=HD.out; omega) A2.out.1 (A2.out.fit HF.out 250 (by omega)) (HE.out.grew (G1.out.trans G2.out)))).mono ?_;rintro e X3 ⟨v3,n3,s3,t3,rfl,hn3,hl3,ha,hg⟩;have A3:=hid ha;have G3:=hid hg;clear ha hg;have N3:=hid (And.intro hn3 hl3);obtain⟨ad3,cp3,rfl⟩:=hn3.is;clear hn3 hl3;go_wp2_with fail
     go_ret;exact HP.out 300 _ _ (A3.out.done 0 N3.out.1 (by have:=N3.out.2; omega) (by omega)) (Or.inr ⟨HPos.out,by omega⟩)
    ·go_wp2_with fail
     refine (A2.out.nodes0 (cont_calls ty (deep - 1) HO.out (by have:=HD.out; omega) (by have:=HD.out; omega) (by have:=HD.out; omega) A2.out.1 (A2.out.fit HF.out 30 (by omega)) (HE.out.grew (G1.out.trans G2.out)))).mono ?_;rintro e X3 ⟨v3,n3,s3,t3,rfl,hn3,hl3,ha,hg⟩;have A3:=hid ha;have G3:=hid hg;clear ha hg;have N3:=hid (And.intro hn3 hl3);obtain⟨ad3,cp3,rfl⟩:=hn3.is;clear hn3 hl3;by_cases hz : n3.length=0
     ·rw [hz];go_wp2_with fail
      refine (A3.out.nodes (gown_calls ty (deep - 1) HO.out (by have:=HD.out; omega) (by have:=HD.out; omega) (by have:=HD.out; omega) A3.out.1 (A3.out.fit HF.out 100 (by omega)) (HE.out.grew (G1.out.trans (G2.out.trans G3.out))))).mono ?_;rintro e X4 ⟨v4,n4,s4,t4,rfl,hn4,hl4,ha,hg⟩;have A4:=hid ha;have G4:=hid hg;clear ha hg;have N4:=hid (And.intro hn4 hl4);obtain⟨ad4,cp4,rfl⟩:=hn4.is;clear hn4 hl4;go_wp2_with fail
      go_ret;exact HP.out 300 _ _ (A4.out.done 0 N4.out.1 (by have:=N4.out.2; omega) (by omega)) (Or.inr ⟨HPos.out,by omega⟩)
     ·have hz' : (0 : Int) < (n3.length : Int):=by omega
      go_wp2_with fail
      go_ret;exact HP.out 300 _ _ (A3.out.done 0 N3.out.1 (by have:=N3.out.2; omega) (by omega)) (Or.inr ⟨HPos.out,by omega⟩)
    ·go_wp2_with fail
     refine (A2.out.nodes0 (perform_calls ty (deep - 1) HO.out (by have:=HD.out; omega) (by have:=HD.out; omega) (by have:=HD.out; omega) A2.out.1 (A2.out.fit HF.out 30 (by omega)) (HE.out.grew (G1.out.trans G2.out)))).mono ?_;rintro e X3 ⟨v3,n3,s3,t3,rfl,hn3,hl3,ha,hg⟩;have A3:=hid ha;have G3:=hid hg;clear ha hg;have N3:=hid (And.intro hn3 hl3);obtain⟨ad3,cp3,rfl⟩:=hn3.is;clear hn3 hl3;by_cases hz : n3.length=0
     ·rw [hz];go_wp2_with fail
      refine (A3.out.nodes (gown_calls ty (deep - 1) HO.out (by have:=HD.out; omega) (by have:=HD.out; omega) (by have:=HD.out; omega) A3.out.1 (A3.out.fit HF.out 100 (by omega)) (HE.out.grew (G1.out.trans (G2.out.trans G3.out))))).mono ?_;rintro e X4 ⟨v4,n4,s4,t4,rfl,hn4,hl4,ha,hg⟩;have A4:=hid ha;have G4:=hid hg;clear ha hg;have N4:=hid (And.intro hn4 hl4);obtain⟨ad4,cp4,rfl⟩:=hn4.is;clear hn4 hl4;go_wp2_with fail
      go_ret;exact HP.out 300 _ _ (A4.out.done 0 N4.out.1 (by have:=N4.out.2; omega) (by omega)) (Or.inr ⟨HPos.out,by omega⟩)
     ·have hz' : (0 : Int) < (n3.length : Int):=by omega
      go_wp2_with fail
      go_ret;exact HP.out 300 _ _ (A3.out.done 0 N3.out.1 (by have:=N3.out.2; omega) (by omega)) (Or.inr ⟨HPos.out,by omega⟩)
    ·have g0:=A2.out.1.c0;go_wp2_with fail
     refine (A2.out.pick HF.out (by omega) 2 (by decide)).mono ?_;rintro e X3 ⟨m3,s3,rfl,hm3,hM3,ha,hg⟩;have A3:=hid ha;have G3:=hid hg;clear ha hg;clear g0;by_cases h7 : m3=0
     ·subst h7;go_upto_region 29 with fail
      refine z27 (S:=fun w'=> w'.cell? ⟨d.G,0,none⟩=some (.pointer (some ⟨d.B,0,none⟩))) (by kernel_rfl) rfl rfl ?_;have A4:=hid A3.out.drew;have G4:=hid (Grew.refl d X3).drew;generalize X3.drew=X4 at*;refine pick_o 0 (.agg #[.int .i64 17,.int .i64 0,.string ⟨#[]⟩,.string ⟨#[]⟩,.string ⟨#[]⟩,.int .i64 0]) (A4.out.1.c0) ?_;refine pick_o 1 (.agg #[.int .i64 16,.int .i64 0,.string ⟨#[]⟩,.string ⟨#[]⟩,.string ⟨#[]⟩,.int .i64 0]) (A4.out.1.c0) ?_;refine pick_o 2 (.pointer (some ⟨d.G,0,none⟩)) (A4.out.1.c0) ?_;refine pick_o 3 (.int .i64 ty) (A4.out.1.c0) ?_
      refine pick_o 4 (.slice ad ks.length cp) (A4.out.1.c0) ?_;refine pick_o 5 (.slice adm ms.length cpm) (A4.out.1.c0) ?_;refine pick_o 6 (.int .i64 (deep - 1)) (A4.out.1.c0) ?_;refine pick_o 8 (.pointer (some ⟨d.G,0,none⟩)) (A4.out.1.c0) ?_;refine pick_o 9 (.pointer (some ⟨d.G,0,none⟩)) (A4.out.1.c0) ?_;refine pick_o 10 (.pointer (some ⟨d.G,0,none⟩)) (A4.out.1.c0) ?_;refine pick_o 11 (.pointer (some ⟨d.G,0,none⟩)) (A4.out.1.c0) ?_;refine pick_o (hy:=fun w' hw=>by simp [go_sem,hw]) 12 (.pointer (some ⟨d.B,0,none⟩)) (A4.out.1.c0) ?_;refine pick_o 15 (.slice ad ks.length cp) (A4.out.1.c0) ?_
      refine z16 (i:=7) (f:=70) (args:= #[.pointer (some ⟨d.G,0,none⟩),.int .i64 ty,.slice ad ks.length cp,.slice adm ms.length cpm,.int .i64 (deep - 1)]) rfl (by kernel_rfl) rfl rfl (by simp [go_sem]) ?_;refine (A4.out.nodes (HO.out (deep - 1) ty _ _ _ _ _ _ (by have:=HD.out; omega) (by have:=HD.out; omega) (A4.out.fit HF.out 10 (by omega)) A4.out.1 (HE.out.grew (G1.out.trans (G2.out.trans (G3.out.trans G4.out)))).down)).mono ?_;rintro e X5 ⟨v5,n5,s5,t5,rfl,hn5,hl5,ha,hg⟩;have A5:=hid ha;have G5:=hid hg;clear ha hg;have N5:=hid (And.intro hn5 hl5);obtain⟨ad5,cp5,rfl⟩:=hn5.is;clear hn5 hl5
      refine⟨_,rfl,(A5.out.1.c0),?_⟩;refine z14 (by simp [go_sem]; exact rfl) ?_;refine z16 (i:=13) (f:=37) (args:= #[.pointer (some ⟨d.B,0,none⟩),.int .i64 4]) rfl (by kernel_rfl) rfl rfl (by simp [go_sem]) ?_;refine (A5.out.pick HF.out (by omega) 4 (by decide)).mono ?_;rintro e X6 ⟨m6,s6,rfl,hm6,hM6,ha,hg⟩;have A6:=hid ha;have G6:=hid hg;clear ha hg;refine⟨_,rfl,(A6.out.1.c0),?_⟩;refine z14 (by simp [go_sem]; exact rfl) ?_;have hwr : IntKind.i64.wrap (1+m6)=1+m6:=by rw [IntKind.wrap_i64]; omega
      refine pick_o (hy:=fun w' hw=>by simp [go_sem,hwr]) 14 (.int .i64 (1+m6)) (A6.out.1.c0) ?_;clear hwr;refine z16 (i:=16) (f:=106) (args:= #[.pointer (some ⟨d.G,0,none⟩),.int .i64 (1+m6),.slice ad ks.length cp]) rfl (by kernel_rfl) rfl rfl (by simp [go_sem]) ?_;refine (A6.out.nodes (leaf_calls (1+m6) A6.out.1 (A6.out.fit HF.out 10 (by omega)) (HE.out.grew (G1.out.trans (G2.out.trans (G3.out.trans (G4.out.trans (G5.out.trans G6.out)))))).know (by have:=HE.out.room; omega))).mono ?_;rintro e X7 ⟨v7,n7,s7,t7,rfl,hn7,hl7,ha,hg⟩;have A7:=hid ha;have G7:=hid hg;clear ha hg
      have N7:=hid (And.intro hn7 hl7);obtain⟨ad7,cp7,rfl⟩:=hn7.is;clear hn7 hl7;refine⟨_,rfl,(A7.out.1.c0),?_⟩;refine z14 (by simp [go_sem]; exact rfl) ?_;have KV : Hid (KidsV d (X7.alloc (.cells #[.slice ad5 n5.length cp5,.slice ad7 n7.length cp7] 24)) (.slice (some ⟨X7.heap.size,0,none⟩) 2 2) [(.slice ad5 n5.length cp5,n5),(.slice ad7 n7.length cp7,n7)]):=(z52 [(.slice ad5 n5.length cp5,n5),(.slice ad7 n7.length cp7,n7)] _ rfl A7.out.1.ltB A7.out.1.ltG (fun x hx=>by simp at hx; rcases hx with rfl | rfl; exact (N5.out.1.grew (G6.out.trans G7.out)); exact N7.out.1))
      have A8:=hid (A7.out.alloc (.cells #[.slice ad5 n5.length cp5,.slice ad7 n7.length cp7] 24));have G8:=hid ((Grew.refl d X7).alloc (.cells #[.slice ad5 n5.length cp5,.slice ad7 n7.length cp7] 24));refine z25 (i:=17) (v:= .slice (some ⟨X7.heap.size,0,none⟩) 2 2) (w1:=X7.alloc (.cells #[.slice ad5 n5.length cp5,.slice ad7 n7.length cp7] 24)) rfl (by kernel_rfl) rfl rfl (by simp [go_sem]) (A8.out.1.c0) (by simp [go_sem]; exact rfl) ?_;generalize X7.alloc (.cells #[.slice ad5 n5.length cp5,.slice ad7 n7.length cp7] 24)=X8 at*
      refine z16 (i:=18) (f:=67) (args:= #[.agg #[.int .i64 16,.int .i64 0,.string ⟨#[]⟩,.string ⟨#[]⟩,.string ⟨#[]⟩,.int .i64 0],.slice (some ⟨X7.heap.size,0,none⟩) 2 2]) rfl (by kernel_rfl) rfl rfl (by simp [go_sem]) ?_;refine (A8.out.put_kids 16 0 0 ⟨#[]⟩ ⟨#[]⟩ ⟨#[]⟩ KV.out ⟨z11,z11,z11⟩ (by simp) (by have:=A8.out.bound HF.out (by omega) (by decide); have:=N5.out.2; have:=N7.out.2; simp [flatL]; omega)).mono ?_;rintro e X9 ⟨v9,n9,rfl,hn9,hl9,ha,hg⟩;have A9:=hid ha;have G9:=hid hg;clear ha hg;have N9:=hid (And.intro hn9 hl9);obtain⟨ad9,cp9,rfl⟩:=hn9.is;clear hn9 hl9;refine⟨_,rfl,(A9.out.1.c0),?_⟩
      refine z14 (by simp [go_sem]; exact rfl) ?_;have KW : Hid (KidsV d (X9.alloc (.cells #[.slice ad9 n9.length cp9] 24)) (.slice (some ⟨X9.heap.size,0,none⟩) 1 1) [(.slice ad9 n9.length cp9,n9)]):=(z52 [(.slice ad9 n9.length cp9,n9)] _ rfl A9.out.1.ltB A9.out.1.ltG (fun x hx=>by simp at hx; rcases hx with rfl; exact N9.out.1))
      have A10:=hid (A9.out.alloc (.cells #[.slice ad9 n9.length cp9] 24));have G10:=hid ((Grew.refl d X9).alloc (.cells #[.slice ad9 n9.length cp9] 24));refine z25 (i:=19) (v:= .slice (some ⟨X9.heap.size,0,none⟩) 1 1) (w1:=X9.alloc (.cells #[.slice ad9 n9.length cp9] 24)) rfl (by kernel_rfl) rfl rfl (by simp [go_sem]) (A10.out.1.c0) (by simp [go_sem]; exact rfl) ?_;generalize X9.alloc (.cells #[.slice ad9 n9.length cp9] 24)=X10 at*
      refine z16 (i:=20) (f:=67) (args:= #[.agg #[.int .i64 17,.int .i64 0,.string ⟨#[]⟩,.string ⟨#[]⟩,.string ⟨#[]⟩,.int .i64 0],.slice (some ⟨X9.heap.size,0,none⟩) 1 1]) rfl (by kernel_rfl) rfl rfl (by simp [go_sem]) ?_;refine (A10.out.put_kids 17 0 0 ⟨#[]⟩ ⟨#[]⟩ ⟨#[]⟩ KW.out ⟨z11,z11,z11⟩ (by simp) (by have:=A10.out.bound HF.out (by omega) (by decide); have q1:=N9.out.2; have:=N5.out.2; have:=N7.out.2; simp [flatL] at q1; simp [flatL]; omega)).mono ?_;rintro e X11 ⟨v11,n11,rfl,hn11,hl11,ha,hg⟩;have A11:=hid ha;have G11:=hid hg;clear ha hg;have N11:=hid (And.intro hn11 hl11)
      obtain⟨ad11,cp11,rfl⟩:=hn11.is;clear hn11 hl11;refine⟨_,rfl,(A11.out.1.c0),?_⟩;refine z14 (by simp [go_sem]; exact rfl) ?_;refine pick_o 21 (.slice ad11 n11.length cp11) (A11.out.1.c0) ?_;refine z24 (by kernel_rfl) ?_;go_wp2_with fail
      go_ret;exact HP.out 300 _ _ (A11.out.done 5 N11.out.1 (by have:=N11.out.2; have:=N9.out.2; have:=N5.out.2; have:=N7.out.2; simp [flatL] at *; omega) (by omega)) (Or.inr ⟨HPos.out,by omega⟩)
     ·have z7 : (m3==0)=false:=by simp [h7]
      have g0:=A3.out.1.c0;go_wp2_with fail
      refine (A3.out.pick HF.out (by omega) 4 (by decide)).mono ?_;rintro e X4 ⟨m4,s4,rfl,hm4,hM4,ha,hg⟩;have A4:=hid ha;have G4:=hid hg;clear ha hg;clear g0;go_wp2_with fail
      refine (A4.out.nodes (leaf_calls (1+m4) A4.out.1 (A4.out.fit HF.out 10 (by omega)) (HE.out.grew (G1.out.trans (G2.out.trans (G3.out.trans G4.out)))).know (by have:=HE.out.room; omega))).mono ?_;rintro e X5 ⟨v5,n5,s5,t5,rfl,hn5,hl5,ha,hg⟩;have A5:=hid ha;have G5:=hid hg;clear ha hg;have N5:=hid (And.intro hn5 hl5);obtain⟨ad5,cp5,rfl⟩:=hn5.is;clear hn5 hl5;go_wp2_with fail
      refine (A5.out.nodes (HO.out (deep - 1) ty _ _ _ _ _ _ (by have:=HD.out; omega) (by have:=HD.out; omega) (A5.out.fit HF.out 10 (by omega)) A5.out.1 (HE.out.grew (G1.out.trans (G2.out.trans (G3.out.trans (G4.out.trans G5.out))))).down)).mono ?_;rintro e X6 ⟨v6,n6,s6,t6,rfl,hn6,hl6,ha,hg⟩;have A6:=hid ha;have G6:=hid hg;clear ha hg;have N6:=hid (And.intro hn6 hl6);obtain⟨ad6,cp6,rfl⟩:=hn6.is;clear hn6 hl6;go_wp2_with fail
      refine (A6.out.put2 16 0 0 ByteArray.empty ByteArray.empty ByteArray.empty (N5.out.1.grew G6.out) N6.out.1 ⟨z11,z11,z11⟩ (by have:=A6.out.bound HF.out (by omega) (by decide); have:=N5.out.2; have:=N6.out.2; omega)).mono ?_;rintro e X7 ⟨v7,n7,rfl,hn7,hl7,ha,hg⟩;have A7:=hid ha;have G7:=hid hg;clear ha hg;have N7:=hid (And.intro hn7 hl7);obtain⟨ad7,cp7,rfl⟩:=hn7.is;clear hn7 hl7;go_wp2_with fail
      refine (A7.out.put1 18 0 0 ByteArray.empty ByteArray.empty ByteArray.empty N7.out.1 ⟨z11,z11,z11⟩ (by have:=A7.out.bound HF.out (by omega) (by decide); have:=N7.out.2; have:=N5.out.2; have:=N6.out.2; omega)).mono ?_;rintro e X8 ⟨v8,n8,rfl,hn8,hl8,ha,hg⟩;have A8:=hid ha;have G8:=hid hg;clear ha hg;have N8:=hid (And.intro hn8 hl8);obtain⟨ad8,cp8,rfl⟩:=hn8.is;clear hn8 hl8;go_wp2_with fail
      go_ret;exact HP.out 300 _ _ (A8.out.done 2 N8.out.1 (by have:=N8.out.2; have:=N7.out.2; have:=N5.out.2; have:=N6.out.2; omega) (by omega)) (Or.inr ⟨HPos.out,by omega⟩)
    ·go_wp2_with fail
     refine (A2.out.nodes (gown_calls ty (deep - 1) HO.out (by have:=HD.out; omega) (by have:=HD.out; omega) (by have:=HD.out; omega) A2.out.1 (A2.out.fit HF.out 100 (by omega)) (HE.out.grew (G1.out.trans G2.out)))).mono ?_;rintro e X3 ⟨v3,n3,s3,t3,rfl,hn3,hl3,ha,hg⟩;have A3:=hid ha;have G3:=hid hg;clear ha hg;have N3:=hid (And.intro hn3 hl3);obtain⟨ad3,cp3,rfl⟩:=hn3.is;clear hn3 hl3;go_wp2_with fail
     go_ret;exact HP.out 300 _ _ (A3.out.done 0 N3.out.1 (by have:=N3.out.2; omega) (by omega)) (Or.inr ⟨HPos.out,by omega⟩)
    ·go_wp2_with fail
     refine (A2.out.nodes (gown_calls ty (deep - 1) HO.out (by have:=HD.out; omega) (by have:=HD.out; omega) (by have:=HD.out; omega) A2.out.1 (A2.out.fit HF.out 100 (by omega)) (HE.out.grew (G1.out.trans G2.out)))).mono ?_;rintro e X3 ⟨v3,n3,s3,t3,rfl,hn3,hl3,ha,hg⟩;have A3:=hid ha;have G3:=hid hg;clear ha hg;have N3:=hid (And.intro hn3 hl3);obtain⟨ad3,cp3,rfl⟩:=hn3.is;clear hn3 hl3;go_wp2_with fail
     go_ret;exact HP.out 300 _ _ (A3.out.done 0 N3.out.1 (by have:=N3.out.2; omega) (by omega)) (Or.inr ⟨HPos.out,by omega⟩)
    ·go_wp2_with fail
     refine (A2.out.nodes (gown_calls ty (deep - 1) HO.out (by have:=HD.out; omega) (by have:=HD.out; omega) (by have:=HD.out; omega) A2.out.1 (A2.out.fit HF.out 100 (by omega)) (HE.out.grew (G1.out.trans G2.out)))).mono ?_;rintro e X3 ⟨v3,n3,s3,t3,rfl,hn3,hl3,ha,hg⟩;have A3:=hid ha;have G3:=hid hg;clear ha hg;have N3:=hid (And.intro hn3 hl3);obtain⟨ad3,cp3,rfl⟩:=hn3.is;clear hn3 hl3;go_wp2_with fail
     go_ret;exact HP.out 300 _ _ (A3.out.done 0 N3.out.1 (by have:=N3.out.2; omega) (by omega)) (Or.inr ⟨HPos.out,by omega⟩)
end
end Go.Proofs.YtfbojelpdccjaaaGreatDoor
