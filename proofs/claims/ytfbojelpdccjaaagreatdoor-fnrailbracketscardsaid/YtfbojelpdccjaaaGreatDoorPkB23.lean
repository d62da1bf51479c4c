import Derived.Test.YtfbojelpdccjaaaGreatDoorPkB22
import Derived.Test.YtfbojelpdccjaaaGreatDoorPkB5
import Derived.Deep.Cut
set_option maxHeartbeats 8000000
set_option maxRecDepth 100000
namespace Go.Proofs.YtfbojelpdccjaaaGreatDoor
open Go.RowKit Go.Deep
variable {s s1 : Cn} {d : Dr} {ms : List Bool} {es : List Ef} {ks : List Kn} {D c t : Nat} {v ve vm : Value} {W X : World}
section
open Go.RowKit Go.Deep
theorem At.bound {C : Nat} (h : At d ve W s X s1 t c) (hf : Fit s C) (hc : c≤C) (hC : C≤1000) : t≤400000:=by
 have h3:=h.2.2;unfold Spent at h3;unfold Fit at hf;omega
theorem leaf1 (ty : Int) (ht : ty=1) (h : Gen d ve W s) (hf : Fit s 4) (hk : KnowsD d W v ks) (hl : ks.length≤999) :
 Calls Tryz.prog 106 #[.pointer (some ⟨d.G,0,none⟩),.int .i64 ty,v] W (NodesPost d ve W s 4):=by
 have HF:=hid hf;have A0:=hid (At.start h);have HKn:=hid hk;have HKl:=hid hl;have HK:=hid (A0.out.nodes0 (gknown_calls ty h (by unfold Fit at hf; omega) hk (by omega)));obtain⟨ad,cp,rfl⟩:=hk.is;clear hk hl h hf;subst ht;go_enter Tryz.func106,Tryz.ntmps106
 go_wp2_with fail
 refine HK.out.mono ?_;rintro e X1 ⟨v1,n1,s1,t1,rfl,hn1,hl1,ha1,hg1⟩;have A1:=hid ha1;have N1:=hid (And.intro hn1 hl1);have G1:=hid hg1;obtain⟨ad1,cp1,rfl⟩:=hn1.is;obtain⟨l1,hl1e⟩ : ∃ l,n1.length=l:=⟨_,rfl⟩
 have HL1:=hid hl1e;rw [hl1e] at N1 ⊢;clear hn1 hl1 ha1 hg1 HK hl1e A0;by_cases hz : l1=0
 ·subst hz;have g0:=A1.out.1.c0;go_wp2_with fail
  refine (A1.out.pick HF.out (by omega) 10 (by decide)).mono ?_;rintro e X2 ⟨m2,s2,rfl,hm2,hM2,ha,hg⟩;have A2:=hid ha;have G2:=hid hg;clear ha hg;clear g0;go_wp2_with fail
  refine (A2.out.node 1 m2).mono ?_;rintro e X3 ⟨v3,n3,rfl,hn3,hl3,ha,hg⟩;have A3:=hid ha;have G3:=hid hg;clear ha hg;have N3:=hid (And.intro hn3 hl3);obtain⟨ad3,cp3,rfl⟩:=hn3.is;clear hn3 hl3;go_wp2_with fail
  go_ret;exact A3.out.done 1 N3.out.1 (by have:=N3.out.2; omega) (by omega)
 ·have hz' : (0 : Int) < (l1 : Int):=by omega
  have g0:=A1.out.1.c0;go_wp2_with fail
  refine (A1.out.pick HF.out (by omega) 3 (by decide)).mono ?_;rintro e X2 ⟨m2,s2,rfl,hm2,hM2,ha,hg⟩;have A2:=hid ha;have G2:=hid hg;clear ha hg;clear g0;by_cases hm : 0 < m2
  ·go_wp2_with fail
   go_ret;exact A2.out.done 0 (N1.out.1.grew G2.out) (by have:=N1.out.2; have:=HL1.out; omega) (by omega)
  ·have hm0 : m2=0:=by omega
   subst hm0;have g0:=A2.out.1.c0;go_wp2_with fail
   refine (A2.out.pick HF.out (by omega) 10 (by decide)).mono ?_;rintro e X3 ⟨m3,s3,rfl,hm3,hM3,ha,hg⟩;have A3:=hid ha;have G3:=hid hg;clear ha hg;clear g0;go_wp2_with fail
   refine (A3.out.node 1 m3).mono ?_;rintro e X4 ⟨v4,n4,rfl,hn4,hl4,ha,hg⟩;have A4:=hid ha;have G4:=hid hg;clear ha hg;have N4:=hid (And.intro hn4 hl4);obtain⟨ad4,cp4,rfl⟩:=hn4.is;clear hn4 hl4;go_wp2_with fail
   go_ret;exact A4.out.done 1 N4.out.1 (by have:=N4.out.2; omega) (by omega)
theorem leaf2 (ty : Int) (ht : ty=2) (h : Gen d ve W s) (hf : Fit s 4) (hk : KnowsD d W v ks) (hl : ks.length≤999) :
 Calls Tryz.prog 106 #[.pointer (some ⟨d.G,0,none⟩),.int .i64 ty,v] W (NodesPost d ve W s 4):=by
 have HF:=hid hf;have A0:=hid (At.start h);have HKn:=hid hk;have HKl:=hid hl;have HK:=hid (A0.out.nodes0 (gknown_calls ty h (by unfold Fit at hf; omega) hk (by omega)));obtain⟨ad,cp,rfl⟩:=hk.is;clear hk hl h hf;subst ht;go_enter Tryz.func106,Tryz.ntmps106
 go_wp2_with fail
 refine HK.out.mono ?_;rintro e X1 ⟨v1,n1,s1,t1,rfl,hn1,hl1,ha1,hg1⟩;have A1:=hid ha1;have N1:=hid (And.intro hn1 hl1);have G1:=hid hg1;obtain⟨ad1,cp1,rfl⟩:=hn1.is;obtain⟨l1,hl1e⟩ : ∃ l,n1.length=l:=⟨_,rfl⟩
 have HL1:=hid hl1e;rw [hl1e] at N1 ⊢;clear hn1 hl1 ha1 hg1 HK hl1e A0;by_cases hz : l1=0
 ·subst hz;have g0:=A1.out.1.c0;go_wp2_with fail
  refine (A1.out.pick HF.out (by omega) 2 (by decide)).mono ?_;rintro e X2 ⟨m2,s2,rfl,hm2,hM2,ha,hg⟩;have A2:=hid ha;have G2:=hid hg;clear ha hg;clear g0;go_wp2_with fail
  refine (A2.out.node 2 m2).mono ?_;rintro e X3 ⟨v3,n3,rfl,hn3,hl3,ha,hg⟩;have A3:=hid ha;have G3:=hid hg;clear ha hg;have N3:=hid (And.intro hn3 hl3);obtain⟨ad3,cp3,rfl⟩:=hn3.is;clear hn3 hl3;go_wp2_with fail
  go_ret;exact A3.out.done 1 N3.out.1 (by have:=N3.out.2; omega) (by omega)
 ·have hz' : (0 : Int) < (l1 : Int):=by omega
  have g0:=A1.out.1.c0;go_wp2_with fail
  refine (A1.out.pick HF.out (by omega) 3 (by decide)).mono ?_;rintro e X2 ⟨m2,s2,rfl,hm2,hM2,ha,hg⟩;have A2:=hid ha;have G2:=hid hg;clear ha hg;clear g0;by_cases hm : 0 < m2
  ·go_wp2_with fail
   go_ret;exact A2.out.done 0 (N1.out.1.grew G2.out) (by have:=N1.out.2; have:=HL1.out; omega) (by omega)
  ·have hm0 : m2=0:=by omega
   subst hm0;have g0:=A2.out.1.c0;go_wp2_with fail
   refine (A2.out.pick HF.out (by omega) 2 (by decide)).mono ?_;rintro e X3 ⟨m3,s3,rfl,hm3,hM3,ha,hg⟩;have A3:=hid ha;have G3:=hid hg;clear ha hg;clear g0;go_wp2_with fail
   refine (A3.out.node 2 m3).mono ?_;rintro e X4 ⟨v4,n4,rfl,hn4,hl4,ha,hg⟩;have A4:=hid ha;have G4:=hid hg;clear ha hg;have N4:=hid (And.intro hn4 hl4);obtain⟨ad4,cp4,rfl⟩:=hn4.is;clear hn4 hl4;go_wp2_with fail
   go_ret;exact A4.out.done 1 N4.out.1 (by have:=N4.out.2; omega) (by omega)
theorem leaf3 (ty : Int) (ht : ty=3) (h : Gen d ve W s) (hf : Fit s 4) (hk : KnowsD d W v ks) (hl : ks.length≤999) :
 Calls Tryz.prog 106 #[.pointer (some ⟨d.G,0,none⟩),.int .i64 ty,v] W (NodesPost d ve W s 4):=by
 have HF:=hid hf;have A0:=hid (At.start h);have HKn:=hid hk;have HKl:=hid hl;have HK:=hid (A0.out.nodes0 (gknown_calls ty h (by unfold Fit at hf; omega) hk (by omega)));obtain⟨ad,cp,rfl⟩:=hk.is;clear hk hl h hf;subst ht;go_enter Tryz.func106,Tryz.ntmps106
 go_wp2_with fail
 refine HK.out.mono ?_;rintro e X1 ⟨v1,n1,s1,t1,rfl,hn1,hl1,ha1,hg1⟩;have A1:=hid ha1;have N1:=hid (And.intro hn1 hl1);have G1:=hid hg1;obtain⟨ad1,cp1,rfl⟩:=hn1.is;obtain⟨l1,hl1e⟩ : ∃ l,n1.length=l:=⟨_,rfl⟩
 have HL1:=hid hl1e;rw [hl1e] at N1 ⊢;clear hn1 hl1 ha1 hg1 HK hl1e A0;by_cases hz : l1=0
 ·subst hz;go_wp2_with fail
  refine (A1.out.node 3 0).mono ?_;rintro e X2 ⟨v2,n2,rfl,hn2,hl2,ha,hg⟩;have A2:=hid ha;have G2:=hid hg;clear ha hg;have N2:=hid (And.intro hn2 hl2);obtain⟨ad2,cp2,rfl⟩:=hn2.is;clear hn2 hl2;go_wp2_with fail
  go_ret;exact A2.out.done 1 N2.out.1 (by have:=N2.out.2; omega) (by omega)
 ·have hz' : (0 : Int) < (l1 : Int):=by omega
  have g0:=A1.out.1.c0;go_wp2_with fail
  refine (A1.out.pick HF.out (by omega) 3 (by decide)).mono ?_;rintro e X2 ⟨m2,s2,rfl,hm2,hM2,ha,hg⟩;have A2:=hid ha;have G2:=hid hg;clear ha hg;clear g0;by_cases hm : 0 < m2
  ·go_wp2_with fail
   go_ret;exact A2.out.done 0 (N1.out.1.grew G2.out) (by have:=N1.out.2; have:=HL1.out; omega) (by omega)
  ·have hm0 : m2=0:=by omega
   subst hm0;go_wp2_with fail
   refine (A2.out.node 3 0).mono ?_;rintro e X3 ⟨v3,n3,rfl,hn3,hl3,ha,hg⟩;have A3:=hid ha;have G3:=hid hg;clear ha hg;have N3:=hid (And.intro hn3 hl3);obtain⟨ad3,cp3,rfl⟩:=hn3.is;clear hn3 hl3;go_wp2_with fail
   go_ret;exact A3.out.done 1 N3.out.1 (by have:=N3.out.2; omega) (by omega)
theorem leaf4 (ty : Int) (ht : ty=4) (h : Gen d ve W s) (hf : Fit s 4) (hk : KnowsD d W v ks) (hl : ks.length≤999) :
 Calls Tryz.prog 106 #[.pointer (some ⟨d.G,0,none⟩),.int .i64 ty,v] W (NodesPost d ve W s 4):=by
 have HF:=hid hf;have A0:=hid (At.start h);have HKn:=hid hk;have HKl:=hid hl;have HK:=hid (A0.out.nodes0 (gknown_calls ty h (by unfold Fit at hf; omega) hk (by omega)));obtain⟨ad,cp,rfl⟩:=hk.is;clear hk hl h hf;subst ht;go_enter Tryz.func106,Tryz.ntmps106
 go_wp2_with fail
 refine HK.out.mono ?_;rintro e X1 ⟨v1,n1,s1,t1,rfl,hn1,hl1,ha1,hg1⟩;have A1:=hid ha1;have N1:=hid (And.intro hn1 hl1);have G1:=hid hg1;obtain⟨ad1,cp1,rfl⟩:=hn1.is;obtain⟨l1,hl1e⟩ : ∃ l,n1.length=l:=⟨_,rfl⟩
 have HL1:=hid hl1e;rw [hl1e] at N1 ⊢;clear hn1 hl1 ha1 hg1 HK hl1e A0;by_cases hz : l1=0
 ·subst hz;go_wp2_with fail
  refine (A1.out.node 4 0).mono ?_;rintro e X2 ⟨v2,n2,rfl,hn2,hl2,ha,hg⟩;have A2:=hid ha;have G2:=hid hg;clear ha hg;have N2:=hid (And.intro hn2 hl2);obtain⟨ad2,cp2,rfl⟩:=hn2.is;clear hn2 hl2;go_wp2_with fail
  go_ret;exact A2.out.done 1 N2.out.1 (by have:=N2.out.2; omega) (by omega)
 ·have hz' : (0 : Int) < (l1 : Int):=by omega
  have g0:=A1.out.1.c0;go_wp2_with fail
  refine (A1.out.pick HF.out (by omega) 3 (by decide)).mono ?_;rintro e X2 ⟨m2,s2,rfl,hm2,hM2,ha,hg⟩;have A2:=hid ha;have G2:=hid hg;clear ha hg;clear g0;by_cases hm : 0 < m2
  ·go_wp2_with fail
   go_ret;exact A2.out.done 0 (N1.out.1.grew G2.out) (by have:=N1.out.2; have:=HL1.out; omega) (by omega)
  ·have hm0 : m2=0:=by omega
   subst hm0;go_wp2_with fail
   refine (A2.out.node 4 0).mono ?_;rintro e X3 ⟨v3,n3,rfl,hn3,hl3,ha,hg⟩;have A3:=hid ha;have G3:=hid hg;clear ha hg;have N3:=hid (And.intro hn3 hl3);obtain⟨ad3,cp3,rfl⟩:=hn3.is;clear hn3 hl3;go_wp2_with fail
   go_ret;exact A3.out.done 1 N3.out.1 (by have:=N3.out.2; omega) (by omega)
theorem gleaf5 (ty : Int) (h1 : ty≠1) (h2 : ty≠2) (h3 : ty≠3) (h4 : ty≠4) (h : Gen d ve W s) (hf : Fit s 10) (hk : KnowsD d W v ks) (hl : ks.length≤998) :
 Calls Tryz.prog 106 #[.pointer (some ⟨d.G,0,none⟩),.int .i64 ty,v] W (NodesPost d ve W s 10):=by
 have HF:=hid hf;have A0:=hid (At.start h);have HKn:=hid hk;have HKl:=hid hl;have HK:=hid (A0.out.nodes0 (gknown_calls ty h (by unfold Fit at hf; omega) hk (by omega)));obtain⟨ad,cp,rfl⟩:=hk.is;clear hk hl h hf;have e1 : (ty==1)=false:=by simp [h1]
 have e2 : (ty==2)=false:=by simp [h2]
 have e3 : (ty==3)=false:=by simp [h3]
 have e4 : (ty==4)=false:=by simp [h4]
 clear h1 h2 h3 h4;go_enter Tryz.func106,Tryz.ntmps106
 go_wp2_with fail
 refine HK.out.mono ?_;rintro e X1 ⟨v1,n1,s1,t1,rfl,hn1,hl1,ha1,hg1⟩;have A1:=hid ha1;have N1:=hid (And.intro hn1 hl1);have G1:=hid hg1;obtain⟨ad1,cp1,rfl⟩:=hn1.is;obtain⟨l1,hl1e⟩ : ∃ l,n1.length=l:=⟨_,rfl⟩
 have HL1:=hid hl1e;rw [hl1e] at N1 ⊢;clear hn1 hl1 ha1 hg1 HK hl1e A0;by_cases hz : l1=0
 ·subst hz;go_wp2_with fail
  refine (A1.out.name HF.out (by omega)).mono ?_;rintro e X2 ⟨x2,s2,rfl,hb2,ha,hg⟩;have A2:=hid ha;have G2:=hid hg;clear ha hg;have B2:=hid hb2;clear hb2;go_wp2_with fail
  refine (A2.out.add x2 1 0 (HKn.out.grew (G1.out.trans G2.out)) B2.out (by have:=HKl.out; omega)).mono ?_;rintro e X3 ⟨u3,ks3,rfl,hk3,hkl3,ha,hg⟩;have A3:=hid ha;have G3:=hid hg;clear ha hg;have K3:=hid (And.intro hk3 hkl3);clear hk3 hkl3;go_wp2_with fail
  refine (A3.out.nodes (leaf1 1 rfl A3.out.1 (A3.out.fit HF.out 4 (by omega)) K3.out.1 (by have:=K3.out.2; have:=HKl.out; omega))).mono ?_;rintro e X4 ⟨v4,n4,s4,t4,rfl,hn4,hl4,ha,hg⟩;have A4:=hid ha;have G4:=hid hg;clear ha hg;have N4:=hid (And.intro hn4 hl4);obtain⟨ad4,cp4,rfl⟩:=hn4.is;clear hn4 hl4;go_wp2_with fail
  refine (A4.out.put1 6 0 0 x2 ByteArray.empty ByteArray.empty N4.out.1 ⟨B2.out,z11,z11⟩ (by have:=A4.out.bound HF.out (by omega) (by decide); have:=N4.out.2; omega)).mono ?_;rintro e X5 ⟨v5,n5,rfl,hn5,hl5,ha,hg⟩;have A5:=hid ha;have G5:=hid hg;clear ha hg;have N5:=hid (And.intro hn5 hl5);obtain⟨ad5,cp5,rfl⟩:=hn5.is;clear hn5 hl5;go_wp2_with fail
  go_ret;exact A5.out.done 1 N5.out.1 (by have:=N5.out.2; have:=N4.out.2; omega) (by omega)
 ·have hz' : (0 : Int) < (l1 : Int):=by omega
  have g0:=A1.out.1.c0;go_wp2_with fail
  refine (A1.out.pick HF.out (by omega) 3 (by decide)).mono ?_;rintro e X2 ⟨m2,s2,rfl,hm2,hM2,ha,hg⟩;have A2:=hid ha;have G2:=hid hg;clear ha hg;clear g0;by_cases hm : 0 < m2
  ·go_wp2_with fail
   go_ret;exact A2.out.done 0 (N1.out.1.grew G2.out) (by have:=N1.out.2; have:=HL1.out; omega) (by omega)
  ·have hm0 : m2=0:=by omega
   subst hm0;go_wp2_with fail
   refine (A2.out.name HF.out (by omega)).mono ?_;rintro e X3 ⟨x3,s3,rfl,hb3,ha,hg⟩;have A3:=hid ha;have G3:=hid hg;clear ha hg;have B3:=hid hb3;clear hb3;go_wp2_with fail
   refine (A3.out.add x3 1 0 (HKn.out.grew (G1.out.trans (G2.out.trans G3.out))) B3.out (by have:=HKl.out; omega)).mono ?_;rintro e X4 ⟨u4,ks4,rfl,hk4,hkl4,ha,hg⟩;have A4:=hid ha;have G4:=hid hg;clear ha hg;have K4:=hid (And.intro hk4 hkl4);clear hk4 hkl4;go_wp2_with fail
   refine (A4.out.nodes (leaf1 1 rfl A4.out.1 (A4.out.fit HF.out 4 (by omega)) K4.out.1 (by have:=K4.out.2; have:=HKl.out; omega))).mono ?_;rintro e X5 ⟨v5,n5,s5,t5,rfl,hn5,hl5,ha,hg⟩;have A5:=hid ha;have G5:=hid hg;clear ha hg;have N5:=hid (And.intro hn5 hl5);obtain⟨ad5,cp5,rfl⟩:=hn5.is;clear hn5 hl5;go_wp2_with fail
   refine (A5.out.put1 6 0 0 x3 ByteArray.empty ByteArray.empty N5.out.1 ⟨B3.out,z11,z11⟩ (by have:=A5.out.bound HF.out (by omega) (by decide); have:=N5.out.2; omega)).mono ?_;rintro e X6 ⟨v6,n6,rfl,hn6,hl6,ha,hg⟩;have A6:=hid ha;have G6:=hid hg;clear ha hg;have N6:=hid (And.intro hn6 hl6);obtain⟨ad6,cp6,rfl⟩:=hn6.is;clear hn6 hl6;go_wp2_with fail
   go_ret;exact A6.out.done 1 N6.out.1 (by have:=N6.out.2; have:=N5.out.2; omega) (by omega)
theorem Fit.mono {c' : Nat} (h : Fit s c) (hc : c'≤c) : Fit s c':= by
 unfold Fit at h ⊢;omega
theorem NodesPost.mono {W' : World} {c' : Nat} {e : Ending} (h : NodesPost d ve W s c e W') (hc : c≤c') : NodesPost d ve W s c' e W':= by
 obtain⟨v,ns,s',t,h1,h2,h3,h4,h5,h6⟩:=h;exact⟨v,ns,s',t,h1,h2,h3,h4,h5,h6.mono hc⟩
theorem leaf_calls (ty : Int) (h : Gen d ve W s) (hf : Fit s 10) (hk : KnowsD d W v ks) (hl : ks.length≤998) :
 Calls Tryz.prog 106 #[.pointer (some ⟨d.G,0,none⟩),.int .i64 ty,v] W (NodesPost d ve W s 10):=by
 by_cases h1 : ty=1
 ·exact (leaf1 ty h1 h (hf.mono (by omega)) hk (by omega)).mono fun e W' h=>h.mono (by omega)
 by_cases h2 : ty=2
 ·exact (leaf2 ty h2 h (hf.mono (by omega)) hk (by omega)).mono fun e W' h=>h.mono (by omega)
 by_cases h3 : ty=3
 ·exact (leaf3 ty h3 h (hf.mono (by omega)) hk (by omega)).mono fun e W' h=>h.mono (by omega)
 by_cases h4 : ty=4
 ·exact (leaf4 ty h4 h (hf.mono (by omega)) hk (by omega)).mono fun e W' h=>h.mono (by omega)
 exact gleaf5 ty h1 h2 h3 h4 h hf hk hl
def EffsD (d : Dr) (W : World) (v : Value) (es : List Ef) : Prop:=Lies d W v es.length 3 (fun i=>(es.getD (i / 3) default).cell (i % 3))∧ ∀ e∈es,Brief e.name
theorem EffsD.grew {W' : World} (h : EffsD d W v es) (g : Grew d W W') : EffsD d W' v es:=⟨h.1.grew g,h.2⟩
theorem EffsD.is (h : EffsD d W v es) : ∃ ad cp,v= .slice ad es.length cp:=h.1.is
theorem EffsD.at {d : Dr} {W : World} {ad : Option Addr} {n cp : Nat} {es : List Ef} (h : EffsD d W (.slice ad n cp) es) {i : Nat} (hi : i < n) : ∃ b off nm ar re,ad=some ⟨b,off,none⟩∧es.getD i default=⟨nm,ar,re⟩∧Brief nm∧d.free W b∧W.cell? ⟨b,off+i*3,none⟩=some (.string nm)∧W.cell? ⟨b,off+i*3+1,none⟩=some (.int .i64 ar)∧W.cell? ⟨b,off+i*3+2,none⟩=some (.int .i64 re):=by
 obtain⟨h,hB⟩:=h;obtain⟨hl,-,b,off,rfl,hq,hc⟩:=h.at (by omega);obtain⟨k,hk⟩ : ∃ k,es.getD i default=k:=⟨_,rfl⟩
 have hb:=hB _ (getD_mem (l:=es) (k:=i) (by omega));have e : ∀ c,c < 3→W.cell? ⟨b,off+(i*3+c),none⟩=some (k.cell c):=fun c hc'=> by
  rw [hc (i*3+c) (by omega),← hk];exact congrArg some (cell_div es Ef.cell 3 i c hc')
 rw [hk] at hb;obtain⟨nm,ar,re⟩:=k;exact⟨b,off,nm,ar,re,rfl,hk,hb,hq,e 0 (by omega),e 1 (by omega),e 2 (by omega)⟩
structure Env (d : Dr) (ve : Value) (es : List Ef) (X : World) (v : Value) (ks : List Kn) (vm : Value) (ms : List Bool) (D : Nat) : Prop where
 know : KnowsD d X v ks
 may : BoolsD d X vm ms
 len : ms.length=es.length
 effs : EffsD d X ve es
 room : ks.length+4*D≤400
 few : es.length≤4
theorem Env.grew {X' : World} (h : Env d ve es X v ks vm ms D) (g : Grew d X X') : Env d ve es X' v ks vm ms D:=
 ⟨h.know.grew g,h.may.grew g,h.len,h.effs.grew g,h.room,h.few⟩
theorem Env.down (h : Env d ve es X v ks vm ms (D+1)) : Env d ve es X v ks vm ms D:=
 ⟨h.know,h.may,h.len,h.effs,by have:=h.room; omega,h.few⟩
theorem Env.with {u : Value} {ks' : List Kn} (h : Env d ve es X v ks vm ms (D+1)) (hk : KnowsD d X u ks') (hl : ks'.length≤ks.length+4) : Env d ve es X u ks' vm ms D:=
 ⟨hk,h.may,h.len,h.effs,by have:=h.room; omega,h.few⟩
theorem Env.let {um : Value} {ms' : List Bool} (h : Env d ve es X v ks vm ms (D+1)) (hm : BoolsD d X um ms') (hl : ms'.length=es.length) : Env d ve es X v ks um ms' D:=
 ⟨h.know,hm,hl,h.effs,by have:=h.room; omega,h.few⟩
def OfC (d : Dr) (ve : Value) (es : List Ef) (D : Nat) : Prop:=
 ∀ (deep ty : Int) (v vm : Value) (ks : List Kn) (ms : List Bool) (X : World) (s : Cn),deep≤D→ -100≤deep→Fit s 10→Gen d ve X s→Env d ve es X v ks vm ms D→
  Calls Tryz.prog 70 #[.pointer (some ⟨d.G,0,none⟩),.int .i64 ty,v,vm,.int .i64 deep] X (NodesPost d ve X s 10)
theorem z66 (b : Int) (W : World) : Calls Tryz.prog 128 #[.int .i64 b] W fun e W'=> e= .returned (.int .i64 b)∧W=W':= by
 go_enter Tryz.func128,Tryz.ntmps128
 go_wp2_with fail
 go_ret;exact⟨rfl,rfl⟩
theorem nd_lit_at (W : World) (n : Nd) (q : Nat) (hq : W.heap.size=q) (h1 : d.B < W.heap.size) (h2 : d.G < W.heap.size) (hb : Brief n.a∧Brief n.b∧Brief n.c) : NodesD d (W.alloc (.cells #[.int .i64 n.kind,.int .i64 n.num,.string n.a,.string n.b,.string n.c,.int .i64 n.kids] 60)) (.slice (some ⟨q,0,none⟩) 1 1) [n]:=by
 subst hq;exact nd_lit W n h1 h2 hb
theorem two_get (a b : Int) (m : Int) (h0 : 0≤m) (h1 : m < 2) : ∃ k : Int,(#[.int .i64 a,.int .i64 b] : Array Value)[m.toNat]? =some (.int .i64 k):=by
 have h : m=0∨m=1:=by omega
 rcases h with rfl | rfl <;> exact⟨_,rfl⟩
theorem KidsV.grew {X' : World} {ls : List (Value×List Nd)} (h : KidsV d X v ls) (g : Grew d X X') : KidsV d X' v ls:=⟨h.1.grew g,fun x hx=>(h.2 x hx).grew g⟩
theorem At.put_kids (h : At d ve W s X s1 t c) {ls : List (Value×List Nd)} {vk : Value} (k nm kd : Int) (a b e' : ByteArray) (hk : KidsV d X vk ls) (hb : Brief a∧Brief b∧Brief e') (hl : ls.length≤1000) (hfl : (flatL ls).length≤800000) :
 Calls Tryz.prog 67 #[.agg #[.int .i64 k,.int .i64 nm,.string a,.string b,.string e',.int .i64 kd],vk] X fun e X'=> ∃ v ns,e= .returned v∧NodesD d X' v ns∧ns.length=1+(flatL ls).length∧At d ve W s X' s1 t c∧Grew d X X':= by
 refine (gput_calls (d:=d) k nm kd a b e' X _ ls h.1.ltB h.1.ltG hk hb hl hfl).mono ?_;rintro e X' ⟨v,rfl,hn,hbl⟩;exact⟨v,_,rfl,hn,by simp; omega,h.below hbl,Grew.of_below hbl⟩
theorem none_post {C : Nat} (h : At d ve W s X s1 t c) (hc : c≤C) : NodesPost0 d ve W s C (.returned (.slice none 0 0)) X:=
 h.done0 0 (nodes_none _ _) (by simp) (by omega)
theorem cont_calls (ty : Int) (deep : Int) (hO : OfC d ve es D) (h1 : deep≤D) (h2 : -90≤deep) (h3 : D≤100) (h : Gen d ve W s) (hf : Fit s 30) (hE : Env d ve es W v ks vm ms (D+1)) :
 Calls Tryz.prog 110 #[.pointer (some ⟨d.G,0,none⟩),.int .i64 ty,v,vm,.int .i64 deep] W (NodesPost0 d ve W s 30):=by
 have HF:=hid hf;have HO:=hid hO;have A0:=hid (At.start h);have HE:=hid hE;have HD:=hid (And.intro h1 (And.intro h2 h3));have hdu : deep≤1000:=by omega
 obtain⟨ad,cp,rfl⟩:=hE.know.is;obtain⟨adm,cpm,rfl⟩:=hE.may.is;clear hO h1 h3 h hf hE;obtain⟨L,hL⟩ : ∃ L,ks.length=L:=⟨_,rfl⟩
 have HL : Hid (ks.length=L∧L≤1000):=⟨hL,by have:=HE.out.room; omega⟩
 rw [hL] at HE ⊢;clear hL;have hL0 : Hid (wrap64 ((L : Int) - 1)=(L : Int) - 1):=by show _=_; have:=HL.out.2; unfold wrap64; omega
 go_enter Tryz.func110,Tryz.ntmps110
 go_wp2_with fail
 try rw [hL0.out]
 go_loopw [11] (fun i wr=> ∃ i' : Nat,i= .int .i64 ((i' : Int) - 1)∧i'≤L∧wr=W) (fun i _=>(intOf i+1).toNat)
 case atStart=>exact⟨L,rfl,Nat.le_refl _,rfl⟩
 case round=>
  obtain⟨i',rfl,hle,rfl⟩:=hrel;by_cases hz : i'= 0
  ·subst hz;go_wp2_with fail
   go_ret;exact none_post A0.out (by omega)
  ·obtain⟨j,rfl⟩ : ∃ j,i'= j+1:=⟨i' - 1,by omega⟩
   have ej : ((j+1 : Nat) : Int) - 1=(j : Int):=by omega
   rw [ej];obtain⟨b,off,xn,xt,xr,rfl,-,hbr,hq,c0,c1,c2⟩:=HE.out.know.at (i:=j) (by omega);have HQ:=hid (And.intro hq hbr);have hj0 : (0 : Int)≤(j : Int):=by omega
   have hjl : (j : Int) < (L : Int):=by omega
   have HW : Hid (wrap64 ((j : Int) - 1)=(j : Int) - 1):=by show _=_; have:=HL.out.2; unfold wrap64; omega
   have hstep : (intOf (.int .i64 ((j : Int) - 1))+1).toNat < (intOf (.int .i64 (j : Int))+1).toNat:=by simp [intOf]
   clear hq hbr hz;by_cases hty : (xt==wrap64 (10+ty))=true
   ·go_upto_region 5 with fail
    refine z27 (S:=fun w'=> w'.cell? ⟨b,off+j*3,none⟩=some (.string xn)∧w'.cell? ⟨b,off+j*3+2,none⟩=some (.int .i64 xr)) (by kernel_rfl) rfl rfl ?_;have A1:=hid A0.out.drew;have G1:=hid (Grew.refl d wr).drew;generalize wr.drew=X1 at*;refine pick_o 0 (.agg #[.int .i64 7,.int .i64 0,.string ⟨#[]⟩,.string ⟨#[]⟩,.string ⟨#[]⟩,.int .i64 0]) ⟨((G1.out.cell (p:=⟨b,off+j*3,none⟩) HQ.out.1).trans c0),((G1.out.cell (p:=⟨b,off+j*3+2,none⟩) HQ.out.1).trans c2)⟩ ?_
    refine pick_o 1 (.slice (some ⟨b,off,none⟩) L cp) ⟨((G1.out.cell (p:=⟨b,off+j*3,none⟩) HQ.out.1).trans c0),((G1.out.cell (p:=⟨b,off+j*3+2,none⟩) HQ.out.1).trans c2)⟩ ?_;refine pick_o 2 (.int .i64 (j : Int)) ⟨((G1.out.cell (p:=⟨b,off+j*3,none⟩) HQ.out.1).trans c0),((G1.out.cell (p:=⟨b,off+j*3+2,none⟩) HQ.out.1).trans c2)⟩ ?_;refine pick_o (hy:=fun w' hw=>by simp [go_sem,hj0,hjl]) 3 (.pointer (some ⟨b,off+j*3,none⟩)) ⟨((G1.out.cell (p:=⟨b,off+j*3,none⟩) HQ.out.1).trans c0),((G1.out.cell (p:=⟨b,off+j*3+2,none⟩) HQ.out.1).trans c2)⟩ ?_
    refine pick_o 4 (.pointer (some ⟨b,off+j*3,none⟩)) ⟨((G1.out.cell (p:=⟨b,off+j*3,none⟩) HQ.out.1).trans c0),((G1.out.cell (p:=⟨b,off+j*3+2,none⟩) HQ.out.1).trans c2)⟩ ?_;refine pick_o (hy:=fun w' hw=>by simp [go_sem,hw.1]) 5 (.string xn) ⟨((G1.out.cell (p:=⟨b,off+j*3,none⟩) HQ.out.1).trans c0),((G1.out.cell (p:=⟨b,off+j*3+2,none⟩) HQ.out.1).trans c2)⟩ ?_;refine pick_o 6 (.agg #[.int .i64 5,.int .i64 0,.string xn,.string ⟨#[]⟩,.string ⟨#[]⟩,.int .i64 0]) ⟨((G1.out.cell (p:=⟨b,off+j*3,none⟩) HQ.out.1).trans c0),((G1.out.cell (p:=⟨b,off+j*3+2,none⟩) HQ.out.1).trans c2)⟩ ?_
    refine pick_o 8 (.pointer (some ⟨d.G,0,none⟩)) ⟨((G1.out.cell (p:=⟨b,off+j*3,none⟩) HQ.out.1).trans c0),((G1.out.cell (p:=⟨b,off+j*3+2,none⟩) HQ.out.1).trans c2)⟩ ?_;refine pick_o 9 (.slice (some ⟨b,off,none⟩) L cp) ⟨((G1.out.cell (p:=⟨b,off+j*3,none⟩) HQ.out.1).trans c0),((G1.out.cell (p:=⟨b,off+j*3+2,none⟩) HQ.out.1).trans c2)⟩ ?_;refine pick_o 10 (.int .i64 (j : Int)) ⟨((G1.out.cell (p:=⟨b,off+j*3,none⟩) HQ.out.1).trans c0),((G1.out.cell (p:=⟨b,off+j*3+2,none⟩) HQ.out.1).trans c2)⟩ ?_
    refine pick_o (hy:=fun w' hw=>by simp [go_sem,hj0,hjl]) 11 (.pointer (some ⟨b,off+j*3,none⟩)) ⟨((G1.out.cell (p:=⟨b,off+j*3,none⟩) HQ.out.1).trans c0),((G1.out.cell (p:=⟨b,off+j*3+2,none⟩) HQ.out.1).trans c2)⟩ ?_;refine pick_o 12 (.pointer (some ⟨b,off+j*3+2,none⟩)) ⟨((G1.out.cell (p:=⟨b,off+j*3,none⟩) HQ.out.1).trans c0),((G1.out.cell (p:=⟨b,off+j*3+2,none⟩) HQ.out.1).trans c2)⟩ ?_;refine pick_o (hy:=fun w' hw=>by simp [go_sem,hw.2]) 13 (.int .i64 xr) ⟨((G1.out.cell (p:=⟨b,off+j*3,none⟩) HQ.out.1).trans c0),((G1.out.cell (p:=⟨b,off+j*3+2,none⟩) HQ.out.1).trans c2)⟩ ?_
    refine pick_o 14 (.slice (some ⟨b,off,none⟩) L cp) ⟨((G1.out.cell (p:=⟨b,off+j*3,none⟩) HQ.out.1).trans c0),((G1.out.cell (p:=⟨b,off+j*3+2,none⟩) HQ.out.1).trans c2)⟩ ?_;refine pick_o 15 (.slice adm ms.length cpm) ⟨((G1.out.cell (p:=⟨b,off+j*3,none⟩) HQ.out.1).trans c0),((G1.out.cell (p:=⟨b,off+j*3+2,none⟩) HQ.out.1).trans c2)⟩ ?_;refine pick_o 16 (.int .i64 deep) ⟨((G1.out.cell (p:=⟨b,off+j*3,none⟩) HQ.out.1).trans c0),((G1.out.cell (p:=⟨b,off+j*3+2,none⟩) HQ.out.1).trans c2)⟩ ?_;refine z49 (i:=7) (j:=17) (by kernel_rfl) ?_ ?_
    ·have NL : Hid (NodesD d (X1.alloc (.cells #[.int .i64 5,.int .i64 0,.string xn,.string ⟨#[]⟩,.string ⟨#[]⟩,.int .i64 0] 60)) (.slice (some ⟨X1.heap.size,0,none⟩) 1 1) [⟨5,0,xn,ByteArray.empty,ByteArray.empty,0⟩]∧ [(⟨5,0,xn,ByteArray.empty,ByteArray.empty,0⟩ : Nd)].length=1):=⟨nd_lit (d:=d) X1 ⟨5,0,xn,ByteArray.empty,ByteArray.empty,0⟩ A1.out.1.ltB A1.out.1.ltG ⟨HQ.out.2,z11,z11⟩,rfl⟩
     have A2:=hid (A1.out.alloc (.cells #[.int .i64 5,.int .i64 0,.string xn,.string ⟨#[]⟩,.string ⟨#[]⟩,.int .i64 0] 60));have G2:=hid ((Grew.refl d X1).alloc (.cells #[.int .i64 5,.int .i64 0,.string xn,.string ⟨#[]⟩,.string ⟨#[]⟩,.int .i64 0] 60));refine⟨_,.slice (some ⟨X1.heap.size,0,none⟩) 1 1,X1.alloc (.cells #[.int .i64 5,.int .i64 0,.string xn,.string ⟨#[]⟩,.string ⟨#[]⟩,.int .i64 0] 60),rfl,rfl,by simp [go_sem],⟨(((G1.out.trans G2.out).cell (p:=⟨b,off+j*3,none⟩) HQ.out.1).trans c0),(((G1.out.trans G2.out).cell (p:=⟨b,off+j*3+2,none⟩) HQ.out.1).trans c2)⟩,?_⟩
     refine z14 (by simp [go_sem]; exact rfl) ?_;generalize X1.alloc (.cells #[.int .i64 5,.int .i64 0,.string xn,.string ⟨#[]⟩,.string ⟨#[]⟩,.int .i64 0] 60)=X2 at*;refine z16 (i:=17) (f:=70) (args:= #[.pointer (some ⟨d.G,0,none⟩),.int .i64 xr,.slice (some ⟨b,off,none⟩) L cp,.slice adm ms.length cpm,.int .i64 deep]) rfl (by kernel_rfl) rfl rfl (by simp [go_sem]) ?_;refine (A2.out.nodes (HO.out deep xr _ _ _ _ _ _ (by have:=HD.out; omega) (by have:=HD.out; omega) (A2.out.fit HF.out 10 (by omega)) A2.out.1 (HE.out.grew (G1.out.trans G2.out)).down)).mono ?_;rintro e X3 ⟨v3,n3,s3,t3,rfl,hn3,hl3,ha,hg⟩
     have A3:=hid ha;have G3:=hid hg;clear ha hg;have N3:=hid (And.intro hn3 hl3);obtain⟨ad3,cp3,rfl⟩:=hn3.is;clear hn3 hl3;refine⟨_,rfl,⟨(((G1.out.trans (G2.out.trans G3.out)).cell (p:=⟨b,off+j*3,none⟩) HQ.out.1).trans c0),(((G1.out.trans (G2.out.trans G3.out)).cell (p:=⟨b,off+j*3+2,none⟩) HQ.out.1).trans c2)⟩,?_⟩;refine z14 (by simp [go_sem]; exact rfl) ?_
     have KV : Hid (KidsV d (X3.alloc (.cells #[.slice (some ⟨X1.heap.size,0,none⟩) 1 1,.slice ad3 n3.length cp3] 24)) (.slice (some ⟨X3.heap.size,0,none⟩) 2 2) [(.slice (some ⟨X1.heap.size,0,none⟩) 1 1,[(⟨5,0,xn,ByteArray.empty,ByteArray.empty,0⟩ : Nd)]),(.slice ad3 n3.length cp3,n3)]):=(z52 [(.slice (some ⟨X1.heap.size,0,none⟩) 1 1,[(⟨5,0,xn,ByteArray.empty,ByteArray.empty,0⟩ : Nd)]),(.slice ad3 n3.length cp3,n3)] _ rfl A3.out.1.ltB A3.out.1.ltG (fun x hx=>by simp at hx; rcases hx with rfl | rfl; exact (NL.out.1.grew G3.out); exact N3.out.1))
     have A4:=hid (A3.out.alloc (.cells #[.slice (some ⟨X1.heap.size,0,none⟩) 1 1,.slice ad3 n3.length cp3] 24));have G4:=hid ((Grew.refl d X3).alloc (.cells #[.slice (some ⟨X1.heap.size,0,none⟩) 1 1,.slice ad3 n3.length cp3] 24))
     refine z25 (i:=18) (v:= .slice (some ⟨X3.heap.size,0,none⟩) 2 2) (w1:=X3.alloc (.cells #[.slice (some ⟨X1.heap.size,0,none⟩) 1 1,.slice ad3 n3.length cp3] 24)) rfl (by kernel_rfl) rfl rfl (by simp [go_sem]) ⟨(((G1.out.trans (G2.out.trans (G3.out.trans G4.out))).cell (p:=⟨b,off+j*3,none⟩) HQ.out.1).trans c0),(((G1.out.trans (G2.out.trans (G3.out.trans G4.out))).cell (p:=⟨b,off+j*3+2,none⟩) HQ.out.1).trans c2)⟩ (by simp [go_sem]; exact rfl) ?_;generalize X3.alloc (.cells #[.slice (some ⟨X1.heap.size,0,none⟩) 1 1,.slice ad3 n3.length cp3] 24)=X4 at*
     refine z16 (i:=19) (f:=67) (args:= #[.agg #[.int .i64 7,.int .i64 0,.string ⟨#[]⟩,.string ⟨#[]⟩,.string ⟨#[]⟩,.int .i64 0],.slice (some ⟨X3.heap.size,0,none⟩) 2 2]) rfl (by kernel_rfl) rfl rfl (by simp [go_sem]) ?_;refine (A4.out.put_kids 7 0 0 ⟨#[]⟩ ⟨#[]⟩ ⟨#[]⟩ KV.out ⟨z11,z11,z11⟩ (by simp) (by have:=A4.out.bound HF.out (by omega) (by decide); have:=N3.out.2; simp [flatL]; omega)).mono ?_;rintro e X5 ⟨v5,n5,rfl,hn5,hl5,ha,hg⟩;have A5:=hid ha;have G5:=hid hg;clear ha hg;have N5:=hid (And.intro hn5 hl5);obtain⟨ad5,cp5,rfl⟩:=hn5.is;clear hn5 hl5
     refine⟨_,rfl,⟨(((G1.out.trans (G2.out.trans (G3.out.trans (G4.out.trans G5.out)))).cell (p:=⟨b,off+j*3,none⟩) HQ.out.1).trans c0),(((G1.out.trans (G2.out.trans (G3.out.trans (G4.out.trans G5.out)))).cell (p:=⟨b,off+j*3+2,none⟩) HQ.out.1).trans c2)⟩,?_⟩;refine z14 (by simp [go_sem]; exact rfl) ?_;refine pick_o 20 (.slice ad5 n5.length cp5) ⟨(((G1.out.trans (G2.out.trans (G3.out.trans (G4.out.trans G5.out)))).cell (p:=⟨b,off+j*3,none⟩) HQ.out.1).trans c0),(((G1.out.trans (G2.out.trans (G3.out.trans (G4.out.trans G5.out)))).cell (p:=⟨b,off+j*3+2,none⟩) HQ.out.1).trans c2)⟩ ?_
     refine z24 (by kernel_rfl) ?_;go_wp2_with fail
     go_ret;exact A5.out.done0 5 N5.out.1 (by have:=N5.out.2; have:=N3.out.2; simp [flatL] at *; omega) (by omega)
    ·refine⟨_,70,#[.pointer (some ⟨d.G,0,none⟩),.int .i64 xr,.slice (some ⟨b,off,none⟩) L cp,.slice adm ms.length cpm,.int .i64 deep],rfl,rfl,by simp [go_sem],?_⟩;refine (A1.out.nodes (HO.out deep xr _ _ _ _ _ _ (by have:=HD.out; omega) (by have:=HD.out; omega) (A1.out.fit HF.out 10 (by omega)) A1.out.1 (HE.out.grew G1.out).down)).mono ?_;rintro e X2 ⟨v2,n2,s2,t2,rfl,hn2,hl2,ha,hg⟩;have A2:=hid ha;have G2:=hid hg;clear ha hg;have N2:=hid (And.intro hn2 hl2);obtain⟨ad2,cp2,rfl⟩:=hn2.is;clear hn2 hl2
     refine⟨_,rfl,⟨(((G1.out.trans G2.out).cell (p:=⟨b,off+j*3,none⟩) HQ.out.1).trans c0),(((G1.out.trans G2.out).cell (p:=⟨b,off+j*3+2,none⟩) HQ.out.1).trans c2)⟩,?_⟩;refine z14 (by simp [go_sem]; exact rfl) ?_;have NL : Hid (NodesD d (X2.alloc (.cells #[.int .i64 5,.int .i64 0,.string xn,.string ⟨#[]⟩,.string ⟨#[]⟩,.int .i64 0] 60)) (.slice (some ⟨X2.heap.size,0,none⟩) 1 1) [⟨5,0,xn,ByteArray.empty,ByteArray.empty,0⟩]∧ [(⟨5,0,xn,ByteArray.empty,ByteArray.empty,0⟩ : Nd)].length=1):=⟨nd_lit (d:=d) X2 ⟨5,0,xn,ByteArray.empty,ByteArray.empty,0⟩ A2.out.1.ltB A2.out.1.ltG ⟨HQ.out.2,z11,z11⟩,rfl⟩
     have A3:=hid (A2.out.alloc (.cells #[.int .i64 5,.int .i64 0,.string xn,.string ⟨#[]⟩,.string ⟨#[]⟩,.int .i64 0] 60));have G3:=hid ((Grew.refl d X2).alloc (.cells #[.int .i64 5,.int .i64 0,.string xn,.string ⟨#[]⟩,.string ⟨#[]⟩,.int .i64 0] 60))
     refine z25 (i:=7) (v:= .slice (some ⟨X2.heap.size,0,none⟩) 1 1) (w1:=X2.alloc (.cells #[.int .i64 5,.int .i64 0,.string xn,.string ⟨#[]⟩,.string ⟨#[]⟩,.int .i64 0] 60)) rfl (by kernel_rfl) rfl rfl (by simp [go_sem]) ⟨(((G1.out.trans (G2.out.trans G3.out)).cell (p:=⟨b,off+j*3,none⟩) HQ.out.1).trans c0),(((G1.out.trans (G2.out.trans G3.out)).cell (p:=⟨b,off+j*3+2,none⟩) HQ.out.1).trans c2)⟩ (by simp [go_sem]; exact rfl) ?_;generalize X2.alloc (.cells #[.int .i64 5,.int .i64 0,.string xn,.string ⟨#[]⟩,.string ⟨#[]⟩,.int .i64 0] 60)=X3 at*
     have KV : Hid (KidsV d (X3.alloc (.cells #[.slice (some ⟨X2.heap.size,0,none⟩) 1 1,.slice ad2 n2.length cp2] 24)) (.slice (some ⟨X3.heap.size,0,none⟩) 2 2) [(.slice (some ⟨X2.heap.size,0,none⟩) 1 1,[(⟨5,0,xn,ByteArray.empty,ByteArray.empty,0⟩ : Nd)]),(.slice ad2 n2.length cp2,n2)]):=(z52 [(.slice (some ⟨X2.heap.size,0,none⟩) 1 1,[(⟨5,0,xn,ByteArray.empty,ByteArray.empty,0⟩ : Nd)]),(.slice ad2 n2.length cp2,n2)] _ rfl A3.out.1.ltB A3.out.1.ltG (fun x hx=>by simp at hx; rcases hx with rfl | rfl; exact NL.out.1; exact (N2.out.1.grew G3.out)))
     have A4:=hid (A3.out.alloc (.cells #[.slice (some ⟨X2.heap.size,0,none⟩) 1 1,.slice ad2 n2.length cp2] 24));have G4:=hid ((Grew.refl d X3).alloc (.cells #[.slice (some ⟨X2.heap.size,0,none⟩) 1 1,.slice ad2 n2.length cp2] 24))
     refine z25 (i:=18) (v:= .slice (some ⟨X3.heap.size,0,none⟩) 2 2) (w1:=X3.alloc (.cells #[.slice (some ⟨X2.heap.size,0,none⟩) 1 1,.slice ad2 n2.length cp2] 24)) rfl (by kernel_rfl) rfl rfl (by simp [go_sem]) ⟨(((G1.out.trans (G2.out.trans (G3.out.trans G4.out))).cell (p:=⟨b,off+j*3,none⟩) HQ.out.1).trans c0),(((G1.out.trans (G2.out.trans (G3.out.trans G4.out))).cell (p:=⟨b,off+j*3+2,none⟩) HQ.out.1).trans c2)⟩ (by simp [go_sem]; exact rfl) ?_;generalize X3.alloc (.cells #[.slice (some ⟨X2.heap.size,0,none⟩) 1 1,.slice ad2 n2.length cp2] 24)=X4 at*
     refine z16 (i:=19) (f:=67) (args:= #[.agg #[.int .i64 7,.int .i64 0,.string ⟨#[]⟩,.string ⟨#[]⟩,.string ⟨#[]⟩,.int .i64 0],.slice (some ⟨X3.heap.size,0,none⟩) 2 2]) rfl (by kernel_rfl) rfl rfl (by simp [go_sem]) ?_;refine (A4.out.put_kids 7 0 0 ⟨#[]⟩ ⟨#[]⟩ ⟨#[]⟩ KV.out ⟨z11,z11,z11⟩ (by simp) (by have:=A4.out.bound HF.out (by omega) (by decide); have:=N2.out.2; simp [flatL]; omega)).mono ?_;rintro e X5 ⟨v5,n5,rfl,hn5,hl5,ha,hg⟩;have A5:=hid ha;have G5:=hid hg;clear ha hg;have N5:=hid (And.intro hn5 hl5);obtain⟨ad5,cp5,rfl⟩:=hn5.is;clear hn5 hl5
     refine⟨_,rfl,⟨(((G1.out.trans (G2.out.trans (G3.out.trans (G4.out.trans G5.out)))).cell (p:=⟨b,off+j*3,none⟩) HQ.out.1).trans c0),(((G1.out.trans (G2.out.trans (G3.out.trans (G4.out.trans G5.out)))).cell (p:=⟨b,off+j*3+2,none⟩) HQ.out.1).trans c2)⟩,?_⟩;refine z14 (by simp [go_sem]; exact rfl) ?_;refine pick_o 20 (.slice ad5 n5.length cp5) ⟨(((G1.out.trans (G2.out.trans (G3.out.trans (G4.out.trans G5.out)))).cell (p:=⟨b,off+j*3,none⟩) HQ.out.1).trans c0),(((G1.out.trans (G2.out.trans (G3.out.trans (G4.out.trans G5.out)))).cell (p:=⟨b,off+j*3+2,none⟩) HQ.out.1).trans c2)⟩ ?_
     refine z24 (by kernel_rfl) ?_;go_wp2_with fail
     go_ret;exact A5.out.done0 5 N5.out.1 (by have:=N5.out.2; have:=N2.out.2; simp [flatL] at *; omega) (by omega)
   ·have hty' : (xt==wrap64 (10+ty))=false:=by simpa using hty
    clear hty;go_wp2_with fail
    rw [HW.out];exact⟨⟨j,rfl,by omega,by first | rfl | trivial⟩,hstep⟩
end
end Go.Proofs.YtfbojelpdccjaaaGreatDoor
