import Derived.Test.YtbbffkiobmbkfaaGreatDoorPkV25
open Go.Proofs.Tryz
open Go.Value Go.IntKind
set_option maxHeartbeats 8000000
set_option maxRecDepth 100000
namespace Go.Proofs.YtbbffkiobmbkfaaGreatDoor
open Go.RowKit Go.Deep
variable {s:Cn}{d:Dr}{G:Nat}{v ve:Value}{W W':World}
section
open Go.RowKit Go.Deep
def HanC (d:Dr) (ve:Value) (es:List Ef) (D:Nat):Prop:=
 ∀(ty deep:Int) (v vm:Value) (ks:List Kn) (ms:List Bool) (X:World) (s:Cn),deep<=D-> -90<=deep->Gen d ve X s->Fit s 250->Env d ve es X v ks vm ms (D+1)->
  Calls prog 123 #[.pointer (some ⟨d.G,0,none⟩),int i64 ty,v,vm,int i64 deep] X (NodesPost d ve X s 250)
theorem of_post {X:World}{s1:Cn}{e:Ending}{Y:World}{c:Nat}(hg:Grew d W X) (e1:s1.p=s.p) (e2:s1.next=s.next) (e3:s1.left=s.left-1) (h:NodesPost d ve X s1 c e Y) (hc:c<=9\/(0<s.left/\c<=300)):NodesPost d ve W s 10 e Y:=by
 obtain⟨v,ns,s',t,h1,h2,h3,h4,h5,h6⟩:=h;refine⟨v,ns,s',t+1,h1,h2,ya,h4,hg.trans h5,?_⟩;unfold Spent at h6 |-;omega
theorem of_fit {s1:Cn}(hf:Fit s 10) (e1:s1.p=s.p) (e2:s1.next=s.next) (e3:s1.left=s.left-1):Fit s1 9/\(0<s.left->Fit s1 300):=by
 unfold Fit at hf |-;omega
theorem leaf5n {ks:List Kn}(ty:Int) (h1:ty≠1) (h2:ty≠2) (h3:ty≠3) (h4:ty≠4) (h:Gen d ve W s) (hf:Fit s 9) (hk:KnowsD d W v ks) (hl:ks.length<=998) :
 Calls prog 119 #[.pointer (some ⟨d.G,0,none⟩),int i64 ty,v] W (NodesPost d ve W s 9):=by
 have HF:=U hf;have A0:=U (At.start h);have HKn:=U hk;have HKl:=U hl;have HK:=U (A0.o.nodes0 (gknown_calls ty h gy hk ya));obtain⟨ad,cp,rfl⟩:=hk.is;clear hk hl h hf;have e1:(ty==1)=false:=by simp[h1]
 have e2:(ty==2)=false:=by simp[h2]
 have e3:(ty==3)=false:=by simp[h3]
 have e4:(ty==4)=false:=by simp[h4]
 clear h1 h2 h3 h4;go_enter func119,ntmps119
 go_wp2_with fail
 refine zb14 ?_;unhygienic intros
 clear HK A0;by_cases hz:l1=0
 .subst hz;go_wp2_with fail
  refine(A1.o.name HF.o ya).mono ?_;refine zb58 ?_;intro X2 x2 s2 G2 A2 B2;go_wp2_with fail
  refine(A2.o.add x2 1 0 (HKn.o.grew (G1.o.trans G2.o)) B2.o ki).mono ?_;rintro e X3 ⟨u3,ks3,rfl,hk3,hkl3,ha,(G3:O _)⟩;have A3:=U ha;clear ha;have K3:=U (Lc hk3 hkl3);clear hk3 hkl3;go_wp2_with fail
  refine nE (A3.o.nodes (leaf1 1 rfl A3.o.1 (A3.o.fit HF.o 4 ya) K3.o.1 ni)) fun X4 ad4 cp4 n4 s4 t4 N4 A4 G4=>?_
  go_wp2_with fail
  refine vE (A4.o.put1 6 0 0 x2 ByteArray.empty ByteArray.empty N4.o.1 ⟨B2.o,z14,z14⟩ nj) fun X5 ad5 cp5 n5 N5 A5 G5=>?_
  go_wp2_with fail
  go_ret;exact A5.o.done 1 N5.o.1 nk ya
 .have hz':(0:Int)<(l1:Int):=by omega
  have g0:=A1.o.1.c0;go_wp2_with fail
  refine zb51 ?_;intro X2 m2 s2 hm2 hM2 G2 A2;clear g0;by_cases hm:0<m2
  .go_wp2_with fail
   go_ret;exact A2.o.done 0 (N1.o.1.grew G2.o) na ya
  .have hm0:m2=0:=by omega
   subst hm0;go_wp2_with fail
   refine zb45 ?_;intro X3 x3 s3 G3 A3 B3;go_wp2_with fail
   refine(A3.o.add x3 1 0 (HKn.o.grew (G1.o.trans (G2.o.trans G3.o))) B3.o ki).mono ?_;rintro e X4 ⟨u4,ks4,rfl,hk4,hkl4,ha,(G4:O _)⟩;have A4:=U ha;clear ha;have K4:=U (Lc hk4 hkl4);clear hk4 hkl4;go_wp2_with fail
   refine nE (A4.o.nodes (leaf1 1 rfl A4.o.1 (A4.o.fit HF.o 4 ya) K4.o.1 nn)) fun X5 ad5 cp5 n5 s5 t5 N5 A5 G5=>?_
   go_wp2_with fail
   refine vE (A5.o.put1 6 0 0 x3 ByteArray.empty ByteArray.empty N5.o.1 ⟨B3.o,z14,z14⟩ zn) fun X6 ad6 cp6 n6 N6 A6 G6=>?_
   go_wp2_with fail
   go_ret;exact A6.o.done 1 N6.o.1 nr ya
theorem leaf_nine {ks:List Kn}(ty:Int) (h:Gen d ve W s) (hf:Fit s 9) (hk:KnowsD d W v ks) (hl:ks.length<=998) :
 Calls prog 119 #[.pointer (some ⟨d.G,0,none⟩),int i64 ty,v] W (NodesPost d ve W s 9):=by
 by_cases h1:ty=1
 .exact(leaf1 ty h1 h (hf.mono ya) hk ya).mono fun e W' h=>h.mono ya
 by_cases h2:ty=2
 .exact(leaf2 ty h2 h (hf.mono ya) hk ya).mono fun e W' h=>h.mono ya
 by_cases h3:ty=3
 .exact(leaf3 ty h3 h (hf.mono ya) hk ya).mono fun e W' h=>h.mono ya
 by_cases h4:ty=4
 .exact(leaf4 ty h4 h (hf.mono ya) hk ya).mono fun e W' h=>h.mono ya
 exact leaf5n ty h1 h2 h3 h4 h hf hk hl
theorem of_step {es:List Ef}{D:Nat}(hD:D<=90) (hO:OfC d ve es D) (hH:HanC d ve es D):OfC d ve es (D+1):=by
 intro deep ty v vm ks ms W s h1 h2 hf h hE;have HO:=U hO;have HH:=U hH;have hl:=h.setLeft (s.left-1);have f2:=h.f2;have c2:=h.c2;have HF0:=U hf;have HW:O (wrap64 (s.left-1)=s.left-1):=yav;have HD0:=U (Lc h1 (Lc h2 hD));obtain⟨ad,cp,rfl⟩:=hE.know.is;obtain⟨adm,cpm,rfl⟩:=hE.may.is;obtain⟨X,hX⟩:∃X,W.setCell ⟨d.G,2,none⟩ (int i64 (s.left-1))=X:=⟨_,rfl⟩
 rw[hX]at hl;have HX:=U hX;obtain⟨s1,hs1⟩:∃s1:Cn,{ s with left:=s.left-1 }= s1:=⟨_,rfl⟩
 rw[hs1]at hl;refine zb6 ?_;unhygienic intros
 clear hO hH hl hf h hE hX hs1 e1 e2 e3 hL;go_enter func83,ntmps83
 go_upto_region 2 with fail
 try rw[HW.o]
 rw[HX.o];clear c2 f2 HW HX;have HLF:=U (leaf_nine ty A0.o.1 HFF.o.1 HE.o.know nu);by_cases hd:deep<=1
 .go_wp2_with fail
  refine zb73 ?_;intro Xl vl nl sl tl NL;go_wp2_with fail
  go_ret;exact HP.o 9 _ _ ⟨vl,nl,sl,tl,rfl,NL.o.1,NL.o.2.1,NL.o.2.2.1,NL.o.2.2.2.1,NL.o.2.2.2.2⟩ (Or.inl ya)
 .by_cases hl0:L<=0
  .go_wp2_with fail
   refine zb73 ?_;intro Xl vl nl sl tl NL;go_wp2_with fail
   go_ret;exact HP.o 9 _ _ ⟨vl,nl,sl,tl,rfl,NL.o.1,NL.o.2.1,NL.o.2.2.1,NL.o.2.2.2.1,NL.o.2.2.2.2⟩ (Or.inl ya)
  .have HPos:O (0<s.left):=by show _<_;have:=HLe.o;omega
   have HF:=U (HFF.o.2 HPos.o);have HD:=U (Lc (show deep-1<=(D:Int) by have:=HD0.o.1;omega) (Lc (show -90<=deep-1 by omega) (show D<=100 by omega)));have hdu:deep<=1000:=by have:=HD0.o;omega
   go_wp2_with fail
   refine(A0.o.pick HF.o ya 9 yk).mono ?_;rintro e X1 ⟨m1,s51,rfl,hm1,hM1,ha,(G1:O _)⟩;have A1:=U ha;clear ha;by_cases h9:m1=0
   .subst h9;have HL3:=U (A1.o.nodes (leaf_calls ty A1.o.1 (A1.o.fit HF.o 10 ya) (HE.o.grew G1.o).know nu));go_wp2_with fail
    refine HL3.o.mono ?_;rintro e X2 ⟨v2,n2,s2,t2,rfl,hn2,hl2,ha,(G2:O _)⟩;have A2:=U ha;clear ha;have N2:=U (Lc hn2 hl2);clear hn2 hl2;go_wp2_with fail
    go_ret;exact HP.o 300 _ _ (A2.o.done 0 N2.o.1 ng ya) (Or.inr ⟨HPos.o,ya⟩)
   .have z9:(m1==0)=false:=by simp[h9]
    have g0:=A1.o.1.c0;go_wp2_with fail
    refine(A1.o.pick HF.o ya 11 yk).mono ?_;rintro e X2 ⟨m2,s2,rfl,hm2,hM2,ha,(G2:O _)⟩;have A2:=U ha;clear ha;clear g0;have hcs:m2=0\/m2=1\/m2=2\/m2=3\/m2=4\/m2=5\/m2=6\/m2=7\/m2=8\/m2=9\/m2=10:=ya;rcases hcs with rfl|rfl|rfl|rfl|rfl|rfl|rfl|rfl|rfl|rfl|rfl
    .go_wp2_with fail
     refine nE (A2.o.nodes (HO.o (deep-1) 2 _ _ _ _ _ _ nw nw (A2.o.fit HF.o 10 ya) A2.o.1 (HE.o.grew (G1.o.trans G2.o)).down)) fun X3 ad3 cp3 n3 s3 t3 N3 A3 G3=>?_
     go_wp2_with fail
     refine nE (A3.o.nodes (HO.o (deep-1) ty _ _ _ _ _ _ nw nw (A3.o.fit HF.o 10 ya) A3.o.1 (HE.o.grew (G1.o.trans (G2.o.trans G3.o))).down)) fun X4 ad4 cp4 n4 s4 t4 N4 A4 G4=>?_
     go_wp2_with fail
     refine nE (A4.o.nodes (HO.o (deep-1) ty _ _ _ _ _ _ nw nw (A4.o.fit HF.o 10 ya) A4.o.1 (HE.o.grew (G1.o.trans (G2.o.trans (G3.o.trans G4.o)))).down)) fun X5 ad5 cp5 n5 s5 t5 N5 A5 G5=>?_
     go_wp2_with fail
     refine vE (A5.o.put3 10 0 0 ByteArray.empty ByteArray.empty ByteArray.empty (N3.o.1.grew (G4.o.trans G5.o)) (N4.o.1.grew G5.o) N5.o.1 ⟨z14,z14,z14⟩ (by have:=A5.o.bound HF.o ya yk;have:=N3.o.2;have:=N4.o.2;have:=N5.o.2;omega)) fun X6 ad6 cp6 n6 N6 A6 G6=>?_
     go_wp2_with fail
     go_ret;exact HP.o 300 _ _ (A6.o.done 1 N6.o.1 (by have:=N6.o.2;have:=N3.o.2;have:=N4.o.2;have:=N5.o.2;omega) ya) (Or.inr ⟨HPos.o,ya⟩)
    .go_wp2_with fail
     refine zb45 ?_;intro X3 x3 s3 G3 A3 B3;have g0:=A3.o.1.c0;go_wp2_with fail
     refine(A3.o.pick HF.o ya 5 yk).mono ?_;rintro e X4 ⟨m4,s4,rfl,hm4,hM4,ha,(G4:O _)⟩;have A4:=U ha;clear ha;clear g0;go_wp2_with fail
     refine nE (A4.o.nodes (HO.o (deep-1) (1+m4) _ _ _ _ _ _ nw nw (A4.o.fit HF.o 10 ya) A4.o.1 (HE.o.grew (G1.o.trans (G2.o.trans (G3.o.trans G4.o)))).down)) fun X5 ad5 cp5 n5 s5 t5 N5 A5 G5=>?_
     go_wp2_with fail
     refine(A5.o.add x3 (1+m4) 0 (HE.o.grew (G1.o.trans (G2.o.trans (G3.o.trans (G4.o.trans G5.o))))).know B3.o nu).mono ?_;rintro e X6 ⟨u6,ks6,rfl,hk6,hkl6,ha,(G6:O _)⟩;have A6:=U ha;clear ha;have K6:=U (Lc hk6 hkl6);obtain⟨ad6,cp6,rfl⟩:=hk6.is;clear hk6 hkl6;go_wp2_with fail
     refine nE (A6.o.nodes (HO.o (deep-1) ty _ _ _ _ _ _ nw nw (A6.o.fit HF.o 10 ya) A6.o.1 ((HE.o.grew (G1.o.trans (G2.o.trans (G3.o.trans (G4.o.trans (G5.o.trans G6.o)))))).with K6.o.1 (by have:=K6.o.2;omega)))) fun X7 ad7 cp7 n7 s7 t7 N7 A7 G7=>?_
     go_wp2_with fail
     refine vE (A7.o.put2 8 0 0 x3 ByteArray.empty ByteArray.empty (N5.o.1.grew (G6.o.trans G7.o)) N7.o.1 ⟨B3.o,z14,z14⟩ (by have:=A7.o.bound HF.o ya yk;have:=N5.o.2;have:=N7.o.2;omega)) fun X8 ad8 cp8 n8 N8 A8 G8=>?_
     go_wp2_with fail
     go_ret;exact HP.o 300 _ _ (A8.o.done 1 N8.o.1 (by have:=N8.o.2;have:=N5.o.2;have:=N7.o.2;omega) ya) (Or.inr ⟨HPos.o,ya⟩)
    .go_wp2_with fail
     refine zb45 ?_;intro X3 x3 s3 G3 A3 B3;go_wp2_with fail
     refine(A3.o.name HF.o ya).mono ?_;rintro e X4 ⟨x4,s4,rfl,hb4,ha,(G4:O _)⟩;have A4:=U ha;clear ha;have B4:=U hb4;clear hb4;go_wp2_with fail
     refine nE (A4.o.nodes (HO.o (deep-1) 4 _ _ _ _ _ _ nw nw (A4.o.fit HF.o 10 ya) A4.o.1 (HE.o.grew (G1.o.trans (G2.o.trans (G3.o.trans G4.o)))).down)) fun X5 ad5 cp5 n5 s5 t5 N5 A5 G5=>?_
     go_wp2_with fail
     refine nE (A5.o.nodes (HO.o (deep-1) ty _ _ _ _ _ _ nw nw (A5.o.fit HF.o 10 ya) A5.o.1 (HE.o.grew (G1.o.trans (G2.o.trans (G3.o.trans (G4.o.trans G5.o))))).down)) fun X6 ad6 cp6 n6 s6 t6 N6 A6 G6=>?_
     go_wp2_with fail
     refine(A6.o.add x3 1 0 (HE.o.grew (G1.o.trans (G2.o.trans (G3.o.trans (G4.o.trans (G5.o.trans G6.o)))))).know B3.o nu).mono ?_;rintro e X7 ⟨u7,ks7,rfl,hk7,hkl7,ha,(G7:O _)⟩;have A7:=U ha;clear ha;have K7:=U (Lc hk7 hkl7);obtain⟨ad7,cp7,rfl⟩:=hk7.is;clear hk7 hkl7;go_wp2_with fail
     refine(A7.o.add x4 4 0 K7.o.1 B4.o (by have:=HE.o.room;have:=K7.o.2;omega)).mono ?_;rintro e X8 ⟨u8,ks8,rfl,hk8,hkl8,ha,(G8:O _)⟩;have A8:=U ha;clear ha;have K8:=U (Lc hk8 hkl8);obtain⟨ad8,cp8,rfl⟩:=hk8.is;clear hk8 hkl8;go_wp2_with fail
     refine nE (A8.o.nodes (HO.o (deep-1) ty _ _ _ _ _ _ nw nw (A8.o.fit HF.o 10 ya) A8.o.1 ((HE.o.grew (G1.o.trans (G2.o.trans (G3.o.trans (G4.o.trans (G5.o.trans (G6.o.trans (G7.o.trans G8.o)))))))).with K8.o.1 (by have:=K7.o.2;have:=K8.o.2;omega)))) fun X9 ad9 cp9 n9 s9 t9 N9 A9 G9=>?_
     go_wp2_with fail
     refine vE (A9.o.put3 20 0 0 x3 x4 ByteArray.empty (N5.o.1.grew (G6.o.trans (G7.o.trans (G8.o.trans G9.o)))) (N6.o.1.grew (G7.o.trans (G8.o.trans G9.o))) N9.o.1 ⟨B3.o,B4.o,z14⟩ (by have:=A9.o.bound HF.o ya yk;have:=N5.o.2;have:=N6.o.2;have:=N9.o.2;omega)) fun X10 ad10 cp10 n10 N10 A10 G10=>?_
     go_wp2_with fail
     go_ret;exact HP.o 300 _ _ (A10.o.done 1 N10.o.1 (by have:=N10.o.2;have:=N5.o.2;have:=N6.o.2;have:=N9.o.2;omega) ya) (Or.inr ⟨HPos.o,ya⟩)
    .go_wp2_with fail
     refine nE (A2.o.nodes (HH.o ty (deep-1) _ _ _ _ _ _ nw nw A2.o.1 (A2.o.fit HF.o 250 ya) (HE.o.grew (G1.o.trans G2.o)))) fun X3 ad3 cp3 n3 s3 t3 N3 A3 G3=>?_
     go_wp2_with fail
     go_ret;exact HP.o 300 _ _ (A3.o.done 0 N3.o.1 gz ya) (Or.inr ⟨HPos.o,ya⟩)
    .go_wp2_with fail
     refine nE (A2.o.nodes (HH.o ty (deep-1) _ _ _ _ _ _ nw nw A2.o.1 (A2.o.fit HF.o 250 ya) (HE.o.grew (G1.o.trans G2.o)))) fun X3 ad3 cp3 n3 s3 t3 N3 A3 G3=>?_
     go_wp2_with fail
     go_ret;exact HP.o 300 _ _ (A3.o.done 0 N3.o.1 gz ya) (Or.inr ⟨HPos.o,ya⟩)
    .go_wp2_with fail
     refine nE (A2.o.nodes0 (cont_calls ty (deep-1) HO.o nw nw nw A2.o.1 (A2.o.fit HF.o 30 ya) (HE.o.grew (G1.o.trans G2.o)))) fun X3 ad3 cp3 n3 s3 t3 N3 A3 G3=>?_
     by_cases hz:n3.length=0
     .rw[hz];go_wp2_with fail
      refine nE (A3.o.nodes (gown_calls ty (deep-1) HO.o nw nw nw A3.o.1 (A3.o.fit HF.o 100 ya) (HE.o.grew (G1.o.trans (G2.o.trans G3.o))))) fun X4 ad4 cp4 n4 s4 t4 N4 A4 G4=>?_
      go_wp2_with fail
      go_ret;exact HP.o 300 _ _ (A4.o.done 0 N4.o.1 nc ya) (Or.inr ⟨HPos.o,ya⟩)
     .have hz':(0:Int)<(n3.length:Int):=by omega
      go_wp2_with fail
      go_ret;exact HP.o 300 _ _ (A3.o.done 0 N3.o.1 gz ya) (Or.inr ⟨HPos.o,ya⟩)
    .go_wp2_with fail
     refine nE (A2.o.nodes0 (perform_calls ty (deep-1) HO.o nw nw nw A2.o.1 (A2.o.fit HF.o 30 ya) (HE.o.grew (G1.o.trans G2.o)))) fun X3 ad3 cp3 n3 s3 t3 N3 A3 G3=>?_
     by_cases hz:n3.length=0
     .rw[hz];go_wp2_with fail
      refine nE (A3.o.nodes (gown_calls ty (deep-1) HO.o nw nw nw A3.o.1 (A3.o.fit HF.o 100 ya) (HE.o.grew (G1.o.trans (G2.o.trans G3.o))))) fun X4 ad4 cp4 n4 s4 t4 N4 A4 G4=>?_
      go_wp2_with fail
      go_ret;exact HP.o 300 _ _ (A4.o.done 0 N4.o.1 nc ya) (Or.inr ⟨HPos.o,ya⟩)
     .have hz':(0:Int)<(n3.length:Int):=by omega
      go_wp2_with fail
      go_ret;exact HP.o 300 _ _ (A3.o.done 0 N3.o.1 gz ya) (Or.inr ⟨HPos.o,ya⟩)
    .have g0:=A2.o.1.c0;go_wp2_with fail
     refine zb71 ?_;intro X3 m3 s3 hm3 hM3 G3 A3;clear g0;by_cases h7:m3=0
     .subst h7;go_upto_region 29 with fail
      refine z31 (S:=fun w'=> w'.cell? ⟨d.G,0,none⟩=some (.pointer (some ⟨d.B,0,none⟩))) ye rfl rfl ?_;have A4:=U A3.o.drew;have G4:=U (Grew.refl d X3).drew;generalize X3.drew=X4 at*;refine pick_o 0 (.agg #[int i64 17,int i64 0,.string ⟨#[]⟩,.string ⟨#[]⟩,.string ⟨#[]⟩,int i64 0]) (A4.o.1.c0) ?_;refine pick_o 1 (.agg #[int i64 16,int i64 0,.string ⟨#[]⟩,.string ⟨#[]⟩,.string ⟨#[]⟩,int i64 0]) (A4.o.1.c0) ?_;refine pick_o 2 (.pointer (some ⟨d.G,0,none⟩)) (A4.o.1.c0) ?_;refine pick_o 3 (int i64 ty) (A4.o.1.c0) ?_;refine pick_o 4 (.slice ad ks.length cp) (A4.o.1.c0) ?_
      refine pick_o 5 (.slice adm ms.length cpm) (A4.o.1.c0) ?_;refine pick_o 6 (int i64 (deep-1)) (A4.o.1.c0) ?_;refine pick_o 8 (.pointer (some ⟨d.G,0,none⟩)) (A4.o.1.c0) ?_;refine pick_o 9 (.pointer (some ⟨d.G,0,none⟩)) (A4.o.1.c0) ?_;refine pick_o 10 (.pointer (some ⟨d.G,0,none⟩)) (A4.o.1.c0) ?_;refine pick_o 11 (.pointer (some ⟨d.G,0,none⟩)) (A4.o.1.c0) ?_;refine pick_o (hy:=fun w' hw=>ut) 12 (.pointer (some ⟨d.B,0,none⟩)) (A4.o.1.c0) ?_;refine pick_o 15 (.slice ad ks.length cp) (A4.o.1.c0) ?_
      refine z26 (i:=7) (f:=83) (args:= #[.pointer (some ⟨d.G,0,none⟩),int i64 ty,.slice ad ks.length cp,.slice adm ms.length cpm,int i64 (deep-1)]) rfl ye rfl rfl yf ?_;refine nE (A4.o.nodes (HO.o (deep-1) ty _ _ _ _ _ _ nw nw (A4.o.fit HF.o 10 ya) A4.o.1 (HE.o.grew (G1.o.trans (G2.o.trans (G3.o.trans G4.o)))).down)) fun X5 ad5 cp5 n5 s5 t5 N5 A5 G5=>?_
      refine⟨_,rfl,(A5.o.1.c0),?_⟩;refine z25 yg ?_;refine z26 (i:=13) (f:=35) (args:= #[.pointer (some ⟨d.B,0,none⟩),int i64 4]) rfl ye rfl rfl yf ?_;refine(A5.o.pick HF.o ya 4 yk).mono ?_;rintro e X6 ⟨m6,s6,rfl,hm6,hM6,ha,(G6:O _)⟩;have A6:=U ha;clear ha;refine⟨_,rfl,(A6.o.1.c0),?_⟩;refine z25 yg ?_;have hwr:IntKind.i64.wrap (1+m6)=1+m6:=ym;refine pick_o (hy:=fun w' hw=>nx) 14 (int i64 (1+m6)) (A6.o.1.c0) ?_;clear hwr;refine z26 (i:=16) (f:=119) (args:= #[.pointer (some ⟨d.G,0,none⟩),int i64 (1+m6),.slice ad ks.length cp]) rfl ye rfl rfl yf ?_
      refine nE (A6.o.nodes (leaf_calls (1+m6) A6.o.1 (A6.o.fit HF.o 10 ya) (HE.o.grew (G1.o.trans (G2.o.trans (G3.o.trans (G4.o.trans (G5.o.trans G6.o)))))).know nu)) fun X7 ad7 cp7 n7 s7 t7 N7 A7 G7=>?_
      refine⟨_,rfl,(A7.o.1.c0),?_⟩;refine z25 yg ?_;have KV:O (KidsV d (X7.alloc (.cells #[.slice ad5 n5.length cp5,.slice ad7 n7.length cp7] 24)) (.slice (some ⟨X7.heap.size,0,none⟩) 2 2) [(.slice ad5 n5.length cp5,n5),(.slice ad7 n7.length cp7,n7)]):=(z70 [(.slice ad5 n5.length cp5,n5),(.slice ad7 n7.length cp7,n7)] _ rfl A7.o.1.ltB A7.o.1.ltG (fun x hx=>by simp at hx;rcases hx with rfl|rfl;exact(N5.o.1.grew (G6.o.trans G7.o));exact N7.o.1))
      have A8:=U (A7.o.alloc (.cells #[.slice ad5 n5.length cp5,.slice ad7 n7.length cp7] 24));have G8:=U ((Grew.refl d X7).alloc (.cells #[.slice ad5 n5.length cp5,.slice ad7 n7.length cp7] 24));refine z27 (i:=17) (v:=.slice (some ⟨X7.heap.size,0,none⟩) 2 2) (w1:=X7.alloc (.cells #[.slice ad5 n5.length cp5,.slice ad7 n7.length cp7] 24)) rfl ye rfl rfl yf (A8.o.1.c0) yg ?_;generalize X7.alloc (.cells #[.slice ad5 n5.length cp5,.slice ad7 n7.length cp7] 24)=X8 at*
      refine z26 (i:=18) (f:=120) (args:= #[.agg #[int i64 16,int i64 0,.string ⟨#[]⟩,.string ⟨#[]⟩,.string ⟨#[]⟩,int i64 0],.slice (some ⟨X7.heap.size,0,none⟩) 2 2]) rfl ye rfl rfl yf ?_;refine vE (A8.o.put_kids 16 0 0 ⟨#[]⟩ ⟨#[]⟩ ⟨#[]⟩ KV.o ⟨z14,z14,z14⟩ yq (by have:=A8.o.bound HF.o ya yk;have:=N5.o.2;have:=N7.o.2;simp[flatL];omega)) fun X9 ad9 cp9 n9 N9 A9 G9=>?_
      refine⟨_,rfl,(A9.o.1.c0),?_⟩;refine z25 yg ?_;have KW:O (KidsV d (X9.alloc (.cells #[.slice ad9 n9.length cp9] 24)) (.slice (some ⟨X9.heap.size,0,none⟩) 1 1) [(.slice ad9 n9.length cp9,n9)]):=(z70 [(.slice ad9 n9.length cp9,n9)] _ rfl A9.o.1.ltB A9.o.1.ltG (fun x hx=>by simp at hx;rcases hx with rfl;exact N9.o.1))
      have A10:=U (A9.o.alloc (.cells #[.slice ad9 n9.length cp9] 24));have G10:=U ((Grew.refl d X9).alloc (.cells #[.slice ad9 n9.length cp9] 24));refine z27 (i:=19) (v:=.slice (some ⟨X9.heap.size,0,none⟩) 1 1) (w1:=X9.alloc (.cells #[.slice ad9 n9.length cp9] 24)) rfl ye rfl rfl yf (A10.o.1.c0) yg ?_;generalize X9.alloc (.cells #[.slice ad9 n9.length cp9] 24)=X10 at*;refine z26 (i:=20) (f:=120) (args:= #[.agg #[int i64 17,int i64 0,.string ⟨#[]⟩,.string ⟨#[]⟩,.string ⟨#[]⟩,int i64 0],.slice (some ⟨X9.heap.size,0,none⟩) 1 1]) rfl ye rfl rfl yf ?_
      refine vE (A10.o.put_kids 17 0 0 ⟨#[]⟩ ⟨#[]⟩ ⟨#[]⟩ KW.o ⟨z14,z14,z14⟩ yq (by have:=A10.o.bound HF.o ya yk;have q1:=N9.o.2;have:=N5.o.2;have:=N7.o.2;simp[flatL]at q1;simp[flatL];omega)) fun X11 ad11 cp11 n11 N11 A11 G11=>?_
      refine⟨_,rfl,(A11.o.1.c0),?_⟩;refine z25 yg ?_;refine pick_o 21 (.slice ad11 n11.length cp11) (A11.o.1.c0) ?_;refine zb92 ?_;go_ret;exact HP.o 300 _ _ (A11.o.done 5 N11.o.1 (by have:=N11.o.2;have:=N9.o.2;have:=N5.o.2;have:=N7.o.2;simp[flatL]at *;omega) ya) (Or.inr ⟨HPos.o,ya⟩)
     .have z7:(m3==0)=false:=by simp[h7]
      have g0:=A3.o.1.c0;go_wp2_with fail
      refine(A3.o.pick HF.o ya 4 yk).mono ?_;rintro e X4 ⟨m4,s4,rfl,hm4,hM4,ha,(G4:O _)⟩;have A4:=U ha;clear ha;clear g0;go_wp2_with fail
      refine nE (A4.o.nodes (leaf_calls (1+m4) A4.o.1 (A4.o.fit HF.o 10 ya) (HE.o.grew (G1.o.trans (G2.o.trans (G3.o.trans G4.o)))).know nu)) fun X5 ad5 cp5 n5 s5 t5 N5 A5 G5=>?_
      go_wp2_with fail
      refine nE (A5.o.nodes (HO.o (deep-1) ty _ _ _ _ _ _ nw nw (A5.o.fit HF.o 10 ya) A5.o.1 (HE.o.grew (G1.o.trans (G2.o.trans (G3.o.trans (G4.o.trans G5.o))))).down)) fun X6 ad6 cp6 n6 s6 t6 N6 A6 G6=>?_
      go_wp2_with fail
      refine vE (A6.o.put2 16 0 0 ByteArray.empty ByteArray.empty ByteArray.empty (N5.o.1.grew G6.o) N6.o.1 ⟨z14,z14,z14⟩ (by have:=A6.o.bound HF.o ya yk;have:=N5.o.2;have:=N6.o.2;omega)) fun X7 ad7 cp7 n7 N7 A7 G7=>?_
      go_wp2_with fail
      refine vE (A7.o.put1 18 0 0 ByteArray.empty ByteArray.empty ByteArray.empty N7.o.1 ⟨z14,z14,z14⟩ (by have:=A7.o.bound HF.o ya yk;have:=N7.o.2;have:=N5.o.2;have:=N6.o.2;omega)) fun X8 ad8 cp8 n8 N8 A8 G8=>?_
      go_wp2_with fail
      go_ret;exact HP.o 300 _ _ (A8.o.done 2 N8.o.1 (by have:=N8.o.2;have:=N7.o.2;have:=N5.o.2;have:=N6.o.2;omega) ya) (Or.inr ⟨HPos.o,ya⟩)
    .go_wp2_with fail
     refine nE (A2.o.nodes (gown_calls ty (deep-1) HO.o nw nw nw A2.o.1 (A2.o.fit HF.o 100 ya) (HE.o.grew (G1.o.trans G2.o)))) fun X3 ad3 cp3 n3 s3 t3 N3 A3 G3=>?_
     go_wp2_with fail
     go_ret;exact HP.o 300 _ _ (A3.o.done 0 N3.o.1 gz ya) (Or.inr ⟨HPos.o,ya⟩)
    .go_wp2_with fail
     refine nE (A2.o.nodes (gown_calls ty (deep-1) HO.o nw nw nw A2.o.1 (A2.o.fit HF.o 100 ya) (HE.o.grew (G1.o.trans G2.o)))) fun X3 ad3 cp3 n3 s3 t3 N3 A3 G3=>?_
     go_wp2_with fail
     go_ret;exact HP.o 300 _ _ (A3.o.done 0 N3.o.1 gz ya) (Or.inr ⟨HPos.o,ya⟩)
    .go_wp2_with fail
     refine nE (A2.o.nodes (gown_calls ty (deep-1) HO.o nw nw nw A2.o.1 (A2.o.fit HF.o 100 ya) (HE.o.grew (G1.o.trans G2.o)))) fun X3 ad3 cp3 n3 s3 t3 N3 A3 G3=>?_
     go_wp2_with fail
     go_ret;exact HP.o 300 _ _ (A3.o.done 0 N3.o.1 gz ya) (Or.inr ⟨HPos.o,ya⟩)
theorem of_zero {es:List Ef}:OfC d ve es 0:=by
 intro deep ty v vm ks ms W s h1 h2 hf h hE;have hl:=h.setLeft (s.left-1);have f2:=h.f2;have c2:=h.c2;have HW:O (wrap64 (s.left-1)=s.left-1):=yav;have hd:deep<=1:=ya;obtain⟨ad,cp,rfl⟩:=hE.know.is;obtain⟨adm,cpm,rfl⟩:=hE.may.is;obtain⟨X,hX⟩:∃X,W.setCell ⟨d.G,2,none⟩ (int i64 (s.left-1))=X:=⟨_,rfl⟩
 rw[hX]at hl;have HX:=U hX;obtain⟨s1,hs1⟩:∃s1:Cn,{ s with left:=s.left-1 }= s1:=⟨_,rfl⟩
 rw[hs1]at hl;refine zb6 ?_;unhygienic intros
 clear hl hf h hE hX hs1 e1 e2 e3 hL;go_enter func83,ntmps83
 go_upto_region 2 with fail
 try rw[HW.o]
 rw[HX.o];clear c2 f2 HW HX;have HLF:=U (leaf_nine ty A0.o.1 HFF.o.1 HE.o.know nu);go_wp2_with fail
 refine zb73 ?_;intro Xl vl nl sl tl NL;go_wp2_with fail
 go_ret;exact HP.o 9 _ _ ⟨vl,nl,sl,tl,rfl,NL.o.1,NL.o.2.1,NL.o.2.2.1,NL.o.2.2.2.1,NL.o.2.2.2.2⟩ (Or.inl ya)
theorem of_all {d:Dr}{ve:Value}{es:List Ef}:∀D:Nat,D<=90->OfC d ve es D
 |0,_=>of_zero
 |D+1,h=>of_step ya (of_all D ya) (fun ty deep v vm ks ms X s h1 h2 hG hF hE=>handler_calls ty deep (of_all D ya) h1 h2 ya hG hF hE)
def Dr.on (d:Dr) (G:Nat):Dr:=⟨d.B,G,d.a0,d.len,d.cap⟩
theorem free_on {q:Nat}(h:d.free W q) (hs:W.heap.size<=W'.heap.size) (hg:W.heap.size<=G):(d.on G).free W' q:=
 ⟨Le h.1 hs,h.2.1,by have:=h.1;show q≠G;omega⟩
theorem free_off {q:Nat}(hG:d.G=d.B) (h:(d.on G).free W q):d.free W q:=⟨h.1,h.2.1,by rw[hG];exact h.2.1⟩
theorem Lies.on {n sz:Nat}{F:Nat->Value}(h:Lies d W v n sz F) (hb:Below W.heap.size W W') (hg:W.heap.size<=G):Lies (d.on G) W' v n sz F:=by
 rcases h with h|⟨b,off,cap,h1,h2,h3,h4,h5⟩
 .exact Or.inl h
 .exact Or.inr ⟨b,off,cap,h1,h2,h3,free_on h4 hb.size hg,fun i hi=>(hb.cell (p:=⟨b,off+i,none⟩) h4.1).trans (h5 i hi)⟩
theorem Lies.off {d:Dr}{W:World}{v:Value}{n sz G:Nat}{F:Nat->Value}(hG:d.G=d.B) (h:Lies (d.on G) W v n sz F):Lies d W v n sz F:=by
 rcases h with h|⟨b,off,cap,h1,h2,h3,h4,h5⟩
 .exact Or.inl h
 .exact Or.inr ⟨b,off,cap,h1,h2,h3,free_off hG h4,h5⟩
theorem Rdr.on {p:Nat}(h:Rdr d W p) (hb:Below W.heap.size W W') (hg:W.heap.size<=G):Rdr (d.on G) W' p:=by
 refine⟨(hb.block _ (z13 h.blk)).trans h.blk,fun hl=>?_⟩;obtain⟨b,off,ea,hq,hz⟩:=h.bytes hl;refine⟨b,off,ea,free_on hq hb.size hg,fun i hi=>?_⟩;obtain⟨z,hz,h2⟩:=hz i hi;exact⟨z,(hb.cell (p:=⟨b,off+i,none⟩) hq.1).trans hz,h2⟩
theorem Rdr.off {d:Dr}{W:World}{p G:Nat}(hG:d.G=d.B) (h:Rdr (d.on G) W p):Rdr d W p:=by
 refine⟨h.blk,fun hl=>?_⟩;obtain⟨b,off,ea,hq,hz⟩:=h.bytes hl;exact⟨b,off,ea,free_off hG hq,hz⟩
theorem Grew.off {X Y:World}(h:Grew d W X) (g:Grew (d.on G) X Y) (hg:W.heap.size<=G):Grew d W Y:=
 ⟨g.os.trans h.os,g.tape.trans h.tape,g.output.trans h.output,Lf h.size g.size,fun q hq=>(g.block q ⟨Le hq.1 h.size,hq.2.1,by have:=hq.1;show q≠G;omega⟩).trans (h.block q hq)⟩
theorem lies_take {α:Type}[Inhabited α] {f:α->Nat->Value}{sz:Nat}{b cap n k:Nat}{l:List α}(h:Lies d W (.slice (some ⟨b,0,none⟩) n cap) l.length sz (fun i=>f (l.getD (i/sz) default) (i % sz))) (hk:k<=n) (hn:0<n) (hl:l.length=n):Lies d W (.slice (some ⟨b,0,none⟩) k cap) (l.take k).length sz (fun i=>f ((l.take k).getD (i/sz) default) (i % sz)):=by
 obtain⟨-,hc,b',off,e,hq,h5⟩:=h.at hn
 cases e;have hlk:(l.take k).length=k:=yaw;rw[hlk];refine Or.inr ⟨b,0,cap,rfl,ya,rfl,hq,fun i hi=>?_⟩;have hi':i/sz<k:=Nat.div_lt_of_lt_mul (by rw[Nat.mul_comm];exact hi);rw[h5 i (Le hi (Nat.mul_le_mul_right _ hk))];have e:(l.take k).getD (i/sz) default=l.getD (i/sz) default:=by simp[List.getD,List.getElem?_take_of_lt hi']
 show _=some (f ((l.take k).getD (i/sz) default) (i % sz));rw[e]
def all4:List Ef:= [⟨⟨#[97,115,107]⟩,3,1⟩,⟨⟨#[116,101,108,108]⟩,1,3⟩,⟨⟨#[102,108,105,112]⟩,3,2⟩,⟨⟨#[112,97,115,115]⟩,4,1⟩]
theorem all4_brief:∀e∈all4,Brief e.name:=by
 intro e he;unfold all4 at he;simp only[List.mem_cons,List.not_mem_nil,or_false]at he;rcases he with rfl|rfl|rfl|rfl<;>(unfold Brief;decide)
def EffsPost (d:Dr) (W:World) (p:Nat) (e:Ending) (W':World):Prop:=
 ∃v es,e=.returned v/\EffsD d W' v es/\1<=es.length/\es.length<=4/\Rdr d W' (p+1)/\Grew d W W'
theorem effs_calls {p:Nat}(hG:d.G=d.B) (h:Rdr d W p) (hp:p<=1000000):Calls prog 82 #[.pointer (some ⟨d.B,0,none⟩)] W (EffsPost d W p):=by
 have hB:=z13 h.blk;have HL:=U (lies_lit (f:=Ef.cell) (sz:=3) (d:=d) yk W 64 all4 _ rfl hB (by rw[hG];exact hB));have hbl:Below W.heap.size W (W.alloc (.cells (rowZ Ef.cell 3 all4).toArray 64)):=Lb.alloc La _;have HB:=U hbl;have HP:=U (z52 (h.below hbl) hp 4 yk);clear hbl h hp;go_enter func82,ntmps82
 go_wp2_with fail
 refine HP.o.mono ?_;rintro e X ⟨m,rfl,hm0,hm1,hr,hg,-,-⟩;have HR:=U (Lc hr hg);have HX:=U (HL.o.grew hg);clear hr hg HP HL;have hcs:m=0\/m=1\/m=2\/m=3:=ya;rcases hcs with rfl|rfl|rfl|rfl
 .go_wp2_with fail
  go_ret;exact⟨_,all4.take 1,rfl,⟨lies_take HX.o yk yk rfl,fun e he=>all4_brief e (List.mem_of_mem_take he)⟩,yk,yk,HR.o.1,(Grew.of_below HB.o).trans HR.o.2⟩
 .go_wp2_with fail
  go_ret;exact⟨_,all4.take 2,rfl,⟨lies_take HX.o yk yk rfl,fun e he=>all4_brief e (List.mem_of_mem_take he)⟩,yk,yk,HR.o.1,(Grew.of_below HB.o).trans HR.o.2⟩
 .go_wp2_with fail
  go_ret;exact⟨_,all4.take 3,rfl,⟨lies_take HX.o yk yk rfl,fun e he=>all4_brief e (List.mem_of_mem_take he)⟩,yk,yk,HR.o.1,(Grew.of_below HB.o).trans HR.o.2⟩
 .go_wp2_with fail
  go_ret;exact⟨_,all4.take 4,rfl,⟨lies_take HX.o yk yk rfl,fun e he=>all4_brief e (List.mem_of_mem_take he)⟩,yk,yk,HR.o.1,(Grew.of_below HB.o).trans HR.o.2⟩
end
end Go.Proofs.YtbbffkiobmbkfaaGreatDoor
