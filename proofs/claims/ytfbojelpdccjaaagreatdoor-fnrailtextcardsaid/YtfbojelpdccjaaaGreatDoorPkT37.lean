import Derived.Test.YtfbojelpdccjaaaGreatDoorPkT36
open Go.Proofs.Tryz
set_option maxHeartbeats 20000000
set_option maxRecDepth 100000
namespace Go.Proofs.YtfbojelpdccjaaaGreatDoor
open Go.RowKit Go.Deep
variable {t:ByteArray}{es:List Ef}{ns:List Nd}{T:List Nd->Bool}{q:Nat}{a1 a2:Option Addr}{x y:Value}{W W':World}
section
open Go.RowKit Go.Deep
theorem spoilE:SpoilC:=fun _ _ _ _ _ _ _ _ _ hG h hp hE he hn hT=>spoil_calls hG h hp hE he hn hT
theorem many_lit (S:ByteArray) (N:Int) (hS:S.size<=10) (h0:0<=N) (h1:N<=2000) (W:World):Calls prog 60 #[.string S,.int .i64 N] W (ManyP W):=by
 obtain⟨n,rfl⟩:=Int.eq_ofNat_of_zero_le h0;exact many_calls S n hS yf W
def ftV:Array Value:= #[.string ⟨#[]⟩,.string ⟨#[32]⟩,.string ⟨#[40]⟩,.string ⟨#[41]⟩,.string ⟨#[120]⟩,.string ⟨#[48]⟩,.string ⟨#[95]⟩,.string ⟨#[61]⟩,.string ⟨#[124]⟩,.string ⟨#[45,62]⟩,.string ⟨#[32,108,101,116,32]⟩,.string ⟨#[10]⟩,.string ⟨#[59]⟩,.string ⟨#[101,110,100,32]⟩]
theorem ft_get (r:Int) (h0:0<=r) (h1:r<14):∃y:ByteArray,y.size<=5/\ftV[r.toNat]?=some (.string y):=by
 have h:r=0\/r=1\/r=2\/r=3\/r=4\/r=5\/r=6\/r=7\/r=8\/r=9\/r=10\/r=11\/r=12\/r=13:=yf;rcases h with rfl|rfl|rfl|rfl|rfl|rfl|rfl|rfl|rfl|rfl|rfl|rfl|rfl|rfl<;>exact⟨_,yh,rfl⟩
def ntV (a b c e:ByteArray):Array Value:= #[.string ⟨#[]⟩,.string a,.string b,.string c,.string e,.string ⟨#[101,102,102,101,99,116,32,97,32,58,32,105,110,116,32,61,62,32,105,110,116,32,59,32,101,102,102,101,99,116,32,97,32,58,32,105,110,116,32,61,62,32,105,110,116,32,59,32,49]⟩,.string ⟨#[100,111,32,98,32,49]⟩,.string ⟨#[99,97,115,101,32,110,105,108,32,111,102,32,110,105,108,32,45,62,32,49,32,124,32,120,32,58,58,32,120,32,45,62,32,50]⟩,.string ⟨#[104,97,110,100,108,101,32,49,32,119,105,116,104,32,114,101,116,32,120,32,45,62,32,120,32,124,32,97,32,98,32,98,32,45,62,32,49,32,101,110,100]⟩]
theorem nt_get {a b c e:ByteArray}(ha:a.size<=20001) (hb:b.size<=20001) (hc:c.size<=20001) (he:e.size<=20001) (r:Int) (h0:0<=r) (h1:r<9):∃y:ByteArray,y.size<=20001/\(ntV a b c e)[r.toNat]?=some (.string y):=by
 have h:r=0\/r=1\/r=2\/r=3\/r=4\/r=5\/r=6\/r=7\/r=8:=yf;rcases h with rfl|rfl|rfl|rfl|rfl|rfl|rfl|rfl|rfl
 .exact⟨_,yh,rfl⟩
 .exact⟨a,ha,rfl⟩
 .exact⟨b,hb,rfl⟩
 .exact⟨c,hc,rfl⟩
 .exact⟨e,he,rfl⟩
 all_goals exact⟨_,yh,rfl⟩
def TextDP (d:Dr) (W:World) (e:Ending) (W':World):Prop:= ∃(t:ByteArray) (q:Nat),e=.returned (.string t)/\t.size<=50000/\Rdr d W' q/\q<=995000/\Grew d W W'
theorem cut_le (t:ByteArray) (a b:Nat):(t.extract a b).size<=t.size:=by
 rw[ByteArray.size_extract];omega
theorem drawnText_calls {d:Dr}{p:Nat}(hG:d.G=d.B) (h:Rdr d W p) (hp:p<=1000):Calls prog 31 #[.pointer (some ⟨d.B,0,none⟩)] W (TextDP d W):=by
 have HA:=J (any_calls spoilE hG h hp);have hGB:=J hG;clear hG h hp;go_enter func31,ntmps31
 go_wp2_with fail
 refine HA.o.mono ?_;rintro e X1 ⟨ad,n,cp,v,ns,q,rfl,hN,hlen,hr,hq,(G1:I _),es,hE,he⟩;obtain⟨adv,cpv,rfl⟩:=hN.is;have HT:=J (text_any hE he hN);have R1:=J hr;have Q1:=J hq;clear HA hN hlen hr hq hE he;go_wp2_with fail
 refine HT.o.mono ?_;rintro e X2 ⟨t,rfl,ht,hb⟩;have HTt:=J ht;have R2:=J (R1.o.below hb);have G2:=J (G1.o.trans (Grew.of_below hb));clear HT ht hb R1 G1;go_wp2_with fail
 refine(z31 R2.o ybs 4 yh).mono ?_;rintro e X3 ⟨m4,rfl,hm40,hm41,hr3,hg3,-,-⟩;have R3:=J hr3;have G3:=J (G2.o.trans hg3);clear hr3 hg3 R2 G2 hm40 hm41;by_cases h4:m4=0
 case' neg=>
  have z4:(m4==0)=false:=by simp[h4]
  have RZ:=J R3.o;have GZ:=J G3.o;have QZ:=J (show q+1<=990004 by have:=Q1.o;omega);have HTt:=J (show t.size<=40005 by have:=HTt.o;omega);rename World=>XZ
  rename ByteArray=>tt
  clear R3 G3
 case' pos=>
  subst h4;by_cases hz:(0:Int)<(t.size:Int)
  case' pos=>
   go_wp2_with fail
   refine(z31 R3.o ybs (t.size:Int) hz).mono ?_;rintro e X4 ⟨k0,rfl,hk0,hk1,hr4,hg4,-,-⟩;obtain⟨k,rfl⟩:=Int.eq_ofNat_of_zero_le hk0;have R4:=J hr4;have G4:=J (G3.o.trans hg4);clear hr4 hg4 R3 G3 hk0;go_upto_region 4 with fail
   have hkt:k<t.size:=yf;have hk0:(0:Int)<=(k:Int):=yf;have hkl:(k:Int)<=(t.size:Int):=yf;refine z30 (S:=fun _=>True) (n:=17) (ls:= #[false,false,false,false,false,false,false,false,false,false,false,false,false,false,false,false,false]) yb rfl yb ?_;have R5:=J R4.o.drew;have G5:=J G4.o.drew;clear R4 G4;generalize X4.drew=X at*;refine pick_o 0 (.string t) trivial ?_;refine pick_o 1 (.int .i64 (k:Int)) trivial ?_;refine pick_o (hy:=fun w' hw=>by simp[go_sem,hk0,hkl]) 2 (.string (t.extract 0 k)) trivial ?_;refine pick_o 4 (.pointer (some ⟨d.B,0,none⟩)) trivial ?_
   refine pick_o 9 (.string t) trivial ?_;refine pick_o 10 (.int .i64 (k:Int)) trivial ?_;refine pick_o 11 (.pointer (some ⟨d.B,0,none⟩)) trivial ?_;refine z45 (i:=3) (j:=5) yb ?_ ?_
   case' refine_1=>
    have bl:Below X.heap.size X (X.alloc (.cells ftV 9)):=Lb.alloc La _;have RB:=J (Ld X (.cells ftV 9)).1;have R6:=J (R5.o.below bl);have G6:=J (G5.o.trans (Grew.of_below bl));have NB:=J (show X.heap.size≠d.B by have:=z12 R5.o.blk;omega);clear bl;refine⟨_,.slice (some ⟨X.heap.size,0,none⟩) 14 14,X.alloc (.cells ftV 9),rfl,rfl,ybt,trivial,?_⟩;obtain⟨nb,hnb⟩:∃nb,X.heap.size=nb:=⟨_,rfl⟩
    generalize X.alloc (.cells ftV 9)=Y1 at*;rw[hnb]at RB NB |-;clear hnb;refine z15 yd ?_;refine z16 (i:=5) (f:=37) (args:= #[.pointer (some ⟨d.B,0,none⟩),.int .i64 14]) rfl yb rfl rfl yc ?_;refine(z31 R6.o ybs 14 yh).mono ?_;rintro e Y2 ⟨ma,rfl,hma0,hma1,hr,hg,-,ho⟩;have Rma:=J hr;have Gma:=J (G6.o.trans hg);have RB:=J ((ho nb NB.o).trans RB.o);clear hr hg ho;refine⟨_,rfl,trivial,?_⟩;refine z15 yd ?_;obtain⟨y,hys,hy⟩:=ft_get ma hma0 hma1;have HYs:=J hys;clear hys;refine zb21 ?_;intro hyc;refine z16 (i:=12) (f:=37) (args:= #[.pointer (some ⟨d.B,0,none⟩),.int .i64 2]) rfl yb rfl rfl yc ?_
    refine(z31 Rma.o ybs 2 yh).mono ?_;rintro e Y3 ⟨mb,rfl,hmb0,hmb1,hr,hg,-,ho⟩;have Rmb:=J hr;have Gmb:=J (Gma.o.trans hg);refine zb1 ?_;intro RB hyc hc2 HTt;clear hr hg ho;generalize t.extract 0 k++y++t.extract ((k:Int)+mb).toNat t.size=tt at*;refine z34 yb ?_;have RZ:=J Rmb.o;have GZ:=J Gmb.o;have QZ:=J (show q+4<=990004 by have:=Q1.o;omega);rename World=>XZ
    clear hc2 hyc
   case' refine_2=>
    refine⟨_,37,#[.pointer (some ⟨d.B,0,none⟩),.int .i64 14],rfl,rfl,yc,?_⟩;refine(z31 R5.o ybs 14 yh).mono ?_;rintro e Y1 ⟨ma,rfl,hma0,hma1,hr,hg,-,ho⟩;have Rma:=J hr;have Gma:=J (G5.o.trans hg);clear hr hg ho;refine⟨_,rfl,trivial,?_⟩;refine z15 yd ?_;obtain⟨y,hys,hy⟩:=ft_get ma hma0 hma1;have HYs:=J hys;clear hys;refine z45 (i:=3) (j:=12) yb ?_ ?_
    case' refine_1=>
     have bl:Below Y1.heap.size Y1 (Y1.alloc (.cells ftV 9)):=Lb.alloc La _;have RB:=J (Ld Y1 (.cells ftV 9)).1;have R6:=J (Rma.o.below bl);have G6:=J (Gma.o.trans (Grew.of_below bl));have NB:=J (show Y1.heap.size≠d.B by have:=z12 Rma.o.blk;omega);clear bl;refine⟨_,.slice (some ⟨Y1.heap.size,0,none⟩) 14 14,Y1.alloc (.cells ftV 9),rfl,rfl,ybt,trivial,?_⟩;obtain⟨nb,hnb⟩:∃nb,Y1.heap.size=nb:=⟨_,rfl⟩
     generalize Y1.alloc (.cells ftV 9)=Y2 at*;rw[hnb]at RB NB |-;clear hnb;refine z15 yd ?_;refine zb21 ?_;intro hyc;refine z16 (i:=12) (f:=37) (args:= #[.pointer (some ⟨d.B,0,none⟩),.int .i64 2]) rfl yb rfl rfl yc ?_;refine(z31 R6.o ybs 2 yh).mono ?_;rintro e Y3 ⟨mb,rfl,hmb0,hmb1,hr,hg,-,ho⟩;have Rmb:=J hr;have Gmb:=J (G6.o.trans hg);refine zb1 ?_;intro RB hyc hc2 HTt;clear hr hg ho;generalize t.extract 0 k++y++t.extract ((k:Int)+mb).toNat t.size=tt at*;refine z34 yb ?_;have RZ:=J Rmb.o;have GZ:=J Gmb.o;have QZ:=J (show q+4<=990004 by have:=Q1.o;omega);rename World=>XZ
     clear hc2 hyc
    case' refine_2=>
     refine⟨_,37,#[.pointer (some ⟨d.B,0,none⟩),.int .i64 2],rfl,rfl,yc,?_⟩;refine(z31 Rma.o ybs 2 yh).mono ?_;rintro e Y2 ⟨mb,rfl,hmb0,hmb1,hr,hg,-,ho⟩;have Rmb:=J hr;have Gmb:=J (Gma.o.trans hg);clear hr hg ho;refine⟨_,rfl,trivial,?_⟩;refine z15 yd ?_;have hw2:IntKind.i64.wrap ((k:Int)+mb)=(k:Int)+mb:=ye;refine pick_o (hy:=fun w' hw=>by simp[go_sem,hw2]) 13 (.int .i64 ((k:Int)+mb)) trivial ?_;have hs0:0<=(k:Int)+mb:=yf;have hs1:(k:Int)+mb<=(t.size:Int):=yf;refine pick_o (hy:=fun w' hw=>by simp[go_sem,hs0,hs1]) 14 (.string (t.extract ((k:Int)+mb).toNat t.size)) trivial ?_
     clear hw2 hs0 hs1;have bl:Below Y2.heap.size Y2 (Y2.alloc (.cells ftV 9)):=Lb.alloc La _;have RB:=J (Ld Y2 (.cells ftV 9)).1;have R6:=J (Rmb.o.below bl);have G6:=J (Gmb.o.trans (Grew.of_below bl));have NB:=J (show Y2.heap.size≠d.B by have:=z12 Rmb.o.blk;omega);clear bl;refine z23 (i:=3) (v:=.slice (some ⟨Y2.heap.size,0,none⟩) 14 14) (w1:=Y2.alloc (.cells ftV 9)) rfl yb rfl rfl ybt trivial yd ?_;obtain⟨nb,hnb⟩:∃nb,Y2.heap.size=nb:=⟨_,rfl⟩
     generalize Y2.alloc (.cells ftV 9)=Y3 at*;rw[hnb]at RB NB |-;clear hnb;refine pick_o (hy:=fun w' hw=>by simp[go_sem,hma0,hma1]) 6 (.pointer (some ⟨nb,ma.toNat,none⟩)) trivial ?_;refine z43 (fun w=>w.cell? ⟨nb,ma.toNat,none⟩=some (.string y)) (fun w _=>trivial) ?_;have hyc:Y3.cell? ⟨nb,ma.toNat,none⟩=some (.string y):=(z8 RB.o ma.toNat).trans hy;refine pick_o (hy:=fun w' hw=>ym) 7 (.string y) hyc ?_;have hc1:min k t.size+y.size<=9223372036854775807:=yg;refine pick_o (hy:=fun w' hw=>by simp[go_sem,hc1]) 8 (.string (t.extract 0 k++y)) hyc ?_;clear hc1
     have hc2:min k t.size+y.size+(t.size-((k:Int)+mb).toNat)<=9223372036854775807:=yg;refine pick_o (hy:=fun w' hw=>by simp[go_sem,hc2]) 15 (.string (t.extract 0 k++y++t.extract ((k:Int)+mb).toNat t.size)) hyc ?_;refine pick_o 16 (.string (t.extract 0 k++y++t.extract ((k:Int)+mb).toNat t.size)) hyc ?_;have HTt:=J (show(t.extract 0 k++y++t.extract ((k:Int)+mb).toNat t.size).size<=40005 by rw[ByteArray.size_append,ByteArray.size_append];have:=cut_le t 0 k;have:=cut_le t ((k:Int)+mb).toNat t.size;have:=HTt.o;have:=HYs.o;omega)
     generalize t.extract 0 k++y++t.extract ((k:Int)+mb).toNat t.size=tt at*;refine z34 yb ?_;have RZ:=J R6.o;have GZ:=J G6.o;have QZ:=J (show q+4<=990004 by have:=Q1.o;omega);rename World=>XZ
     clear hc2 hyc
  case' neg=>
   have RZ:=J R3.o;have GZ:=J G3.o;have QZ:=J (show q+1<=990004 by have:=Q1.o;omega);have HTt:=J (show t.size<=40005 by have:=HTt.o;omega);rename World=>XZ
   rename ByteArray=>tt
   clear R3 G3
 all_goals
  go_wp2_with fail
  refine(z31 RZ.o ybu 80 yh).mono ?_;rintro e X8 ⟨m8,rfl,hm80,hm81,hr8,hg8,-,-⟩;have R8:=J hr8;have G8:=J (GZ.o.trans hg8);clear hr8 hg8 RZ GZ;by_cases h80:m8=0
  .subst h80;have HM:=J (fun(Z:World)=>many_lit ⟨#[40]⟩ 700 yh yh yh Z);have HM2:=J (fun(Z:World)=>many_lit ⟨#[41]⟩ 700 yh yh yh Z);go_wp2_with fail
   refine(HM.o _).mono ?_;rintro e X9 ⟨t1,rfl,ht1,hb9⟩;have HT1:=J ht1;have R9:=J (R8.o.below hb9);have G9:=J (G8.o.trans (Grew.of_below hb9));have hc1:¬ 9223372036854775807<t1.size+1:=yf;clear ht1 hb9 R8 G8;go_wp2_with fail
   refine(HM2.o _).mono ?_;rintro e X10 ⟨t2,rfl,ht2,hb10⟩;have HT2:=J ht2;have R10:=J (R9.o.below hb10);have G10:=J (G9.o.trans (Grew.of_below hb10));have hc2:¬ 9223372036854775807<t1.size+1+t2.size:=by have:=HT1.o;omega
   clear ht2 hb10 R9 G9;go_wp2_with fail
   go_ret;exact⟨_,_,rfl,by rw[ByteArray.size_append,ByteArray.size_append];have:=HT1.o;have:=HT2.o;have e:(⟨#[49]⟩:ByteArray).size=1:=rfl;rw[e];omega,R10.o,ybu,G10.o⟩
  .have z80:(m8==0)=false:=by simp[h80]
   by_cases h81:m8=1
   .subst h81;go_wp2_with fail
    refine(z31 R8.o ybu 2 yh).mono ?_;rintro e X9 ⟨m9,rfl,hm90,hm91,hr9,hg9,-,-⟩;have R9:=J hr9;have G9:=J (G8.o.trans hg9);have hw9:wrap64 (1500+m9)=1500+m9:=my;have HM:=J (fun(Z:World)=>many_lit ⟨#[32]⟩ (1500+m9) yh yf yf Z);obtain⟨mx,hmx⟩:∃mx,1500+m9=mx:=⟨_,rfl⟩
    rw[hmx]at hw9 HM;clear hr9 hg9 R8 G8 hm90 hm91;go_wp2_with fail
    try rw[hmx]
    try rw[hw9]
    refine(HM.o _).mono ?_;rintro e X10 ⟨t1,rfl,ht1,hb10⟩;have HT1:=J ht1;have R10:=J (R9.o.below hb10);have G10:=J (G9.o.trans (Grew.of_below hb10));clear ht1 hb10 R9 G9 hw9 hmx;go_wp2_with fail
    go_ret;exact⟨_,_,rfl,by have:=HT1.o;omega,R10.o,ybu,G10.o⟩
   .have z81:(m8==1)=false:=by simp[h81]
    by_cases h82:m8=2
    .subst h82;have HM1:=J (fun(Z:World)=>many_lit ⟨#[43,49]⟩ 150 yh yh yh Z);have HM2:=J (fun(Z:World)=>many_lit ⟨#[43,49]⟩ 149 yh yh yh Z);have HM3:=J (fun(Z:World)=>many_lit ⟨#[57]⟩ 9 yh yh yh Z);have HM4:=J (fun(Z:World)=>many_lit ⟨#[57]⟩ 10 yh yh yh Z);go_wp2_with fail
     refine(HM1.o _).mono ?_;rintro e X9 ⟨t1,rfl,ht1,hb9⟩;have HT1:=J ht1;have R9:=J (R8.o.below hb9);have G9:=J (G8.o.trans (Grew.of_below hb9));have hc1:¬ 9223372036854775807<1+t1.size:=yf;clear ht1 hb9 R8 G8;go_wp2_with fail
     refine(HM2.o _).mono ?_;rintro e X10 ⟨t2,rfl,ht2,hb10⟩;have HT2:=J ht2;have R10:=J (R9.o.below hb10);have G10:=J (G9.o.trans (Grew.of_below hb10));have hc2:¬ 9223372036854775807<1+t2.size:=yf;clear ht2 hb10 R9 G9;go_wp2_with fail
     refine(HM3.o _).mono ?_;rintro e X11 ⟨t3,rfl,ht3,hb11⟩;have HT3:=J ht3;have R11:=J (R10.o.below hb11);have G11:=J (G10.o.trans (Grew.of_below hb11));have hc3:¬ 9223372036854775807<1+t3.size:=yf;clear ht3 hb11 R10 G10;go_wp2_with fail
     refine(HM4.o _).mono ?_;rintro e X12 ⟨t4,rfl,ht4,hb12⟩;have HT4:=J ht4;have R12:=J (R11.o.below hb12);have G12:=J (G11.o.trans (Grew.of_below hb12));clear ht4 hb12 R11 G11 hc1 hc2 hc3;have HS1:=J (show((⟨#[49]⟩:ByteArray)++t1).size<=20001 by rw[ByteArray.size_append];have:=HT1.o;have e:(⟨#[49]⟩:ByteArray).size=1:=rfl;rw[e];omega);have HS2:=J (show((⟨#[49]⟩:ByteArray)++t2).size<=20001 by rw[ByteArray.size_append];have:=HT2.o;have e:(⟨#[49]⟩:ByteArray).size=1:=rfl;rw[e];omega)
     have HS3:=J (show((⟨#[48]⟩:ByteArray)++t3).size<=20001 by rw[ByteArray.size_append];have:=HT3.o;have e:(⟨#[48]⟩:ByteArray).size=1:=rfl;rw[e];omega);have HS4:=J (show t4.size<=20001 by have:=HT4.o;omega);generalize (⟨#[49]⟩:ByteArray)++t1=s1 at*;generalize (⟨#[49]⟩:ByteArray)++t2=s2 at*;generalize (⟨#[48]⟩:ByteArray)++t3=s3 at*;have bl:Below X12.heap.size X12 (X12.alloc (.cells (ntV s1 s2 s3 t4) 9)):=Lb.alloc La _;have R13:=J (R12.o.below bl);have G13:=J (G12.o.trans (Grew.of_below bl));have RB:=J (Ld X12 (.cells (ntV s1 s2 s3 t4) 9)).1
     have NB:=J (show X12.heap.size≠d.B by have:=z12 R12.o.blk;omega);clear bl R12 G12;unfold ntV at R13 G13 RB;go_wp2_with fail
     refine(z31 R13.o ybu 9 yh).mono ?_;rintro e X14 ⟨m9,rfl,hm90,hm91,hr9,hg9,-,ho⟩;have R14:=J hr9;have G14:=J (G13.o.trans hg9);have RB14:=J ((ho X12.heap.size NB.o).trans RB.o);obtain⟨y,hys,hy⟩:=nt_get HS1.o HS2.o HS3.o HS4.o m9 hm90 hm91;unfold ntV at hy;have cy:=(z8 RB14.o m9.toNat).trans hy;have HYs:=J hys;clear hr9 hg9 ho hy hys R13 G13 RB RB14;go_wp2_with fail
     go_ret;exact⟨_,_,rfl,by have:=HYs.o;omega,R14.o,ybu,G14.o⟩
    .have z82:(m8==2)=false:=by simp[h82]
     go_wp2_with fail
     go_ret;exact⟨_,_,rfl,by have:=HTt.o;omega,R8.o,ybu,G8.o⟩
structure RdK (t:ByteArray) (T:List Nd->Bool) (W:World) (a1:Option Addr) (l1 c1:Nat) (a2:Option Addr) (l2 c2:Nat) (es:List Ef) (ns:List Nd) (kk aa:Int):Prop where
 eff:EffSlice W (.slice a1 l1 c1) es
 nod:NodeSlice W (.slice a2 l2 c2) ns
 es_:es=esR (readZ t T)
 ns_:ns=nsR (readZ t T)
 kk_:kk=kR (readZ t T)
 aa_:aa=aR (readZ t T)
 le:es.length=l1
 ln:ns.length=l2
 fe:l1<=8
 fn:l2<=300
theorem RdK.below {l1 c1:Nat}{l2 c2:Nat}{kk aa:Int}(h:RdK t T W a1 l1 c1 a2 l2 c2 es ns kk aa) (hb:Below W.heap.size W W'):RdK t T W' a1 l1 c1 a2 l2 c2 es ns kk aa:=
 ⟨h.eff.below hb,h.nod.below hb,h.es_,h.ns_,h.kk_,h.aa_,h.le,h.ln,h.fe,h.fn⟩
def OwnR (W:World) (a1:Option Addr) (c1:Nat) (a2:Option Addr) (es:List Ef) (ns:List Nd):Prop:=
 ns≠ []-> ∃b be,a2=some ⟨b,0,none⟩/\b<W.heap.size/\NodesAt W b 0 ns/\(es≠ []->a1=some ⟨be,0,none⟩)/\be<W.heap.size/\EffsAt W be 0 es/\es.length<=c1
theorem OwnR.below {c1:Nat}(h:OwnR W a1 c1 a2 es ns) (hb:Below W.heap.size W W'):OwnR W' a1 c1 a2 es ns:=fun h0=>by
 obtain⟨b,be,h1,h2,h3,h4,h5,h6,h7⟩:=h h0;exact⟨b,be,h1,Le h2 hb.size,h3.below hb h2,h4,Le h5 hb.size,h6.below hb h5,h7⟩
def ReadK (own:Prop) (t:ByteArray) (T:List Nd->Bool) (W:World) (e:Ending) (W':World):Prop:=
 ∃a1 l1 c1 a2 l2 c2 es ns kk aa,e=.returned (.tuple #[.agg #[.slice a1 l1 c1,.slice a2 l2 c2],.agg #[.int .i64 kk,.int .i64 aa]])/\RdK t T W' a1 l1 c1 a2 l2 c2 es ns kk aa/\(own->OwnR W' a1 c1 a2 es ns)/\Below W.heap.size W W'
theorem readS_calls (t:ByteArray) (T:List Nd->Bool) (hT:∀ns,SpecAns ns (T ns)) (W:World):Calls prog 12 #[.string t] W (ReadK False t T W):=by
 refine(spec_ends t T hT W).mono ?_;rintro e W' ⟨ve,vt,rfl,h1,h2,hb⟩;obtain⟨a1,c1,rfl⟩:=effS_len h1;obtain⟨a2,c2,rfl⟩:=nodeS_len h2;have hf:=readZ_few t T;exact⟨a1,_,c1,a2,_,c2,_,_,_,_,rfl,⟨h1,h2,rfl,rfl,rfl,rfl,rfl,rfl,hf.1,hf.2⟩,fun h=>h.elim,hb⟩
theorem readI_calls (t:ByteArray) (T:List Nd->Bool) (hT:∀ns,ImplAns ns (T ns)) (W:World):Calls prog 9 #[.string t] W (ReadK True t T W):=by
 refine(implRead_calls t T hT W).mono ?_;intro e W' h;have hf:=readZ_few t T
 cases hr:readZ t T with
 | error x=>
   rw[hr]at h;exact⟨none,0,0,none,0,0,[],[],x.1,(x.2:Int),h.1,⟨⟨none,0,rfl,Or.inl rfl⟩,⟨none,0,rfl,Or.inl rfl⟩,ybv,ybv,ybv,ybv,rfl,rfl,Li _,Li _⟩,fun _ h0=>absurd rfl h0,h.2⟩
 | ok x=>
   rw[hr]at h hf;obtain⟨ve,vt,he,h1,h2,hb⟩:=h;have e1:=(owns_sliceR yh h1).effS;have e2:=(owns_sliceR yh h2).nodeS;obtain⟨a1,c1,rfl⟩:=effS_len e1;obtain⟨a2,c2,rfl⟩:=nodeS_len e2;refine⟨a1,_,c1,a2,_,c2,x.1,Tr.flat x.2,0,0,he,⟨e1,e2,ybv,ybv,ybv,ybv,rfl,rfl,hf.1,hf.2⟩,fun _ h0=>?_,hb⟩;obtain⟨b,g1,g2,-,g4⟩:=nodes_own h2 (List.length_pos_iff.2 h0);obtain⟨be,g5,g6,g7,g8⟩:=effs_own h1 g2;exact⟨b,be,g1,g2,g4,g5,g6,g8,g7⟩
theorem readZ_code {x:Int×Nat}(h:readZ t T=.error x):x.1≠0:=by
 unfold readZ at h;split at h
 .rename_i h0
  cases h;exact h0
 split at h
 .cases h;show(5:Int)≠0;decide
 split at h
 .cases h;show(5:Int)≠0;decide
 split at h
 .cases h;show(6:Int)≠0;decide
 split at h
 .cases h;show(7:Int)≠0;decide
 split at h
 .cases h
 .cases h;show(8:Int)≠0;decide
theorem readZ_prog {x:List Ef×Tr}(h:readZ t T=.ok x):progZ x.1 (Tr.flat x.2) (T (Tr.flat x.2))=true:=by
 unfold readZ at h;split at h
 .cases h
 split at h
 .cases h
 .repeat(split at h;· cases h)
  split at h
  .rename_i h0
   cases h;exact h0
  .cases h
theorem readT_calls {X:World}{l1 c1:Nat}{l2 c2:Nat}{kk aa:Int}(hL:Laid X) (hT:∀ns,SpecAns ns (T ns)/\ImplAns ns (T ns)) (h:RdK t T X a1 l1 c1 a2 l2 c2 es ns kk aa) (ho:OwnR X a1 c1 a2 es ns) (h0:kk=0) :
 ∃S n k,ns=n::k.flat/\RightP es n k S/\Calls prog 6 #[.agg #[.slice a1 l1 c1,.slice a2 l2 c2]] X (TextP X S):=by
 cases hr:readZ t T with
 |error x=>exact absurd (by rw[<-h0,h.kk_,hr];rfl) (readZ_code hr)
 | ok x=>
   obtain⟨xs,n,k⟩:=x;have e1:es=xs:=by rw[h.es_,hr];rfl
   have e2:ns=n::k.flat:=by rw[h.ns_,hr];rfl
   subst e1;have hp:=readZ_prog hr;have hw:=read_whole hr;have hTt:T (n::k.flat)=true:=prog_true hp;have hS:=(hT (n::k.flat)).1;have hI:=(hT (n::k.flat)).2;dsimp only[Tr.flat]at hp;rw[hTt]at hS hI hp;have hR:=right_prog hw.1 hw.2 hS hp;refine⟨progT es n k,n,k,e2,hR,?_⟩;obtain⟨b,be,rfl,hb,hN,hae,hbe,hE,hce⟩:=ho (by rw[e2];simp);have hx:=h.le;have hy:=h.ln;rw[<-hx,<-hy];rw[e2]at hN |-;refine implText_yes hce hae hbe hb hE (fun e he=>?_) hN (fun m hm=>?_) hL hS hI hp rfl hw.1 hw.2
   .have:=(hR.effs e he).name;simp only[nameOk,Bool.and_eq_true,decide_eq_true_eq]at this;unfold maxLen;omega
   .have h1:=neat_own (hR.own m hm);have h2:=h1.a;have h3:=h1.b;have h4:=h1.c;unfold maxLen;exact⟨yf,yf,yf⟩
theorem drawRead_calls (a0:Option Addr) (len cap:Nat) (W:World) (hl:len<=1048576) (hc:len<=cap) (hB:BytesAt W a0 len):Calls prog 11 #[.slice a0 len cap] W fun e W'=> ∃t:ByteArray,e=.returned (.string t)/\t.size<=50000/\Below W.heap.size W W':= by
 have HO:=J (ropen_calls a0 len cap W yf hc);have HB:=J hB;clear hB;go_enter func11,ntmps11
 go_wp2_with fail
 refine HO.o.mono ?_;rintro e W1 ⟨rfl,m,hm,rfl⟩;have HR:I (Rdr ⟨W.heap.size,W.heap.size,a0,m,cap⟩ (W.alloc (.cells #[.slice a0 m cap,.int .i64 0] 79)) 0):=by
  have hh:=(Ld W (.cells #[.slice a0 m cap,.int .i64 0] 79)).1;refine⟨hh,fun h0=>?_⟩;obtain⟨b,off,ea,hb,hz⟩:=HB.o (show 0<len by have:0<m:=h0;omega);refine⟨b,off,ea,⟨yk,by show b≠W.heap.size;omega,by show b≠W.heap.size;omega⟩,fun i hi=>?_⟩;obtain⟨z,hz,h1⟩:=hz i (by have:i<m:=hi;omega);exact⟨z,(((Below.refl W.heap.size W).alloc La _).cell (p:=⟨b,off+i,none⟩) hb).trans hz,h1⟩
 have HA:=J (drawnText_calls (d:=⟨W.heap.size,W.heap.size,a0,m,cap⟩) rfl HR.o yf);have HW:I (Below W.heap.size W (W.alloc (.cells #[.slice a0 m cap,.int .i64 0] 79))):=Lb.alloc La _;clear HO hm hl hc HB HR;go_wp2_with fail
 refine HA.o.mono ?_;rintro e W2 ⟨t,q,rfl,ht,-,-,hg⟩;have HT:=J ht;have HG:=J (hg.below (n:=W.heap.size) yn La La);clear ht hg HA;go_wp2_with fail
 go_ret;exact⟨_,rfl,HT.o,HW.o.trans HG.o⟩
theorem effW_slice {ad:Option Addr}{cp:Nat}(h:EffW W ad cp es):EffSlice W (.slice ad es.length cp) es:=by
 rcases h with ⟨rfl,rfl,rfl⟩|⟨be,rfl,h2,h3,-⟩
 .exact⟨none,0,rfl,Or.inl rfl⟩
 .exact⟨_,cp,rfl,Or.inr ⟨be,0,rfl,h2,h3⟩⟩
theorem nodeV_slice {v:Value}(h:NodeV W v ns):NodeSlice W v ns:=by
 rcases h with ⟨rfl,rfl⟩|⟨b,cap,rfl,h2,h3⟩
 .exact⟨none,0,rfl,Or.inl rfl⟩
 .exact⟨_,cap,rfl,Or.inr ⟨b,0,rfl,h2,h3⟩⟩
structure BoxK (W:World) (q:Nat) (x y:Value) (t:TypeId):Prop where
 blk:W.heap[q]?=some (.cells #[x,y] t)
theorem BoxK.below {t:TypeId}(h:BoxK W q x y t) (hb:Below W.heap.size W W'):BoxK W' q x y t:=⟨(hb.block q (z12 h.blk)).trans h.blk⟩
theorem BoxK.c0 {t:TypeId}(h:BoxK W q x y t):W.cell? ⟨q,0,none⟩=some x:=by rw[z8 h.blk 0];rfl
theorem BoxK.c1 {t:TypeId}(h:BoxK W q x y t):W.cell? ⟨q,1,none⟩=some y:=by rw[z8 h.blk 1];rfl
theorem rtext_walk (a0:Option Addr) (len cap:Nat) (W:World) (hcap:len<=cap) (hB:BytesAt W a0 len) (hL:Laid W) :
 Calls prog 3 #[.slice a0 len cap] W fun e W'=> e=.returned (.bool true)/\Below W.heap.size W W':= by
 by_cases hl:(1048576:Int)<(len:Int)
 .go_enter func3,ntmps3
  go_wp2_with fail
  go_ret;exact⟨rfl,Lb⟩
 have HD:=J (drawProg_calls a0 len cap W yf hcap hB);have HDr:=J (fun X (hX:Below W.heap.size W X)=>drawRead_calls a0 len cap X yf hcap (hB.below hX));have HLa:=J hL;obtain⟨T,hT⟩:∃T:List Nd->Bool,∀ns,SpecAns ns (T ns)/\ImplAns ns (T ns):=⟨fun ns=>Classical.choose (answers ns),fun ns=>Classical.choose_spec (answers ns)⟩
 have HT:=J hT;have hl':(len:Int)<=1048576:=yf;clear hB hl hcap hL hT;go_enter func3,ntmps3
 go_wp2_with fail
 refine HD.o.mono ?_;rintro e W1 ⟨ad,cp,v,es,ns,rfl,hE,he5,hBe,hN,hBn,hnl,hb1⟩;obtain⟨S,hBo⟩:=both_texts (HLa.o.stays hb1) hE he5 hBe hN hBn;have hES:=effW_slice hE;have hNS:=nodeV_slice hN;obtain⟨av,cv,rfl⟩:=nodeS_len hNS;obtain⟨le,hle⟩:∃n,es.length=n:=⟨_,rfl⟩
 obtain⟨ln,hln⟩:∃n,ns.length=n:=⟨_,rfl⟩
 have HSt:=J hBo.text.len;rw[hle,hln]at hBo;rw[hle]at hES;rw[hln]at hNS;have HLn:=J (show es.length=le/\ns.length=ln/\le<=5/\ln<=1000 by omega);have HBo:=J hBo;have HB1:=J hb1;have HRt:=J hBo.text.right;rw[hle,hln];have hA:=(Ld W1 (.cells #[.slice ad le cp,.slice av ln cv] 26)).1;have hb2:=(Below.refl W1.heap.size W1).alloc La (.cells #[.slice ad le cp,.slice av ln cv] 26);obtain⟨W2,hW2⟩:∃X,W1.alloc (.cells #[.slice ad le cp,.slice av ln cv] 26)=X:=⟨_,rfl⟩
 rw[hW2]at hA hb2;obtain⟨q,hq⟩:∃q,W1.heap.size=q:=⟨_,rfl⟩
 rw[hq]at hA;have HW2:=J hW2;have K2:I (BoxK W2 q (.slice ad le cp) (.slice av ln cv) 26):=⟨hA⟩
 have B2:=J hb2;have HP1:=J (Lc hES hNS);clear HD hb1 hE he5 hBe hN hBn hnl hBo hES hNS hle hln hA hb2 hW2 hl';go_upto_region 4 with fail
 rw[HW2.o];try rw[hq]
 clear HW2 hq;have c0:=K2.o.c0;have c1:=K2.o.c1;go_wp2_with fail
 refine(HBo.o.impl W2 B2.o).mono ?_;rintro e W3 ⟨rfl,hb3⟩;have K3:=J (K2.o.below hb3);have B3:=J (B2.o.trans (hb3.mono B2.o.size));clear hb3 c0 c1;obtain⟨SX,hSX⟩:∃x,tx S=x:=⟨_,rfl⟩
 have HSX:=J hSX;rw[hSX];clear hSX;have c0:=K3.o.c0;have c1:=K3.o.c1;go_wp2_with fail
 refine(HBo.o.spec W3 B3.o).mono ?_;rintro e W4 ⟨rfl,hb4⟩;have K4:=J (K3.o.below hb4);have B4:=J (B3.o.trans (hb4.mono B3.o.size));clear hb4 c0 c1;rw[HSX.o];have c0:=K4.o.c0;have c1:=K4.o.c1;have hss:(SX.toList !=SX.toList)=false:=yn;go_wp2_with fail
 refine(HBo.o.ok W4 B4.o).mono ?_;rintro e W5 ⟨⟨b,rfl,hbb⟩,hb5⟩;have K5:=J (K4.o.below hb5);have B5:=J (B4.o.trans (hb5.mono B4.o.size));have HBB:=J hbb;clear hb5 c0 c1 hss hbb;have hse:SX.toList.isEmpty=!b:=by
  have e:SX.toList=S:=by rw[<-HSX.o];simp[tx]
  rw[e];rcases HRt.o with ⟨rfl,hno⟩|⟨n,k,hn,hr⟩
  .cases b with
   |false=>rfl
   | true=>
     obtain⟨T',h1,h2⟩:=HBB.o.1 rfl;rw[hno T' h1]at h2
     cases h2
  .have hbt:b=true:=HBB.o.2 ⟨true,by rw[hn];exact hr.ans,by rw[hn];exact hr.ok⟩;rw[hbt]
   cases S with
   |nil=>exact absurd rfl hr.some
   |cons=>rfl
 have hbb2:(b !=b)=false:=by cases b<;>rfl
 have hcs:I (b=false\/(b=true/\ ¬ (SX.size:Int)<=1500)\/(b=true/\(SX.size:Int)<=1500/\ ∃n k,ns=n::k.flat/\readZ SX T=.ok (es,(n,k)))):=by
  cases hb':b with
  |false=>exact Or.inl rfl
  | true=>
    by_cases hz:(SX.size:Int)<=1500
    .refine Or.inr (Or.inr ⟨rfl,hz,?_⟩);rcases HRt.o with ⟨rfl,hno⟩|⟨n,k,hn,hr⟩
     .obtain⟨T',h1,h2⟩:=HBB.o.1 hb';rw[hno T' h1]at h2
      cases h2
     .refine⟨n,k,hn,?_⟩;rw[<-HSX.o];exact hr.read (fun ns=>(HT.o ns).1) (by rw[<-HSX.o,z32]at hz;omega)
    .exact Or.inr (Or.inl ⟨rfl,hz⟩)
 have HCs:=hcs;clear hcs;go_wp2_with fail
 refine(readI_calls SX T (fun ns=>(HT.o ns).2) W5).mono ?_;rintro e W6 ⟨a1,l1,d1,a2,l2,d2,es1,ns1,kk1,aa1,rfl,hk1,-,hb6⟩;obtain⟨hbA,hA1,hA2,hAs⟩:=two_blocks W6 (.cells #[.slice a1 l1 d1,.slice a2 l2 d2] 26) (.cells #[.int .i64 kk1,.int .i64 aa1] 31);obtain⟨W7,hW7⟩:∃X,(W6.alloc (.cells #[.slice a1 l1 d1,.slice a2 l2 d2] 26)).alloc (.cells #[.int .i64 kk1,.int .i64 aa1] 31)=X:=⟨_,rfl⟩
 rw[hW7]at hbA hA1 hA2;obtain⟨q1,hq1⟩:∃q,W6.heap.size=q:=⟨_,rfl⟩
 rw[hq1]at hA1 hA2;have HW7:=J hW7;have R7:=J (hk1.below hbA);have K7:=J ((K5.o.below hb6).below hbA);have P7:I (BoxK W7 q1 (.slice a1 l1 d1) (.slice a2 l2 d2) 26):=⟨hA1⟩
 have F7:I (BoxK W7 (q1+1) (.int .i64 kk1) (.int .i64 aa1) 31):=⟨hA2⟩
 have B7:=J (B5.o.trans ((hb6.trans (hbA.mono hb6.size)).mono B5.o.size));clear hk1 hb6 hbA hA1 hA2 hAs hW7 hbb2;go_upto_region 8 with fail
 rw[HW7.o];try rw[hq1]
 clear HW7 hq1 K5 B5 HBB HRt HSt HBo K2 K3 K4 B3 B4;have c0:=K7.o.c0;have c1:=K7.o.c1;have p0:=P7.o.c0;have p1:=P7.o.c1;have f0:=F7.o.c0;rcases HCs.o with rfl|⟨rfl,hz⟩|⟨rfl,hz,hrd⟩
 case' inl=>
  go_upto_region 10 with fail
  have BX:=J (HB1.o.trans (B7.o.mono HB1.o.size));generalize W7=X at*;clear c0 c1 p0 p1 f0 K7 P7 F7 R7 B7 HCs hse B2 HP1 HB1 HLn HSX
 case' inr.inl=>
  go_upto_region 10 with fail
  have BX:=J (HB1.o.trans (B7.o.mono HB1.o.size));generalize W7=X at*;clear c0 c1 p0 p1 f0 K7 P7 F7 R7 B7 HCs hse B2 HP1 HB1 HLn HSX hz
 case' inr.inr=>
  obtain⟨n,k,hn,hrd⟩:=hrd;have e1:es1=es:=by rw[R7.o.es_,hrd];rfl
  have e2:ns1=ns:=by rw[R7.o.ns_,hrd,hn];rfl
  have e3:kk1=0:=by rw[R7.o.kk_,hrd];rfl
  have HE12:=J (Lc e1.symm e2.symm);have HH:=J (hrProg_calls W7 (HP1.o.1.below B7.o) (HP1.o.2.below B7.o) R7.o.eff R7.o.nod (by have:=HLn.o;omega) (by have:=HLn.o;omega));subst e3;clear e1 e2 hrd hn;go_wp2_with fail
  refine HH.o.mono ?_;rintro e W8 ⟨⟨b2,rfl,hb2⟩,hb8⟩;have e4:b2=true:=hb2.2 HE12.o;have BX:=J (HB1.o.trans ((B7.o.trans (hb8.mono B7.o.size)).mono HB1.o.size));subst e4;clear hb2 hb8 HH HE12;go_upto_region 10 with fail
  generalize W8=X at*;clear c0 c1 p0 p1 f0 K7 P7 F7 R7 B7 HCs hse B2 HP1 HB1 HLn HSX hz
 all_goals
  go_wp2_with fail
  refine(HDr.o X BX.o).mono ?_;rintro e X1 ⟨t,rfl,-,hx1⟩;have BX1:=J (BX.o.trans (hx1.mono BX.o.size));clear hx1 BX HDr;go_wp2_with fail
  refine(readI_calls t T (fun ns=>(HT.o ns).2) X1).mono ?_;rintro e X2 ⟨a3,l3,d3,a4,l4,d4,es2,ns2,kk2,aa2,rfl,hk2,ho2,hx2⟩;obtain⟨hbA,hA1,hA2,hAs⟩:=two_blocks X2 (.cells #[.slice a3 l3 d3,.slice a4 l4 d4] 26) (.cells #[.int .i64 kk2,.int .i64 aa2] 31);obtain⟨X3,hX3⟩:∃X,(X2.alloc (.cells #[.slice a3 l3 d3,.slice a4 l4 d4] 26)).alloc (.cells #[.int .i64 kk2,.int .i64 aa2] 31)=X:=⟨_,rfl⟩
  rw[hX3]at hbA hA1 hA2;obtain⟨qa,hqa⟩:∃q,X2.heap.size=q:=⟨_,rfl⟩
  rw[hqa]at hA1 hA2;have HX3:=J hX3;have R3:=J (hk2.below hbA);have O3:=J ((ho2 trivial).below hbA);have P3:I (BoxK X3 qa (.slice a3 l3 d3) (.slice a4 l4 d4) 26):=⟨hA1⟩
  have F3:I (BoxK X3 (qa+1) (.int .i64 kk2) (.int .i64 aa2) 31):=⟨hA2⟩
  have BX3:=J (BX1.o.trans ((hx2.trans (hbA.mono hx2.size)).mono BX1.o.size));clear hk2 ho2 hx2 hbA hA1 hA2 hAs hX3 BX1;go_upto_region 12 with fail
  rw[HX3.o];try rw[hqa]
  clear HX3 hqa;go_wp2_with fail
  refine(readS_calls t T (fun ns=>(HT.o ns).1) X3).mono ?_;rintro e X4 ⟨a5,l5,d5,a6,l6,d6,es3,ns3,kk3,aa3,rfl,hk3,-,hx4⟩;have e1:kk3=kk2:=by rw[hk3.kk_,R3.o.kk_]
  have e2:aa3=aa2:=by rw[hk3.aa_,R3.o.aa_]
  subst e1 e2;obtain⟨hbA,hA1,hA2,hAs⟩:=two_blocks X4 (.cells #[.slice a5 l5 d5,.slice a6 l6 d6] 26) (.cells #[.int .i64 kk3,.int .i64 aa3] 31);obtain⟨X5,hX5⟩:∃X,(X4.alloc (.cells #[.slice a5 l5 d5,.slice a6 l6 d6] 26)).alloc (.cells #[.int .i64 kk3,.int .i64 aa3] 31)=X:=⟨_,rfl⟩
  rw[hX5]at hbA hA1 hA2;obtain⟨qb,hqb⟩:∃q,X4.heap.size=q:=⟨_,rfl⟩
  rw[hqb]at hA1 hA2;have HX5:=J hX5;have hb5:=hx4.trans (hbA.mono hx4.size);have R5:=J (R3.o.below hb5);have O5:=J (O3.o.below hb5);have P5:=J (P3.o.below hb5);have F5:=J (F3.o.below hb5);have S5:=J (hk3.below hbA);have PB:I (BoxK X5 qb (.slice a5 l5 d5) (.slice a6 l6 d6) 26):=⟨hA1⟩
  have FB:I (BoxK X5 (qb+1) (.int .i64 kk3) (.int .i64 aa3) 31):=⟨hA2⟩
  have BX5:=J (BX3.o.trans (hb5.mono BX3.o.size));have HH:=J (hrProg_calls X5 R5.o.eff R5.o.nod S5.o.eff S5.o.nod (by have:=R5.o.le;have:=R5.o.fe;omega) (by have:=R5.o.ln;have:=R5.o.fn;omega));have HSm:=J (show es2=es3/\ns2=ns3 from⟨by rw[R5.o.es_,S5.o.es_],by rw[R5.o.ns_,S5.o.ns_]⟩);clear hk3 hx4 hbA hA1 hA2 hAs hX5 hb5 R3 O3 P3 F3 BX3;go_upto_region 13 with fail
  rw[HX5.o];try rw[hqb]
  clear HX5 hqb;have p0:=P5.o.c0;have p1:=P5.o.c1;have f0:=F5.o.c0;have f1:=F5.o.c1;have w0:=PB.o.c0;have w1:=PB.o.c1;have g0:=FB.o.c0;have g1:=FB.o.c1;go_wp2_with fail
  refine HH.o.mono ?_;rintro e X6 ⟨⟨b3,rfl,hb3⟩,hx6⟩;have e4:b3=true:=hb3.2 HSm.o;subst e4;have R6:=J (R5.o.below hx6);have O6:=J (O5.o.below hx6);have P6:=J (P5.o.below hx6);have F6:=J (F5.o.below hx6);have BX6:=J (BX5.o.trans (hx6.mono BX5.o.size));clear hb3 hx6 HH HSm p0 p1 f0 f1 w0 w1 g0 g1 S5 PB FB R5 O5 P5 F5 BX5;have p0:=P6.o.c0;have p1:=P6.o.c1;have f0:=F6.o.c0;by_cases hk0:kk3=0
  .obtain⟨S2,n2,k2,hn2,hR2,hC2⟩:=readT_calls (HLa.o.stays BX6.o) HT.o R6.o O6.o hk0;subst hk0;have HC2:=J hC2;have HR2:=J (Lc hn2 hR2);clear hC2 hn2 hR2;go_wp2_with fail
   refine HC2.o.mono ?_;rintro e X7 ⟨rfl,hx7⟩;obtain⟨SY,hSY⟩:∃x,tx S2=x:=⟨_,rfl⟩
   have HSY:=J hSY;rw[hSY];have R7:=J (R6.o.below hx7);have P7:=J (P6.o.below hx7);have BX7:=J (BX6.o.trans (hx7.mono BX6.o.size));clear hSY hx7 p0 p1 f0 R6 O6 P6 F6 BX6 HC2;go_wp2_with fail
   refine(readI_calls SY T (fun ns=>(HT.o ns).2) X7).mono ?_;rintro e X8 ⟨a7,l7,d7,a8,l8,d8,es4,ns4,kk4,aa4,rfl,hk4,-,hx8⟩;obtain⟨hbA,hA1,hA2,hAs⟩:=two_blocks X8 (.cells #[.slice a7 l7 d7,.slice a8 l8 d8] 26) (.cells #[.int .i64 kk4,.int .i64 aa4] 31);obtain⟨X9,hX9⟩:∃X,(X8.alloc (.cells #[.slice a7 l7 d7,.slice a8 l8 d8] 26)).alloc (.cells #[.int .i64 kk4,.int .i64 aa4] 31)=X:=⟨_,rfl⟩
   rw[hX9]at hbA hA1 hA2;obtain⟨qc,hqc⟩:∃q,X8.heap.size=q:=⟨_,rfl⟩
   rw[hqc]at hA1 hA2;have HX9:=J hX9;have hb9:=hx8.trans (hbA.mono hx8.size);have R9:=J (R7.o.below hb9);have P9:=J (P7.o.below hb9);have S9:=J (hk4.below hbA);have PC:I (BoxK X9 qc (.slice a7 l7 d7) (.slice a8 l8 d8) 26):=⟨hA1⟩
   have FC:I (BoxK X9 (qc+1) (.int .i64 kk4) (.int .i64 aa4) 31):=⟨hA2⟩
   have BX9:=J (BX7.o.trans (hb9.mono BX7.o.size));clear hk4 hx8 hbA hA1 hA2 hAs hX9 hb9 R7 P7 BX7;go_upto_region 19 with fail
   rw[HX9.o];try rw[hqc]
   clear HX9 hqc;have p0:=P9.o.c0;have p1:=P9.o.c1;have w0:=PC.o.c0;have w1:=PC.o.c1;have g0:=FC.o.c0;by_cases hz2:(1500:Int)<(SY.size:Int)
   .go_wp2_with fail
    go_ret;exact⟨rfl,BX9.o⟩
   ·have hrd:readZ SY T=.ok (es2,(n2,k2)):=by
     rw[<-HSY.o];exact HR2.o.2.read (fun ns=>(HT.o ns).1) (by rw[<-HSY.o,z32]at hz2;omega)
    have e1:es4=es2:=by rw[S9.o.es_,hrd];rfl
    have e2:ns4=ns2:=by rw[S9.o.ns_,hrd,HR2.o.1];rfl
    have e3:kk4=0:=by rw[S9.o.kk_,hrd];rfl
    have HSm:=J (Lc e1 e2);have HH:=J (hrProg_calls X9 S9.o.eff S9.o.nod R9.o.eff R9.o.nod (by have:=S9.o.le;have:=S9.o.fe;omega) (by have:=S9.o.ln;have:=S9.o.fn;omega));subst e3;clear hrd e1 e2;go_wp2_with fail
    refine HH.o.mono ?_;rintro e Xa ⟨⟨b4,rfl,hb4⟩,hxa⟩;have e4:b4=true:=hb4.2 HSm.o;subst e4;have BXa:=J (BX9.o.trans (hxa.mono BX9.o.size));clear hb4 hxa HH p0 p1 w0 w1 g0;go_wp2_with fail
    go_ret;exact⟨rfl,BXa.o⟩
  ·have hl0:l4=0:=by
    rw[<-R6.o.ln,R6.o.ns_]
    cases hr:readZ t T with
    |error x=>rfl
    |ok x=>exact absurd (by rw[R6.o.kk_,hr];rfl) hk0
   subst hl0;go_wp2_with fail
   go_ret;exact⟨rfl,BX6.o⟩
end
end Go.Proofs.YtfbojelpdccjaaaGreatDoor
