import Derived.Deep.CutBlock
import Derived.Test.YtbbffkiobmbkfaaGreatDoorPkV8
open Go.Proofs.Tryz
open Go.Value Go.IntKind
set_option maxHeartbeats 2000000
set_option maxRecDepth 100000
namespace Go.Proofs.YtbbffkiobmbkfaaGreatDoor
open Go.RowKit Go.Deep
variable {a:Act}{ss:List ByteArray}{i n q:Nat}{t:Tp}{v vt:Value}{w:World}
section
open Go.RowKit Go.Deep
theorem info_insC:(prog.info? 53).map (fun i=>(i.zero,i.size,i.bytes))=some (some (.agg #[int i64 0,int i64 0,int i64 0,int i64 0]),4,32):=ye
theorem info_later:(prog.info? 60).map (fun i=>(i.zero,i.size,i.bytes))=some (some (.agg #[int i64 0,.slice none 0 0,int i64 0,int i64 0]),4,48):=ye
def PutPost (W0:World) (Mb:Nat) (ve vt:Value) (s:Cs) (i:In) (W:World) (e:Ending) (W':World):Prop:=
 e=.returned (int i64 (s.o.length:Int))/\CmE W0 Mb ve vt (s.put i) W'/\Cf W W'
theorem z53 {W0:World}{Mb:Nat}{ve:Value}{s:Cs}(i:In) {W:World}(h:CmE W0 Mb ve vt s W) (hl:s.o.length<=960000) :
 Calls prog 21 #[.pointer (some ⟨Mb,0,none⟩),.agg #[int i64 i.op,int i64 i.a,int i64 i.b,int i64 i.c]] W (PutPost W0 Mb ve vt s i W):=by
 obtain⟨ls,vo,vl,h⟩:=h;obtain⟨op,a,b,c⟩:=i;obtain⟨adp,cpp,hvp⟩:=z46 h.orow;subst hvp;have hbx:=(Ld W (.cells #[int i64 op,int i64 a,int i64 b,int i64 c] 53)).1;have hb0:Below W.heap.size W (W.alloc (.cells #[int i64 op,int i64 a,int i64 b,int i64 c] 53)):=Lb.alloc La _;obtain⟨Y,hY⟩:∃Y,W.alloc (.cells #[int i64 op,int i64 a,int i64 b,int i64 c] 53)=Y:=⟨_,rfl⟩
 have HY:=U hY;rw[hY]at hbx hb0;have St0:=U (h.below hb0);have HB0:=U hb0;have HBx:=U hbx;have HL:=U hl;have hsz:W.heap.size+1=Y.heap.size:=by rw[<-hY];simp
 have d1:=z11 St0.o.blk 2;simp at d1;have hPl:Mb<Y.heap.size:=z13 St0.o.blk;have hxl:W.heap.size<Y.heap.size:=ya;have e0:=z11 HBx.o 0;have e1:=z11 HBx.o 1;have e2:=z11 HBx.o 2;have e3:=z11 HBx.o 3;simp at e0 e1 e2 e3;clear h hl hY hb0 hbx;go_enter func21,ntmps21
 go_upto_region 1 with fail
 rw[HY.o];clear HY;have q0:∀y:Later Y.heap.size Y,y.w.cell? ⟨Mb,2,none⟩=_:=fun y=>y.cell hPl d1
 have p0:∀y:Later Y.heap.size Y,y.w.cell? ⟨W.heap.size,0,none⟩=_:=fun y=>y.cell hxl e0
 have p1:∀y:Later Y.heap.size Y,y.w.cell? ⟨W.heap.size,1,none⟩=_:=fun y=>y.cell hxl e1
 have p2:∀y:Later Y.heap.size Y,y.w.cell? ⟨W.heap.size,2,none⟩=_:=fun y=>y.cell hxl e2
 have p3:∀y:Later Y.heap.size Y,y.w.cell? ⟨W.heap.size,3,none⟩=_:=fun y=>y.cell hxl e3
 clear d1 e0 e1 e2 e3;refine till_begin (c:=7) (S:=fun w'=> ∃x:Later Y.heap.size Y,w'= x.w) ye ?_;refine till_walk ye 6 0 _ _ ye ye ⟨⟨Y.drew,Lb.drew⟩,rfl⟩ ?_;simp only[List.drop_zero,List.take_succ_cons,List.take_zero];repeat(go_big_quiet_step (fail))
 refine wpQuiet_nil ?_;rintro w7 ⟨x1,rfl⟩;have hL1:=x1.h;clear q0 p0 p1 p2 p3;generalize x1.w=X1 at*;refine zb80 ?_;intro hE hKx;generalize X1.alloc (.cells #[int i64 op,int i64 a,int i64 b,int i64 c] 53)=X2 at*;have St2:=U (St0.o.below hKx);obtain⟨i0,hi,hz0,hz1,hz2⟩:=info_parts info_insC;obtain⟨vp2,X3,hrun,hown,hgrow,-,hat⟩:=run_append_own_at (P:=prog) X2 W0.heap.size 28 28 53 i0 _ 4 32 underlying28 hi hz0 hz1 hz2 rfl yk (.slice adp s.o.length cpp) s.o.length (rowZ In.cell 4 s.o) St2.o.orow ⟨X1.heap.size,0,none⟩ 1 1 [int i64 op,int i64 a,int i64 b,int i64 c] rfl (fun j u hu=>by
  rw[Addr.add_lit];match j,hu with
  |0,hu=>simp at hu;subst hu;exact z11 hE 0
  |1,hu=>simp at hu;subst hu;exact z11 hE 1
  |2,hu=>simp at hu;subst hu;exact z11 hE 2
  |3,hu=>simp at hu;subst hu;exact z11 hE 3) (fun u hu=>by
  simp at hu;rcases hu with rfl|rfl|rfl|rfl<;>rfl) jm jc St2.o.size
 have hnx:=cm_put St2.o ⟨op,a,b,c⟩ hown hgrow;refine till_cut (v:=vp2) (w1:=X3) rfl ye rfl (z45 (s:=.tmp 9) (x:=.tmp 11) (t:=28) rfl rfl rfl hrun) yg ?_;refine any_stage (fun _=>True) ?_;have hb3:=(hgrow.block Mb (z13 St2.o.blk) (row_ne St2.o.orow St2.o.blk yk)).trans St2.o.blk;have d1:=z11 hb3 2;have w1:=z15 hb3 2;simp at d1;obtain⟨ad2,cp2,hv2⟩:=z46 hown;subst hv2;refine stage_make (k:=8) (v:=.pointer (some ⟨Mb,0,none⟩)) (w1:=X3) rfl ye rfl yf trivial yg ?_;refine stage_make (k:=9) (v:=.pointer (some ⟨Mb,2,none⟩)) (w1:=X3) rfl ye rfl yf trivial yg ?_
 refine stage_skip (k:=10) rfl (w1:=X3.setCell ⟨Mb,2,none⟩ (.slice ad2 (s.o.length+1) cp2)) rfl ye rfl yo trivial ?_;refine stage_end ye ?_;have HNx:=U hnx.1;have HFr:=U (((Cf.of_below HB0.o).trans (Cf.of_below hKx)).trans hnx.2);have hfin:=z11 (maker_set2 hb3 (.slice ad2 (s.o.length+1) cp2)) 2;simp at hfin;clear hnx hrun hown hgrow hat hE hKx hi hz0 hz1 hz2 hb3 d1 w1 St2 St0 HBx HB0 hL1 hPl hxl hsz;generalize X3.setCell ⟨Mb,2,none⟩ (.slice ad2 (s.o.length+1) cp2)=Z at*;go_wp2_with fail
 rw[show wrap64 (s.o.length:Int)=(s.o.length:Int) by have:=HL.o;unfold wrap64;omega];go_ret;exact⟨rfl,HNx.o,HFr.o⟩
def LeadPost (W0:World) (Mb:Nat) (ve vt:Value) (s:Cs) (W:World) (e:Ending) (W':World):Prop:=
 (∃x,e=.returned x)/\CmE W0 Mb ve vt s W'/\Cf W W'
def Cl (W W':World):Prop:= ∀(q:Nat) (c:Array Value),W.heap[q]?=some (Obj.cells c 60)->W'.heap[q]?=W.heap[q]?
def LeadPost2 (W0:World) (Mb:Nat) (ve vt:Value) (s:Cs) (W:World) (e:Ending) (W':World):Prop:=LeadPost W0 Mb ve vt s W e W'/\Cl W W'
theorem lead_a (i:In) (v:Int):i.lead 0 v=⟨i.op,v,i.b,i.c⟩:=rfl
theorem lead_b (i:In) (v:Int):i.lead 1 v=⟨i.op,i.a,v,i.c⟩:=rfl
theorem lead_c (i:In) (v:Int):i.lead 2 v=⟨i.op,i.a,i.b,v⟩:=rfl
theorem box_set {W:World}{x0 x1 x2 x3:Value}(h:W.heap[q]?=some (.cells #[x0,x1,x2,x3] 53)) (v:Value) :
 (W.setCell ⟨q,1,none⟩ v).heap[q]?=some (.cells #[x0,v,x2,x3] 53)/\(W.setCell ⟨q,2,none⟩ v).heap[q]?=some (.cells #[x0,x1,v,x3] 53)/\(W.setCell ⟨q,3,none⟩ v).heap[q]?=some (.cells #[x0,x1,x2,v] 53):=by
 refine⟨?_,?_,?_⟩<;>simp[World.setCell,Array.getElem?_modify,h]
theorem Cm.box {W0:World}{Mb:Nat}{ve:Value}{s:Cs}{ls:List (Lt×Value)}{vo vl:Value}{W Y:World}(h:Cm W0 Mb ve vt s ls vo vl W) (hb:Below W.heap.size W Y) (hq:W.heap.size<=q) (j:Nat) (v:Value):Cm W0 Mb ve vt s ls vo vl (Y.setCell ⟨q,j,none⟩ v)/\Below W.heap.size W (Y.setCell ⟨q,j,none⟩ v):=by
 have hb2:Below W.heap.size W (Y.setCell ⟨q,j,none⟩ v):=⟨hb.os,hb.tape,hb.output,by simp[World.setCell];exact hb.size,fun k hk=>(Lg Y ⟨q,j,none⟩ v k (by show k≠q;omega)).trans (hb.block k hk)⟩
 exact⟨h.below hb2,hb2⟩
theorem lead2_calls {W0:World}{Mb:Nat}{ve:Value}{s:Cs}(fr wh:Nat) {W:World}(h:CmE W0 Mb ve vt s W) (hl:s.o.length<=960000) (hfr:fr<s.o.length) (hwh:wh=0\/wh=1\/wh=2) :
 Calls prog 22 #[.pointer (some ⟨Mb,0,none⟩),int i64 (fr:Int),int i64 (wh:Int)] W (LeadPost2 W0 Mb ve vt (s.lead fr wh) W):=by
 obtain⟨ls,vo,vl,h⟩:=h;obtain⟨g,cap,hvo⟩:∃g cap,vo=.slice (some ⟨g,0,none⟩) s.o.length cap:=by
  obtain⟨-,⟨-,h0⟩|⟨g,cap,cur,e,-⟩⟩:=h.orow
  .omega
  .exact⟨g,cap,e⟩
 subst hvo;have d2:=z11 h.blk 2;simp at d2;have hc:∀j,j<4->W.cell? ⟨g,fr*4+j,none⟩=some ((s.o.getD fr default).cell j):=fun j hj=>by
  rw[h.orow.cellAt (fr*4+j) ya,z51 In.cell 4 yk s.o _ ya];rw[show(fr*4+j)/4=fr by omega,show(fr*4+j) % 4=j by omega]
 obtain⟨i,hi⟩:∃i,s.o.getD fr default=i:=⟨_,rfl⟩
 rw[hi]at hc;have c0:=hc 0 ya;have c1:=hc 1 ya;have c2:=hc 2 ya;have c3:=hc 3 ya;obtain⟨op,a,b,c⟩:=i;simp only[In.cell,Nat.add_zero]at c0 c1 c2 c3;have HI:=U hi;have hA:=(Ld W (.cells #[int i64 op,int i64 a,int i64 b,int i64 c] 53)).1;have hB:=(Below.refl W.heap.size W).alloc La (.cells #[int i64 op,int i64 a,int i64 b,int i64 c] 53);obtain⟨Y,hY⟩:∃Y,W.alloc (.cells #[int i64 op,int i64 a,int i64 b,int i64 c] 53)=Y:=⟨_,rfl⟩
 have HY:=U hY;rw[hY]at hA hB;have HA:=U hA;have HB:=U hB;have HSt:=U h;have HL:=U (Lc hl hfr);have hgW:g<W.heap.size:=by obtain⟨-,cur,hcur⟩:=z40 h.orow (g:=g) rfl;exact z13 hcur
 have HFin:O (∀Z wh',Cm W0 Mb ve vt s ls (.slice (some ⟨g,0,none⟩) s.o.length cap) vl Z->Below W.heap.size W Z->LeadPost2 W0 Mb ve vt (s.lead fr wh') W (.returned (.tuple #[])) (quad Z g fr ((⟨op,a,b,c⟩:In).lead wh' s.o.length))):=fun Z wh' hz hf=>by
  have h2:=cm_lead hz hfr wh';obtain⟨-,cur,hcur⟩:=z40 hz.orow (g:=g) rfl;have h3:=(quad_other Z g fr ((⟨op,a,b,c⟩:In).lead wh' s.o.length)).1;rw[hi]at h2;refine⟨⟨⟨_,rfl⟩,h2.1,(Cf.of_below hf).trans h2.2⟩,fun q x hq=>?_⟩;have h4:=hf.block q (z13 hq);exact(h3 q (fun e=>by subst e;rw[h4,hq]at hcur;cases hcur)).trans h4
 clear hi hY hc h hl hA hB;have hf0:(0:Int)<=(fr:Int):=ya;have hf1:(fr:Int)<(s.o.length:Int):=ya;go_enter func22,ntmps22
 go_upto_region 1 with fail
 rw[HY.o];have d2:=z11 (HSt.o.below HB.o).blk 2;simp at d2;clear HY c0 c1 c2 c3;rcases hwh with hw|hw|hw
 .subst hw;obtain⟨Z,hZ⟩:∃Z,Y.setCell ⟨W.heap.size,1,none⟩ (int i64 (s.o.length:Int))=Z:=⟨_,rfl⟩
  have hbox:=(box_set HA.o (int i64 (s.o.length:Int))).1;have hst:=HSt.o.box HB.o La 1 (int i64 (s.o.length:Int));have a1:=z11 HA.o 1;have a2:=z15 HA.o 1;simp at a1;rw[hZ]at hbox hst;have HZ:=U hZ;clear hZ;go_upto_region 8 with fail
  refine zb23 ?_;intro HBx St b2 e0 e1 e2 e3;clear HZ a1 a2;simp at b2 e0 e1 e2 e3;refine zb9 ?_;intro hPl hxl q0 p0 p1 p2 p3;clear b2 e0 e1 e2 e3 hbox hst;repeat(go_big_quiet_step (fail))
  refine wpQuiet_nil ?_;rintro w7 ⟨x1,rfl⟩;have hL1:=x1.h;clear q0 p0 p1 p2 p3;generalize x1.w=X1 at*;have S1:=U (St.o.1.below hL1);refine zb7 ?_;intro F1 hd cur hcur f0 f1 f2 f3 k0 k1;have k2:=hd 2 ya;have k3:=hd 3 ya;rw[Nat.add_zero]at k0;refine stage_skip (k:=7) rfl (w1:=quad X1 g fr ⟨op,s.o.length,b,c⟩) rfl ye rfl ul trivial ?_;refine stage_end ye ?_;have HR:=U (HFin.o X1 0 S1.o F1.o);rw[lead_a]at HR;clear f0 f1 f2 f3 k0 k1 k2 k3 hcur hd hL1 S1 F1 St HBx hPl hxl;generalize quad X1 g fr ⟨op,s.o.length,b,c⟩=Z2 at*;go_wp2_with fail
  go_end0
  exact HR.o
 .subst hw;obtain⟨Z,hZ⟩:∃Z,Y.setCell ⟨W.heap.size,2,none⟩ (int i64 (s.o.length:Int))=Z:=⟨_,rfl⟩
  have hbox:=(box_set HA.o (int i64 (s.o.length:Int))).2.1;have hst:=HSt.o.box HB.o La 2 (int i64 (s.o.length:Int));have a1:=z11 HA.o 2;have a2:=z15 HA.o 2;simp at a1;rw[hZ]at hbox hst;have HZ:=U hZ;clear hZ;go_upto_region 8 with fail
  refine zb23 ?_;intro HBx St b2 e0 e1 e2 e3;clear HZ a1 a2;simp at b2 e0 e1 e2 e3;refine zb9 ?_;intro hPl hxl q0 p0 p1 p2 p3;clear b2 e0 e1 e2 e3 hbox hst;repeat(go_big_quiet_step (fail))
  refine wpQuiet_nil ?_;rintro w7 ⟨x1,rfl⟩;have hL1:=x1.h;clear q0 p0 p1 p2 p3;generalize x1.w=X1 at*;have S1:=U (St.o.1.below hL1);refine zb7 ?_;intro F1 hd cur hcur f0 f1 f2 f3 k0 k1;have k2:=hd 2 ya;have k3:=hd 3 ya;rw[Nat.add_zero]at k0;refine stage_skip (k:=7) rfl (w1:=quad X1 g fr ⟨op,a,s.o.length,c⟩) rfl ye rfl ul trivial ?_;refine stage_end ye ?_;have HR:=U (HFin.o X1 1 S1.o F1.o);rw[lead_b]at HR;clear f0 f1 f2 f3 k0 k1 k2 k3 hcur hd hL1 S1 F1 St HBx hPl hxl;generalize quad X1 g fr ⟨op,a,s.o.length,c⟩=Z2 at*;go_wp2_with fail
  go_end0
  exact HR.o
 .subst hw;obtain⟨Z,hZ⟩:∃Z,Y.setCell ⟨W.heap.size,3,none⟩ (int i64 (s.o.length:Int))=Z:=⟨_,rfl⟩
  have hbox:=(box_set HA.o (int i64 (s.o.length:Int))).2.2;have hst:=HSt.o.box HB.o La 3 (int i64 (s.o.length:Int));have a1:=z11 HA.o 3;have a2:=z15 HA.o 3;simp at a1;rw[hZ]at hbox hst;have HZ:=U hZ;clear hZ;go_upto_region 8 with fail
  refine zb23 ?_;intro HBx St b2 e0 e1 e2 e3;clear HZ a1 a2;simp at b2 e0 e1 e2 e3;refine zb9 ?_;intro hPl hxl q0 p0 p1 p2 p3;clear b2 e0 e1 e2 e3 hbox hst;repeat(go_big_quiet_step (fail))
  refine wpQuiet_nil ?_;rintro w7 ⟨x1,rfl⟩;have hL1:=x1.h;clear q0 p0 p1 p2 p3;generalize x1.w=X1 at*;have S1:=U (St.o.1.below hL1);refine zb7 ?_;intro F1 hd cur hcur f0 f1 f2 f3 k0 k1;have k2:=hd 2 ya;have k3:=hd 3 ya;rw[Nat.add_zero]at k0;refine stage_skip (k:=7) rfl (w1:=quad X1 g fr ⟨op,a,b,s.o.length⟩) rfl ye rfl ul trivial ?_;refine stage_end ye ?_;have HR:=U (HFin.o X1 2 S1.o F1.o);rw[lead_c]at HR;clear f0 f1 f2 f3 k0 k1 k2 k3 hcur hd hL1 S1 F1 St HBx hPl hxl;generalize quad X1 g fr ⟨op,a,b,s.o.length⟩=Z2 at*;go_wp2_with fail
  go_end0
  exact HR.o
theorem lead_calls {W0:World}{Mb:Nat}{ve:Value}{s:Cs}(fr wh:Nat) {W:World}(h:CmE W0 Mb ve vt s W) (hl:s.o.length<=960000) (hfr:fr<s.o.length) (hwh:wh=0\/wh=1\/wh=2) :
 Calls prog 22 #[.pointer (some ⟨Mb,0,none⟩),int i64 (fr:Int),int i64 (wh:Int)] W (LeadPost W0 Mb ve vt (s.lead fr wh) W):=(lead2_calls fr wh h hl hfr hwh).mono fun _ _ x=>x.1
theorem later_cells (x0 x1 x2 x3:Value) (h0:x0.oneCell'= true) (h1:x1.oneCell'= true) (h2:x2.oneCell'= true) (h3:x3.oneCell'= true):∀u∈ [x0,x1,x2,x3],u.oneCell'= true:=fun u hu=>by
 simp at hu;rcases hu with rfl|rfl|rfl|rfl
 .exact h0
 .exact h1
 .exact h2
 .exact h3
theorem wait_calls {W0:World}{Mb:Nat}{ve:Value}{s:Cs}(l:Lt) {W:World}(h:CmE W0 Mb ve vt s W) (hl:s.later.length<=960000) (hn:NmT W v l.names) :
 Calls prog 56 #[.pointer (some ⟨Mb,0,none⟩),int i64 (l.t.at_:Int),v,int i64 (l.fr:Int),int i64 (l.wh:Int)] W (LeadPost W0 Mb ve vt (s.wait l) W):=by
 obtain⟨ls,vo,vl,h⟩:=h;obtain⟨adp,cpp,hvp⟩:=z46 h.lrow;subst hvp;obtain⟨adn,cpn,hvn⟩:=hn.is;have hll:ls.length=s.later.length:=by rw[<-h.lfst,List.length_map]
 have hE:=(Ld W (.cells #[int i64 (l.t.at_:Int),v,int i64 (l.fr:Int),int i64 (l.wh:Int)] 60)).1;have hB:=(Below.refl W.heap.size W).alloc La (.cells #[int i64 (l.t.at_:Int),v,int i64 (l.fr:Int),int i64 (l.wh:Int)] 60);have hone:v.oneCell'= true:=by rw[hvn];rfl
 have St2:=U (h.below hB);have HN2:=U (hn.frame (Cf.of_below hB));have HCf:=U (Cf.of_below hB);have HE:=U hE;have HL:=U (Lc hl hll);have HO:=U hone;obtain⟨i0,hi,hz0,hz1,hz2⟩:=info_parts info_later;have d3:=z11 h.blk 3;simp at d3;have hcs:∀(j:Nat) (u:Value),[Value.int .i64 (l.t.at_:Int),v,int i64 (l.fr:Int),int i64 (l.wh:Int)][j]?=some u->(W.alloc (.cells #[int i64 (l.t.at_:Int),v,int i64 (l.fr:Int),int i64 (l.wh:Int)] 60)).cell? (Addr.add ⟨W.heap.size,0,none⟩ j)=some u:=fun j u hu=>by
  rw[Addr.add_lit];match j,hu with
  |0,hu=>simp at hu;subst hu;exact z11 hE 0
  |1,hu=>simp at hu;subst hu;exact z11 hE 1
  |2,hu=>simp at hu;subst hu;exact z11 hE 2
  |3,hu=>simp at hu;subst hu;exact z11 hE 3
 have HCs:=U hcs;have HOc:=U (later_cells (int i64 (l.t.at_:Int)) v (int i64 (l.fr:Int)) (int i64 (l.wh:Int)) rfl hone rfl rfl);clear h hB hE hn hll hl hone hcs HO;subst hvn;go_enter func56,ntmps56
 go_wp2_with (at_builtin;refine wpList_append_own_at _ rfl _ _ 55 rfl W0.heap.size 60 i0 (.agg #[int i64 0,.slice none 0 0,int i64 0,int i64 0]) 4 48 underlying55 hi hz0 hz1 hz2 rfl yk _ _ _ rfl St2.o.lrow ⟨W.heap.size,0,none⟩ 1 1 [int i64 (l.t.at_:Int),.slice adn l.names.length cpn,int i64 (l.fr:Int),int i64 (l.wh:Int)] rfl rfl HCs.o HOc.o jm jc St2.o.size ?_;intro vp2 X3 hown hgrow hnil hat;obtain⟨ad2,cp2,hv2⟩:=z46 hown;subst hv2;have hnx:=cm_wait St2.o l HN2.o hown hgrow;have hb3:=(hgrow.block Mb (z13 St2.o.blk) (row_ne St2.o.lrow St2.o.blk yk)).trans St2.o.blk;have w3:=z15 hb3 3;have x3:=z11 hb3 3;simp at x3;have HNx:=U hnx.1;have HFr:=U (HCf.o.trans hnx.2);clear hown hgrow hnil hat hnx hb3)
 go_end0
 exact⟨⟨_,rfl⟩,HNx.o,HFr.o⟩
def ClZ (p:Int) (i:Nat) (n:Nd):Prop:=((p=23\/p=24)->i≠0->n.kind=if i=1 then 25 else 26)/\(¬ ((p=23\/p=24)/\i≠0)->n.kind≠25/\n.kind≠26)
theorem clz_none {n:Nd}{p:Int}(h:headOk n (role p i)=true) (hc:¬ ((p=23\/p=24)/\i≠0)):n.kind≠25/\n.kind≠26:=by
 have hr:role p i=0:=by
  unfold role;by_cases hp:p=23\/p=24
  ·have:i=0:=by
    by_cases h0:i=0
    .exact h0
    .exact absurd ⟨hp,h0⟩ hc
   subst this;rw[if_pos hp];rfl
  .rw[if_neg hp]
 rw[hr]at h;unfold headOk at h;simp only[Lq]at h;exact⟨fun e=>by have:=h.1.1;simp[e]at this,fun e=>by have:=h.1.2;simp[e]at this⟩
theorem clz_of {n:Nd}{p:Int}(h:headOk n (role p i)=true):ClZ p i n:=⟨fun hp hi=>by
 unfold role at h;rw[if_pos hp]at h;unfold headOk at h;simp only[Lq]at h;by_cases h1:i=1
 .subst h1;rw[if_pos rfl];simpa using h.1.1
 .rw[if_neg h1];have hr:(if 2<i then 2 else i)=2:=by split<;>omega
  rw[hr]at h;simpa using h.1.2,clz_none h⟩
def BdF (p:Nd):Nat->Fo->List ByteArray->Prop
 |_,.none,_=>True
 |i,.tree n k r,ss=>((n.kind=5->n.a∈ss++knownZ p i)/\ClZ p.kind i n)/\BdF n 0 k (ss++knownZ p i)/\BdF p (i+1) r ss
def BdT (t:Tp) (ss:List ByteArray):Prop:=((t.n.kind=5->t.n.a∈ss)/\t.n.kind≠25/\t.n.kind≠26)/\BdF t.n 0 t.k ss
theorem bdF_at (p:Nd) (ss:List ByteArray):∀(f:Fo) (j q i:Nat),BdF p j f ss->i<f.count-> ¬ ((p.kind=23\/p.kind=24)/\j+i≠0)->BdT ((kidsAt f q).getD i default) (ss++knownZ p (j+i))
 |.none,_,_,_,_,h,_=>un
 | .tree n k r,j,q,0,h,_,hc=>by
   simp only[kidsAt,List.getD_cons_zero,Nat.add_zero]at hc |-;exact⟨⟨h.1.1,h.1.2.2 hc⟩,h.2.1⟩
 | .tree n k r,j,q,i+1,h,hi,hc=>by
   simp only[kidsAt,List.getD_cons_succ];rw[show j+(i+1)=j+1+i by omega]at hc |-;exact bdF_at p ss r (j+1) _ i h.2.2 uo hc
theorem bdS_at (p:Nd) (ss:List ByteArray):∀(f:Fo) (j q i:Nat),BdF p j f ss->i<f.count->BdF ((kidsAt f q).getD i default).n 0 ((kidsAt f q).getD i default).k (ss++knownZ p (j+i))
 |.none,_,_,_,_,h=>un
 | .tree n k r,j,q,0,h,_=>by
   simp only[kidsAt,List.getD_cons_zero,Nat.add_zero];exact h.2.1
 | .tree n k r,j,q,i+1,h,hi=>by
   simp only[kidsAt,List.getD_cons_succ];rw[show j+(i+1)=j+1+i by omega];exact bdS_at p ss r (j+1) _ i h.2.2 uo
theorem clF_at (p:Nd) (ss:List ByteArray):∀(f:Fo) (j q i:Nat),BdF p j f ss->i<f.count->ClZ p.kind (j+i) ((kidsAt f q).getD i default).n
 |.none,_,_,_,_,h=>un
 | .tree n k r,j,q,0,h,_=>by
   simp only[kidsAt,List.getD_cons_zero,Nat.add_zero];exact h.1.2
 | .tree n k r,j,q,i+1,h,hi=>by
   simp only[kidsAt,List.getD_cons_succ];rw[show j+(i+1)=j+1+i by omega];exact clF_at p ss r (j+1) _ i h.2.2 uo
theorem BdT.clause (h:BdT t ss) (hi:i<t.k.count):ClZ t.n.kind i (t.kid i).n:=by
 have:=clF_at t.n ss t.k 0 (t.at_+1) i h.2 hi;rw[Nat.zero_add]at this;exact this
theorem BdT.inner (h:BdT t ss) (hi:i<t.k.count) (hc:(t.kid i).k.count=1):BdT ((t.kid i).kid 0) (ss++knownZ t.n i++knownZ (t.kid i).n 0):=by
 have h1:=bdS_at t.n ss t.k 0 (t.at_+1) i h.2 hi;rw[Nat.zero_add]at h1;have h2:=bdF_at (t.kid i).n _ (t.kid i).k 0 ((t.kid i).at_+1) 0 h1 ya ya;rw[Nat.zero_add]at h2;exact h2
theorem BdT.kid (h:BdT t ss) (hi:i<t.k.count) (hnc:¬ ((t.n.kind=23\/t.n.kind=24)/\i≠0):=by omega):BdT (t.kid i) (ss++knownZ t.n i):=by
 have:=bdF_at t.n ss t.k 0 (t.at_+1) i h.2 hi (by rw[Nat.zero_add];exact hnc);rw[Nat.zero_add]at this;exact this
theorem BdT.kidN (h:BdT t ss) (hi:i<t.k.count) {ms:List ByteArray}(hm:knownZ t.n i=ms) (hnc:¬ ((t.n.kind=23\/t.n.kind=24)/\i≠0):=by omega):BdT (t.kid i) (ss++ms):=hm ▸ h.kid hi hnc
theorem BdT.kid0 (h:BdT t ss) (hi:i<t.k.count) (hm:knownZ t.n i= []) (hnc:¬ ((t.n.kind=23\/t.n.kind=24)/\i≠0):=by omega):BdT (t.kid i) ss:=by
 have:=h.kidN hi hm hnc;rwa[List.append_nil]at this
def Sco.keys (sc:Sco):List ByteArray:=(sc.map Prod.fst).reverse
theorem keys_find:∀(sc:Sco) (x:ByteArray),findS sc x≠none↔x∈sc.map Prod.fst
 |[],x=>by simp[findS]
 | (a,b)::r,x=>by
   unfold findS;split
   .rename_i h;subst h;simp
   .rename_i h;rw[keys_find r x,List.map_cons,List.mem_cons];constructor
    .exact Or.inr
    .rintro (e|e)
     .exact absurd e.symm h
     .exact e
theorem zip_keys:∀(l m:List ByteArray) (sc:Sco),l.length=m.length->((l.zip m).foldl (fun s p=>p::s) sc).map Prod.fst=l.reverse++sc.map Prod.fst
 |[],[],sc,_=>yq
 |[],_::_,_,h=>vy
 |_::_,[],_,h=>vy
 | a::l,b::m,sc,h=>by
   rw[List.zip_cons_cons,List.foldl_cons,zip_keys l m _ zx];simp
theorem kidsW_grow (old new:Nd):∀(f:Fo) (i:Nat) (sc:Sco) (s:Wst),s.free.length<=(kidsW old new i f sc s).free.length
 |.none,_,_,_=>La
 | .tree n k r,i,sc,s=>by
   unfold kidsW;refine Lf ?_ (kidsW_grow old new r (i+1) sc _);refine Lf ?_ (kidsW_grow n _ k 0 _ _);simp[stepW]
theorem bd_free:∀(f:Fo) (old new:Nd) (i:Nat) (sc:Sco) (s:Wst) (ops:List ByteArray),new.kind=old.kind->specKids f old.kind i ops=true->(kidsW old new i f sc s).free.length=s.free.length->BdF old i f sc.keys
 |.none,_,_,_,_,_,_,_,_,_=>trivial
 | .tree n k r,old,new,i,sc,s,ops,hk,hsk,h=>by
   simp only[specKids,Lq]at hsk;have hsr:∃ops',specKids r old.kind (i+1) ops'= true:=by
    have h2:=hsk.2.2;split at h2
    .rw[Lq]at h2;exact⟨_,h2.2⟩
    .exact⟨_,h2⟩
   obtain⟨ops',hsr⟩:=hsr;unfold kidsW at h;have g1:=kidsW_grow old new r (i+1) sc (kidsW n (renZ n (openS old new i sc) s.made) 0 k (openS old new i sc) (stepW n (openS old new i sc) s));have g2:=kidsW_grow n (renZ n (openS old new i sc) s.made) k 0 (openS old new i sc) (stepW n (openS old new i sc) s);have g3:(stepW n (openS old new i sc) s).free.length=s.free.length+(lostZ n (openS old new i sc)).length:=by simp[stepW]
   have hkeys:(openS old new i sc).keys=sc.keys++knownZ old i:=by
    unfold Sco.keys openS;rw[zip_keys _ _ _ (knownZ_same hk.symm i)];simp
   refine⟨⟨fun h5=>?_,clz_of hsk.1⟩,?_,?_⟩
   ·have hl:lostZ n (openS old new i sc)= []:=Lu ya;unfold lostZ at hl;have hf:findS (openS old new i sc) n.a≠none:=fun e=>by
     rw[if_pos ⟨h5,e⟩]at hl
     cases hl
    rw[keys_find]at hf;rw[<-hkeys];unfold Sco.keys;rw[List.mem_reverse];exact hf
   .rw[<-hkeys];exact bd_free k n (renZ n (openS old new i sc) s.made) 0 (openS old new i sc) (stepW n (openS old new i sc) s) [] (renZ_kind _ _ _) hsk.2.1 ya
   .exact bd_free r old new (i+1) sc (kidsW n (renZ n (openS old new i sc) s.made) 0 k (openS old new i sc) (stepW n (openS old new i sc) s)) ops' hk hsr ya
theorem bd_whole {n:Nd}{k:Fo}(hne:n.kind≠25/\n.kind≠26) (hsk:specKids k n.kind 0 []=true) (h:(walkW n k [] ⟨[],[],0⟩).free= []) (at_:Nat):BdT ⟨n,k,at_⟩ []:=by
 unfold walkW at h;have g:=kidsW_grow n (renZ n [] 0) k 0 [] (stepW n [] ⟨[],[],0⟩);have e:(kidsW n (renZ n [] 0) 0 k [] (stepW n [] ⟨[],[],0⟩)).free.length=0:=by rw[h];rfl
 have hl:(stepW n [] ⟨[],[],0⟩).free.length=0:=ya;refine⟨⟨fun h5=>?_,hne⟩,?_⟩
 .have h5':n.kind=5:=h5;simp[stepW,lostZ,h5',findS]at hl
 .have:=bd_free k n (renZ n [] 0) 0 [] (stepW n [] ⟨[],[],0⟩) [] (renZ_kind _ _ _) hsk (by rw[e,hl]);exact this
structure Kf (W W':World):Prop where
 os:W'.os=W.os
 tape:W'.tape=W.tape
 output:W'.output=W.output
 size:W.heap.size<=W'.heap.size
 block:∀(q:Nat) (c:Array Value) (t:TypeId),W.heap[q]?=some (Obj.cells c t)->t≠53->t≠1->t≠46->W'.heap[q]?=W.heap[q]?
theorem Kf.of_below {W W':World}(h:Below W.heap.size W W'):Kf W W':= ⟨h.os,h.tape,h.output,h.size,fun q _ _ hq _ _ _=>h.block q (z13 hq)⟩
theorem Kf.refl (W:World):Kf W W:=Kf.of_below Lb
theorem Kf.trans {W W' W'':World}(h:Kf W W') (h':Kf W' W''):Kf W W'':=
 ⟨h'.os.trans h.os,h'.tape.trans h.tape,h'.output.trans h.output,Lf h.size h'.size,fun q c t hq h1 h2 h3=>by
  have e:=h.block q c t hq h1 h2 h3;exact(h'.block q c t (e.trans hq) h1 h2 h3).trans e⟩
theorem Kf.keep {W W':World}(h:Kf W W') {c:Array Value}{t:TypeId}(hq:W.heap[q]?=some (Obj.cells c t)) (h1:t≠53) (h2:t≠1) (h3:t≠46):W'.heap[q]?=some (Obj.cells c t):=(h.block q c t hq h1 h2 h3).trans hq
def KnAt (W:World):Option Addr->List ByteArray->Prop
 |p,[]=>p=none
 |p,x::r=> ∃b q,p=some ⟨b,0,none⟩/\W.heap[b]?=some (.cells #[.string x,int i64 (r.length:Int),.pointer q] 179)/\KnAt W q r
theorem KnAt.frame {W W':World}(hf:Kf W W'):∀(r:List ByteArray) (p:Option Addr),KnAt W p r->KnAt W' p r
 |[],_,e=>e
 |_::r,_,⟨b,q,e,hb,hr⟩=>⟨b,q,e,hf.keep hb yk yk yk,KnAt.frame hf r q hr⟩
def TellK (W:World) (Mb fr wh:Nat) (v:Value):Prop:= ∃q2 q3 f,v=.func (.func f) #[] #[.pointer (some ⟨q2,0,none⟩),.pointer (some ⟨q3,0,none⟩)]/\W.heap[q2]?=some (.cells #[.pointer (some ⟨Mb,0,none⟩)] 43)/\W.heap[q3]?=some (.cells #[int i64 (fr:Int)] 3)/\((wh=0/\f=102)\/(wh=1/\f=147))
theorem TellK.frame {W W':World}{Mb fr wh:Nat}(h:TellK W Mb fr wh v) (hf:Kf W W'):TellK W' Mb fr wh v:=by
 obtain⟨q2,q3,f,e,h1,h2,h3⟩:=h;exact⟨q2,q3,f,e,hf.keep h1 yk yk yk,hf.keep h2 yk yk yk,h3⟩
def FormK (B:Nat) (W0:World) (t:Tp) (v:Value):Prop:= ∃us,Forms B W0 t.k us/\Shape B W0 t.n us v
def LateK (B:Nat) (W0 W:World) (Mb:Nat) (l:Lt) (v:Value):Prop:= ∃p4 p5 p6 p7 fv kn tv,v=.func (.func 100) #[] #[.pointer (some ⟨p7,0,none⟩),.pointer (some ⟨p4,0,none⟩),.pointer (some ⟨p5,0,none⟩),.pointer (some ⟨p6,0,none⟩)]/\
 W.heap[p4]?=some (.cells #[.pointer (some ⟨Mb,0,none⟩)] 43)/\W.heap[p5]?=some (.cells #[fv] 49)/\W.heap[p6]?=some (.cells #[.pointer kn] 94)/\W.heap[p7]?=some (.cells #[tv] 107)/\
 (FormK B W0 l.t fv/\BdT l.t l.names)/\KnAt W kn l.names.reverse/\TellK W Mb l.fr l.wh tv
theorem LateK.frame {B:Nat}{W0 W W':World}{Mb:Nat}{l:Lt}(h:LateK B W0 W Mb l v) (hf:Kf W W'):LateK B W0 W' Mb l v:=by
 obtain⟨p4,p5,p6,p7,fv,kn,tv,e,h4,h5,h6,h7,h8,h9,h10⟩:=h;exact⟨p4,p5,p6,p7,fv,kn,tv,e,hf.keep h4 yk yk yk,hf.keep h5 yk yk yk,hf.keep h6 yk yk yk,hf.keep h7 yk yk yk,h8,KnAt.frame hf _ _ h9,h10.frame hf⟩
structure Km (B:Nat) (W0:World) (Mb:Nat) (ve:Value) (s:Cs) (ls:List (Lt×Value)) (vo vl:Value) (W:World):Prop where
 blk:W.heap[Mb]?=some (.cells #[ve,vo,vl] 46)
 orow:W.ownsRow W0.heap.size 53 4 vo s.o.length (rowZ In.cell 4 s.o)
 lrow:W.ownsRow W0.heap.size 1 1 vl ls.length (ls.map Prod.snd)
 late:∀x∈ls,LateK B W0 W Mb x.1 x.2
 lfst:ls.map Prod.fst=s.later
 os:W.os=W0.os
 tape:W.tape=W0.tape
 output:W.output=W0.output
 size:W0.heap.size<=W.heap.size
 kept:∀q,q<W0.heap.size->q≠Mb->W.heap[q]?=W0.heap[q]?
 nb:Mb<W0.heap.size
def KmE (B:Nat) (W0:World) (Mb:Nat) (ve:Value) (s:Cs) (W:World):Prop:= ∃ls vo vl,Km B W0 Mb ve s ls vo vl W
section
variable {B:Nat}{W0:World}{Mb:Nat}{ve:Value}{s:Cs}{ls:List (Lt×Value)}{vo vl:Value}{W W':World}
theorem Km.below (h:Km B W0 Mb ve s ls vo vl W) (hb:Below W.heap.size W W'):Km B W0 Mb ve s ls vo vl W':=
 ⟨(hb.block _ (z13 h.blk)).trans h.blk,z49 h.orow (fun g _ hc _=>hb.block g (z13 hc)),z49 h.lrow (fun g _ hc _=>hb.block g (z13 hc)),fun x hx=>(h.late x hx).frame (Kf.of_below hb),h.lfst,
  hb.os.trans h.os,hb.tape.trans h.tape,hb.output.trans h.output,Lf h.size hb.size,fun q hq hn=>(hb.block q (Le hq h.size)).trans (h.kept q hq hn),h.nb⟩
theorem KmE.below (h:KmE B W0 Mb ve s W) (hb:Below W.heap.size W W'):KmE B W0 Mb ve s W':= by
 obtain⟨ls,vo,vl,h⟩:=h;exact⟨ls,vo,vl,h.below hb⟩
theorem comp_set1 {a b c:Value}(h:W.heap[Mb]?=some (.cells #[a,b,c] 46)) (v:Value):(W.setCell ⟨Mb,1,none⟩ v).heap[Mb]?=some (.cells #[a,v,c] 46):=by
 simp[World.setCell,Array.getElem?_modify,h]
theorem comp_set2 {a b c:Value}(h:W.heap[Mb]?=some (.cells #[a,b,c] 46)) (v:Value):(W.setCell ⟨Mb,2,none⟩ v).heap[Mb]?=some (.cells #[a,b,v] 46):=by
 simp[World.setCell,Array.getElem?_modify,h]
theorem km_put (h:Km B W0 Mb ve s ls vo vl W) (i:In) {vo':Value}(ho:W'.ownsRow W0.heap.size 53 4 vo' (s.o.length+1) (rowZ In.cell 4 s.o++ [int i64 i.op,int i64 i.a,int i64 i.b,int i64 i.c])) (hg:W.grownBy W' vo.ownBlock) :
 KmE B W0 Mb ve (s.put i) (W'.setCell ⟨Mb,1,none⟩ vo')/\Kf W (W'.setCell ⟨Mb,1,none⟩ vo'):=by
 have e:∀q,q≠Mb->(W'.setCell ⟨Mb,1,none⟩ vo').heap[q]?=W'.heap[q]? :=fun q hq=>Lg W' ⟨Mb,1,none⟩ _ q hq
 have hs:(W'.setCell ⟨Mb,1,none⟩ vo').heap.size=W'.heap.size:=qo;have hb':= (hg.block Mb (z13 h.blk) (row_ne h.orow h.blk yk)).trans h.blk;have hf:Kf W (W'.setCell ⟨Mb,1,none⟩ vo'):=⟨hg.os,hg.tape,hg.output,ue,fun q c t hq h1 _ h3=>(e q (fun e2=>uf)).trans (hg.block q (z13 hq) (row_ne h.orow hq h1))⟩
 refine⟨⟨ls,vo',vl,comp_set1 hb' _,?_,?_,fun x hx=>(h.late x hx).frame hf,h.lfst,hg.os.trans h.os,hg.tape.trans h.tape,hg.output.trans h.output,ug,fun q hq hn=>?_,h.nb⟩,hf⟩
 .have e3:rowZ In.cell 4 (s.o++ [i])=rowZ In.cell 4 s.o++ [int i64 i.op,int i64 i.a,int i64 i.b,int i64 i.c]:=by rw[rowZ_app];rfl
  show(W'.setCell ⟨Mb,1,none⟩ vo').ownsRow _ _ _ _ (s.o++ [i]).length (rowZ In.cell 4 (s.o++ [i]));rw[e3,Lk];exact z49 ho (fun g c hc _=>e g (fun e2=>uh))
 .exact z49 h.lrow (fun g c hc _=>(e g (fun e2=>ui)).trans (hg.block g (z13 hc) (row_ne h.orow hc yk)))
 .refine(e q hn).trans ((hg.block q (Le hq h.size) (fun e2=>?_)).trans (h.kept q hq hn));have:=(z40 h.orow e2.symm).1;omega
theorem km_wait (h:Km B W0 Mb ve s ls vo vl W) (l:Lt) (hn:LateK B W0 W Mb l v) {vl':Value}(ho:W'.ownsRow W0.heap.size 1 1 vl' (ls.length+1) (ls.map Prod.snd++ [v])) (hg:W.grownBy W' vl.ownBlock) :
 KmE B W0 Mb ve (s.wait l) (W'.setCell ⟨Mb,2,none⟩ vl')/\Kf W (W'.setCell ⟨Mb,2,none⟩ vl'):=by
 have e:∀q,q≠Mb->(W'.setCell ⟨Mb,2,none⟩ vl').heap[q]?=W'.heap[q]? :=fun q hq=>Lg W' ⟨Mb,2,none⟩ _ q hq
 have hs:(W'.setCell ⟨Mb,2,none⟩ vl').heap.size=W'.heap.size:=qo;have hb':= (hg.block Mb (z13 h.blk) (row_ne h.lrow h.blk yk)).trans h.blk;have hf:Kf W (W'.setCell ⟨Mb,2,none⟩ vl'):=⟨hg.os,hg.tape,hg.output,ue,fun q c t hq _ h1 h3=>(e q (fun e2=>uf)).trans (hg.block q (z13 hq) (row_ne h.lrow hq h1))⟩
 refine⟨⟨ls++ [(l,v)],vo,vl',comp_set2 hb' _,?_,?_,fun x hx=>?_,?_,hg.os.trans h.os,hg.tape.trans h.tape,hg.output.trans h.output,ug,fun q hq hn=>?_,h.nb⟩,hf⟩
 .exact z49 h.orow (fun g c hc _=>(e g (fun e2=>ui)).trans (hg.block g (z13 hc) (row_ne h.lrow hc yk)))
 .rw[List.map_append,Lk];exact z49 ho (fun g c hc _=>e g (fun e2=>uh))
 .rw[List.mem_append,Ls]at hx;rcases hx with hx|rfl
  .exact(h.late x hx).frame hf
  .exact hn.frame hf
 .rw[List.map_append,h.lfst];rfl
 .refine(e q hn).trans ((hg.block q (Le hq h.size) (fun e2=>?_)).trans (h.kept q hq hn));have:=(z40 h.lrow e2.symm).1;omega
end
def Cs.setAt (s:Cs) (fr wh:Nat) (v:Int):Cs:=⟨s.o.set fr ((s.o.getD fr default).lead wh v),s.later⟩
theorem setAt_lead (s:Cs) (fr wh:Nat):s.setAt fr wh s.o.length=s.lead fr wh:=rfl
theorem lead_list (l:List In) (k wh:Nat) (hk:k<l.length) (hw:wh<=2) (v:Int):(rowZ In.cell 4 l).set (k*4+(wh+1)) (int i64 v)=rowZ In.cell 4 (l.set k ((l.getD k default).lead wh v)):=by
 apply List.ext_getElem?;intro j;by_cases hj:j<l.length*4
 .rw[z51 In.cell 4 yk (l.set k _) j (by rw[List.length_set];exact hj)];have hl:=z78 In.cell 4 l;have h0:=z51 In.cell 4 yk l j hj;by_cases hik:j/4=k
  .have hgd:(l.set k ((l.getD k default).lead wh v)).getD (j/4) default=(l.getD k default).lead wh v:=by rw[hik];simp[List.getD,hk]
   rw[hgd];rw[hik]at h0;have hr:j % 4=0\/j % 4=1\/j % 4=2\/j % 4=3:=ya;have hw3:wh=0\/wh=1\/wh=2:=ya;rcases hw3 with rfl|rfl|rfl<;>rcases hr with hr|hr|hr|hr
   .rw[List.getElem?_set_ne ya,h0,hr];rfl
   .rw[show k*4+(0+1)=j by omega,List.getElem?_set_self ya,hr];rfl
   .rw[List.getElem?_set_ne ya,h0,hr];rfl
   .rw[List.getElem?_set_ne ya,h0,hr];rfl
   .rw[List.getElem?_set_ne ya,h0,hr];rfl
   .rw[List.getElem?_set_ne ya,h0,hr];rfl
   .rw[show k*4+(1+1)=j by omega,List.getElem?_set_self ya,hr];rfl
   .rw[List.getElem?_set_ne ya,h0,hr];rfl
   .rw[List.getElem?_set_ne ya,h0,hr];rfl
   .rw[List.getElem?_set_ne ya,h0,hr];rfl
   .rw[List.getElem?_set_ne ya,h0,hr];rfl
   .rw[show k*4+(2+1)=j by omega,List.getElem?_set_self ya,hr];rfl
  .rw[List.getElem?_set_ne ya,h0];have hgd:(l.set k ((l.getD k default).lead wh v)).getD (j/4) default=l.getD (j/4) default:=by simp[List.getD,List.getElem?_set_ne (Ne.symm hik)]
   rw[hgd]
 .rw[List.getElem?_eq_none uj,List.getElem?_eq_none uj]
section
variable {B:Nat}{W0:World}{Mb:Nat}{ve:Value}{s:Cs}{ls:List (Lt×Value)}{vl:Value}{W:World}
theorem km_set {g cap:Nat}(h:Km B W0 Mb ve s ls (.slice (some ⟨g,0,none⟩) s.o.length cap) vl W) {fr:Nat}(hfr:fr<s.o.length) {wh:Nat}(hw:wh<=2) (v:Int) :
 KmE B W0 Mb ve (s.setAt fr wh v) (W.setCell ⟨g,fr*4+(wh+1),none⟩ (int i64 v))/\Kf W (W.setCell ⟨g,fr*4+(wh+1),none⟩ (int i64 v)):=by
 have e:∀j,j≠g->(W.setCell ⟨g,fr*4+(wh+1),none⟩ (int i64 v)).heap[j]?=W.heap[j]? :=fun j hj=>Lg W ⟨g,fr*4+(wh+1),none⟩ _ j hj
 have hs:(W.setCell ⟨g,fr*4+(wh+1),none⟩ (int i64 v)).heap.size=W.heap.size:=qo;obtain⟨hB,cur,hc⟩:=z40 h.orow (g:=g) rfl;have hf:Kf W (W.setCell ⟨g,fr*4+(wh+1),none⟩ (int i64 v)):=⟨rfl,rfl,rfl,qr,fun q c t hq h1 _ _=>e q (fun e2=>uk)⟩
 refine⟨⟨ls,.slice (some ⟨g,0,none⟩) s.o.length cap,vl,(e Mb (fun e2=>ui)).trans h.blk,?_,z49 h.lrow (fun q c hq _=>e q (fun e2=>by subst e2;rw[hc]at hq;cases hq)),fun x hx=>(h.late x hx).frame hf,h.lfst,h.os,h.tape,h.output,qq,fun q hq hn=>(e q ya).trans (h.kept q hq hn),h.nb⟩,hf⟩;have h1:=(h.orow.stored (fr*4+(wh+1)) (int i64 v)).1;rw[lead_list s.o fr wh hfr hw v]at h1;show(W.setCell _ _).ownsRow _ _ _ _ (s.o.set fr _).length _;rw[List.length_set];exact h1
end
end
section
open Go.RowKit
theorem held_more {P:Program}{md:Region.Mode}{ops:Array Oper}{Q:Exit->Act->World->Prop}{S S':World->Prop}(h:∀w,S' w->S w):∀(n:Nat) (ls:Array Bool) (a:Act) (w:World),wpAnyH P md ops Q S' n ls a w->wpAnyH P md ops Q S n ls a w
 |0,_,_,_,x=>x
 |n+1,_,_,_,x=>⟨x.1,fun i hi=>wpOp_mono (fun a' w' y=>⟨h w' y.1,held_more h n _ a' w' y.2⟩) (x.2 i hi)⟩
section
variable {P:Program}{l0:List Oper}{Q:Exit->Act->World->Prop}{S:World->Prop}
theorem z54 (S':World->Prop) {ls:Array Bool}(hi:∀w,S' w->S w) (h:wpAnyH P .any l0.toArray (NoPanic Q) S' n ls a w):wpAnyH P .any l0.toArray (NoPanic Q) S n ls a w:=held_more hi n ls a w h
def PickCl (P:Program) (l0:List Oper) (Q:Exit->Act->World->Prop) (S:World->Prop) (n:Nat) (ls:Array Bool) (a:Act) (w:World) (i:Nat):Prop:=
 ∃o f args,l0[i]?=some o/\Region.wanted o (yielded l0.toArray a.tmps)=true/\(execOp a.eval o).run P w=.ok (.enter f args) w/\Calls P f args w fun e w'=> ∃v,e=.returned v/\S w'/\wpAnyH P .any l0.toArray (NoPanic Q) S n (ls.setIfInBounds i true) (a.put o.dst v) w'
theorem PickMk.op {ls:Array Bool}(h:PickMk P l0 Q S n ls a w i):wpOp P l0.toArray (NoPanic Q) i (fun a' w'=> S w'/\wpAnyH P .any l0.toArray (NoPanic Q) S n (ls.setIfInBounds i true) a' w') a w:=by
 obtain⟨o,v,w1,ho,hw,hrun,hS,h⟩:=h;have ho':l0.toArray[i]?=some o:=yx;refine zb42 ?_;exact⟨hS,h⟩
theorem PickCl.op {ls:Array Bool}(h:PickCl P l0 Q S n ls a w i):wpOp P l0.toArray (NoPanic Q) i (fun a' w'=> S w'/\wpAnyH P .any l0.toArray (NoPanic Q) S n (ls.setIfInBounds i true) a' w') a w:=by
 obtain⟨o,f,args,ho,hw,hrun,h⟩:=h;have ho':l0.toArray[i]?=some o:=yx;refine zb42 ?_;refine Calls.mono h ?_;rintro e w3 ⟨v,rfl,hS,hn⟩;exact⟨hS,hn⟩
theorem z38 {o:Oper}{ls ls':Array Bool}{w1:World}(hd:o.dst=none) (ho:l0[i]?=some o) (hr:(Region.ready .any l0.toArray ls== [i])=true) (hl:ls.setIfInBounds i true=ls') (hw:Region.wanted o (yielded l0.toArray a.tmps)=true)
 (hrun:(execOp a.eval o).run P w=.ok .skip w1) (hS:S w1) (h:wpAnyH P .any l0.toArray (NoPanic Q) S n ls' a w1):wpAnyH P .any l0.toArray (NoPanic Q) S (n+1) ls a w:=by
 subst hl;refine zb88 ?_;unhygienic intros
 subst hj;unfold wpOp;rw[ho'];dsimp only;rw[if_pos hw];refine Or.inl ?_;have hp:a.put o.dst undef=a:=by rw[hd];rfl
 unfold Oper.wp;rw[hrun];refine⟨hS,?_⟩;rw[hp];exact h
theorem z61 {j:Nat}{ls:Array Bool}(hr:(Region.ready .any l0.toArray ls== [i,j])=true) (h1:PickMk P l0 Q S n ls a w i) (h2:PickCl P l0 Q S n ls a w j):wpAnyH P .any l0.toArray (NoPanic Q) S (n+1) ls a w:=by
 refine zb94 ?_;unhygienic intros
 rcases hk with rfl|rfl
 .exact h1.op
 .exact h2.op
end
end
end Go.Proofs.YtbbffkiobmbkfaaGreatDoor
