import Derived.Test.YtfbojelpdccjaaaGreatDoorPkT23
open Go.Proofs.Tryz
set_option maxHeartbeats 8000000
set_option maxRecDepth 100000
namespace Go.Proofs.YtfbojelpdccjaaaGreatDoor
open Go.RowKit Go.Deep
variable {f:Nat}{s:Ps}
section
open Go.RowKit Go.Deep
def posOf (d:Dr) (w:World):Nat:=match w.cell? ⟨d.B,1,none⟩ with
 |some v=>(intOf v).toNat
 |none=>0
section
variable {d:Dr}{ws:List Wd}{ad:Option Addr}{cp:Nat}
theorem pos_at {W:World}(h:PsAt d ws ad cp s W):posOf d W=s.at_:=by
 have q:=z8 h.blk 1;simp at q;unfold posOf;rw[q];simp[intOf]
theorem put_len2 (n:Nd) (a b:List Nd):(putN n [a,b]).length=1+a.length+b.length:=by
 rw[z62];simp;omega
def LoopI (d:Dr) (ws:List Wd) (ad:Option Addr) (cp:Nat) (f:Nat) (nt:List Nd->Nt (List Nd)) (F:List Nd×Ps) (s:Ps) (W:World) (v:Value) (wr:World):Prop:=
 ∃(acc:List Nd) (g:Nat) (sr:Ps),NodesD d wr v acc/\StepP d ws ad cp sr W wr/\spz ws g (nt acc) sr=F/\ms ws (nt acc) sr<=g/\g<=f/\s.at_<=sr.at_/\acc.length<=3*(sr.at_-s.at_)
theorem pprod_calls (hw:BriefW ws) (ha:∀g,g<=f->PcAll d ws ad cp g) (s:Ps) (W:World) (h:PsAt d ws ad cp s W) (hm:ms ws .prod s<=f+1) :
 Calls prog 137 #[.pointer (some ⟨d.B,0,none⟩)] W (PostN d ws ad cp (spz ws (f+1) .prod s) W):=by
 refine zb26 ?_;intro SP HC HA HM BW G;clear h ha hm hw;go_enter func137,ntmps137
 go_wp2_with fail
 refine(go_ev (HC.o.call s W SP.o.1 yp) BW.o trivial SP.o).mono ?_;refine zb73 ?_;intro X1 va1 vc1 l1 s1 N1 SP Q1 S1 L1 GR T1 G;go_wp2_with fail
 obtain⟨F,hF⟩:∃x,spz ws f (Nt.prodL l1) s1=x:=⟨_,rfl⟩
 have HF:=J hF;clear hF;go_loopw [3] (fun v wr=>I (LoopI d ws ad cp f Nt.prodL F s W v wr)) (fun _ wr=>ws.length-posOf d wr)
 case atStart=>
  exact J ⟨l1,f,s1,N1.o,SP.o,HF.o,mz,La,T1.o.1,T1.o.2⟩
 case round=>
  obtain⟨acc,g,sr,hN,hSP,hFr,hmr,hgr,hon,hlen⟩:=hrel.o;clear hrel;obtain⟨va,vc,rfl⟩:=hN.is;obtain⟨g,rfl⟩:∃k,g=k+1:=⟨g-1,ga⟩
  refine zb7 ?_;intro SP SP0 NA HFr HM HG HC ON G LA;clear hN hSP hFr hmr hgr hon hlen;go_wp2_with fail
  refine(text_ev SP.o).mono ?_;rintro e X21 ⟨u21,rfl,SP,HU21,GR⟩;have NA:=J (NA.o.grew GR.o);by_cases hgStar21:(u21.toList==([42]:List UInt8))=true
  .have Z22:=z48 (l:=gStar) HU21 hgStar21 yh;obtain⟨s23,X23,HX23,SPn,Q23,C23,GR,HWr,q1,z1⟩:=z69 SP.o Z22.o.2;have NA:=J (NA.o.grew GR.o);have G:=J (show sr.at_+1<=s23.at_/\s23.at_<=ws.length by have h1:=G.o;have h2:=C23.o;omega);go_wp2_with fail
   rw[HWr.o,HX23.o];have SP:=SPn;clear SPn HWr q1 z1 HX23;have G1:=G;refine(go_ev (HC.o.call s23 X23 SP.o.1 yp) BW.o trivial SP.o).mono ?_;rintro e X24 ⟨va24,vc24,l24,s24,rfl,N24,SP,Q24,S24,L24,GR⟩;have T24:=J (show s23.at_<=s24.at_/\l24.length<=3*(s24.at_-s23.at_) by have h1:=S24.o.on;have h2:=S24.o.len;dsimp only[accN]at h1 h2;omega);have NA:=J (NA.o.grew GR.o);have G:=J (show sr.at_+1<=s24.at_/\s24.at_<=ws.length by have h1:=G.o;have h2:=S24.o.on;have h3:=S24.o.lt;dsimp only at h2 h3;omega);go_wp2_with fail
   refine(z66 SP.o.1 13 0 0 ⟨#[]⟩ ⟨#[]⟩ ⟨#[]⟩ NA.o N24.o ⟨z17,z17,z17⟩ ⟨LA.o,L24.o⟩).mono ?_;rintro e X25 ⟨v25,rfl,hn25,hb25⟩;have SP:=J (SP.o.below hb25);have N25:=J hn25;clear hb25 hn25;go_wp2_with fail
   go_roundw
   case rel=>
    exact J ⟨putN ⟨13,0,⟨#[]⟩,⟨#[]⟩,⟨#[]⟩,0⟩ [acc,l24],g,s24,N25.o,SP.o,by
     refine Eq.trans (Eq.symm ?_) HFr.o;show prodLS ws (spz ws g) acc sr=_;refine(or_t Z22.o.1 Q23.o).trans ?_;refine(z25 Q24.o).trans ?_;rfl,gb,gc,gd,(by have h1:=ON.o;have h2:=G1.o;have h3:=T24.o;rw[put_len2];omega)⟩
   case measure=>
    show ws.length-posOf d _<ws.length-posOf d _;refine zb90 ?_;intro h1;omega
  simp only[Bool.not_eq_true]at hgStar21;have Z26:=sees_no (l:=gStar) HU21 hgStar21;go_wp2_with fail
  go_ret;have hE:spz ws (f+1) .prod s=(acc,sr):=by
   show prodS (spz ws f) s=_;refine(z25 Q1.o).trans ?_;refine HF.o.trans ?_;refine HFr.o.symm.trans ?_;show prodLS ws (spz ws g) acc sr=_;refine(or_f Z26.o).trans ?_;rfl
  rw[hE];exact⟨_,rfl,NA.o,SP.o⟩
theorem psum_calls (hw:BriefW ws) (ha:∀g,g<=f->PcAll d ws ad cp g) (s:Ps) (W:World) (h:PsAt d ws ad cp s W) (hm:ms ws .sum s<=f+1) :
 Calls prog 126 #[.pointer (some ⟨d.B,0,none⟩)] W (PostN d ws ad cp (spz ws (f+1) .sum s) W):=by
 refine zb26 ?_;intro SP HC HA HM BW G;clear h ha hm hw;go_enter func126,ntmps126
 go_wp2_with fail
 refine(go_ev (HC.o.prod s W SP.o.1 yp) BW.o trivial SP.o).mono ?_;refine zb73 ?_;intro X1 va1 vc1 l1 s1 N1 SP Q1 S1 L1 GR T1 G;go_wp2_with fail
 obtain⟨F,hF⟩:∃x,spz ws f (Nt.sumL l1) s1=x:=⟨_,rfl⟩
 have HF:=J hF;clear hF;go_loopw [3] (fun v wr=>I (LoopI d ws ad cp f Nt.sumL F s W v wr)) (fun _ wr=>ws.length-posOf d wr)
 case atStart=>
  exact J ⟨l1,f,s1,N1.o,SP.o,HF.o,mz,La,T1.o.1,T1.o.2⟩
 case round=>
  obtain⟨acc,g,sr,hN,hSP,hFr,hmr,hgr,hon,hlen⟩:=hrel.o;clear hrel;obtain⟨va,vc,rfl⟩:=hN.is;obtain⟨g,rfl⟩:∃k,g=k+1:=⟨g-1,ga⟩
  refine zb7 ?_;intro SP SP0 NA HFr HM HG HC ON G LA;clear hN hSP hFr hmr hgr hon hlen;go_wp2_with fail
  refine(text_ev SP.o).mono ?_;rintro e X21 ⟨u21,rfl,SP,HU21,GR⟩;have NA:=J (NA.o.grew GR.o);by_cases hgPlus21:(u21.toList==([43]:List UInt8))=true
  .have Z22:=z48 (l:=gPlus) HU21 hgPlus21 yh;have hnm:(u21.toList==([45]:List UInt8))=false:=by rw[eq_of_beq hgPlus21];rfl
   go_wp2_with fail
   refine(text_ev SP.o).mono ?_;rintro e X23 ⟨u23,rfl,SP,HU23,GR⟩;have NA:=J (NA.o.grew GR.o);obtain rfl:u21=u23:=HU21.o.symm.trans HU23.o;obtain⟨s24,X24,HX24,SPn,Q24,C24,GR,HWr,q1,z1⟩:=z69 SP.o Z22.o.2;have NA:=J (NA.o.grew GR.o);have G:=J (show sr.at_+1<=s24.at_/\s24.at_<=ws.length by have h1:=G.o;have h2:=C24.o;omega);go_wp2_with fail
   rw[HWr.o,HX24.o];have SP:=SPn;clear SPn HWr q1 z1 HX24;have G1:=G;refine(go_ev (HC.o.prod s24 X24 SP.o.1 yp) BW.o trivial SP.o).mono ?_;rintro e X25 ⟨va25,vc25,l25,s25,rfl,N25,SP,Q25,S25,L25,GR⟩;have T25:=J (show s24.at_<=s25.at_/\l25.length<=3*(s25.at_-s24.at_) by have h1:=S25.o.on;have h2:=S25.o.len;dsimp only[accN]at h1 h2;omega);have NA:=J (NA.o.grew GR.o);have G:=J (show sr.at_+1<=s25.at_/\s25.at_<=ws.length by have h1:=G.o;have h2:=S25.o.on;have h3:=S25.o.lt;dsimp only at h2 h3;omega);go_wp2_with fail
   refine(z66 SP.o.1 11 0 0 ⟨#[]⟩ ⟨#[]⟩ ⟨#[]⟩ NA.o N25.o ⟨z17,z17,z17⟩ ⟨LA.o,L25.o⟩).mono ?_;rintro e X26 ⟨v26,rfl,hn26,hb26⟩;have SP:=J (SP.o.below hb26);have N26:=J hn26;clear hb26 hn26;go_wp2_with fail
   go_roundw
   case rel=>
    exact J ⟨putN ⟨11,0,⟨#[]⟩,⟨#[]⟩,⟨#[]⟩,0⟩ [acc,l25],g,s25,N26.o,SP.o,by
     refine Eq.trans (Eq.symm ?_) HFr.o;show sumLS ws (spz ws g) acc sr=_;refine(or_t Z22.o.1 Q24.o).trans ?_;refine(z25 Q25.o).trans ?_;rfl,gb,gc,gd,(by have h1:=ON.o;have h2:=G1.o;have h3:=T25.o;rw[put_len2];omega)⟩
   case measure=>
    show ws.length-posOf d _<ws.length-posOf d _;refine zb90 ?_;intro h1;omega
  simp only[Bool.not_eq_true]at hgPlus21;have Z27:=sees_no (l:=gPlus) HU21 hgPlus21;go_wp2_with fail
  refine(text_ev SP.o).mono ?_;rintro e X28 ⟨u28,rfl,SP,HU28,GR⟩;have NA:=J (NA.o.grew GR.o);obtain rfl:u21=u28:=HU21.o.symm.trans HU28.o;by_cases hgMinus21:(u21.toList==([45]:List UInt8))=true
  .have Z29:=z48 (l:=gMinus) HU21 hgMinus21 yh;go_wp2_with fail
   refine(text_ev SP.o).mono ?_;rintro e X30 ⟨u30,rfl,SP,HU30,GR⟩;have NA:=J (NA.o.grew GR.o);obtain rfl:u21=u30:=HU21.o.symm.trans HU30.o;obtain⟨s31,X31,HX31,SPn,Q31,C31,GR,HWr,q1,z1⟩:=z69 SP.o Z29.o.2;have NA:=J (NA.o.grew GR.o);have G:=J (show sr.at_+1<=s31.at_/\s31.at_<=ws.length by have h1:=G.o;have h2:=C31.o;omega);go_wp2_with fail
   rw[HWr.o,HX31.o];have SP:=SPn;clear SPn HWr q1 z1 HX31;have G1:=G;refine(go_ev (HC.o.prod s31 X31 SP.o.1 yp) BW.o trivial SP.o).mono ?_;rintro e X32 ⟨va32,vc32,l32,s32,rfl,N32,SP,Q32,S32,L32,GR⟩;have T32:=J (show s31.at_<=s32.at_/\l32.length<=3*(s32.at_-s31.at_) by have h1:=S32.o.on;have h2:=S32.o.len;dsimp only[accN]at h1 h2;omega);have NA:=J (NA.o.grew GR.o);have G:=J (show sr.at_+1<=s32.at_/\s32.at_<=ws.length by have h1:=G.o;have h2:=S32.o.on;have h3:=S32.o.lt;dsimp only at h2 h3;omega);go_wp2_with fail
   refine(z66 SP.o.1 12 0 0 ⟨#[]⟩ ⟨#[]⟩ ⟨#[]⟩ NA.o N32.o ⟨z17,z17,z17⟩ ⟨LA.o,L32.o⟩).mono ?_;rintro e X33 ⟨v33,rfl,hn33,hb33⟩;have SP:=J (SP.o.below hb33);have N33:=J hn33;clear hb33 hn33;go_wp2_with fail
   go_roundw
   case rel=>
    exact J ⟨putN ⟨12,0,⟨#[]⟩,⟨#[]⟩,⟨#[]⟩,0⟩ [acc,l32],g,s32,N33.o,SP.o,by
     refine Eq.trans (Eq.symm ?_) HFr.o;show sumLS ws (spz ws g) acc sr=_;refine(or_f Z27.o).trans ?_;refine(or_t Z29.o.1 Q31.o).trans ?_;refine(z25 Q32.o).trans ?_;rfl,gb,gc,gd,(by have h1:=ON.o;have h2:=G1.o;have h3:=T32.o;rw[put_len2];omega)⟩
   case measure=>
    show ws.length-posOf d _<ws.length-posOf d _;refine zb90 ?_;intro h1;omega
  simp only[Bool.not_eq_true]at hgMinus21;have Z34:=sees_no (l:=gMinus) HU21 hgMinus21;go_wp2_with fail
  go_ret;have hE:spz ws (f+1) .sum s=(acc,sr):=by
   show sumS (spz ws f) s=_;refine(z25 Q1.o).trans ?_;refine HF.o.trans ?_;refine HFr.o.symm.trans ?_;show sumLS ws (spz ws g) acc sr=_;refine(or_f Z27.o).trans ?_;refine(or_f Z34.o).trans ?_;rfl
  rw[hE];exact⟨_,rfl,NA.o,SP.o⟩
end
section
variable {d:Dr}{ws:List Wd}{cp:Nat}
theorem starts_lt (h:startsS ws s=true):s.at_<ws.length:=by
 unfold startsS at h;simp only[Bool.and_eq_true,decide_eq_true_eq]at h;exact h.2.1
theorem atom_eq {s1:Ps}{w:Wd}(h:startsS ws s=true) (hw:curW ws s.at_=w) (hs:s.next=s1):spz ws (f+1) .atom s=wordS ws (spz ws f) w s1:=by
 show atomS ws (spz ws f) s=_;unfold atomS;rw[h,hw,hs];rfl
theorem patom_calls {ad:Option Addr}(hw:BriefW ws) (hnw:NumW ws) (hc:PcAll d ws ad cp f) (s:Ps) (W:World) (h:PsAt d ws ad cp s W) (hm:ms ws .atom s<=f+1) :
 Calls prog 146 #[.pointer (some ⟨d.B,0,none⟩)] W (PostN d ws ad cp (spz ws (f+1) .atom s) W):=by
 have SP:=J (StepP.start h);have HC:=J hc;have HM:=J hm;have BW:=J hw;have G:=J (show s.at_+0<=s.at_/\s.at_<=ws.length from⟨La,h.lt⟩);have NW:=J hnw;clear h hc hm hw hnw;go_enter func146,ntmps146
 go_wp2_with fail
 refine(starts_calls s W SP.o.1).mono ?_;rintro e X1 ⟨rfl,hb1⟩;have SP:=J (SP.o.below hb1);clear hb1;by_cases hst:startsS ws s=true
 case neg=>
  have hs0:startsS ws s=false:=by simpa using hst
  have q2:=z8 SP.o.1.blk 2;have z2:=z11 SP.o.1.blk 2;simp at q2;rw[hs0];have HS:=J hs0;clear hst hs0;go_wp2_with fail
  go_ret;have hE:spz ws (f+1) .atom s=([],s.fail):=by
   show atomS ws (spz ws f) s=_;unfold atomS;rw[HS.o];rfl
  rw[hE];exact⟨_,rfl,⟨Or.inl ⟨rfl,rfl⟩,fun n hn=>by cases hn⟩,⟨SP.o.1.fails,SP.o.2.trans (z42 X1 2 _)⟩⟩
 case pos=>
  have hi1:=starts_lt hst;rw[hst];have HST:=J hst;have LT:=J hi1;clear hst;obtain⟨b,rfl,hwd⟩:=SP.o.1.lies yf;obtain⟨w0,w1,w2⟩:=hwd s.at_ hi1;have p0:=z8 SP.o.1.blk 0;have p1:=z8 SP.o.1.blk 1;simp at p0 p1;obtain⟨c,hcw⟩:∃c,curW ws s.at_=c:=⟨_,rfl⟩
  have hbw:=BW.o _ (cur_mem hi1);have hnw:=NW.o _ (cur_mem hi1);rw[hcw]at w0 w1 w2 hbw hnw;obtain⟨kd,tx,wa⟩:=c;dsimp only at w0 w1 w2 hbw hnw;have HCW:=J hcw;have HBW:=J hbw;have HNW:=J hnw;clear hwd hcw hbw hnw;go_upto_region 4 with fail
  have hS:(fun w':World=>w'.cell? ⟨d.B,0,none⟩=some (.slice (some ⟨b,0,none⟩) ws.length cp)/\w'.cell? ⟨d.B,1,none⟩=some (.int .i64 (s.at_:Int))/\w'.cell? ⟨b,s.at_*3,none⟩=some (.int .i64 kd)/\w'.cell? ⟨b,s.at_*3+1,none⟩=some (.string tx)/\w'.cell? ⟨b,s.at_*3+2,none⟩=some (.int .i64 wa)) X1.drew:=⟨p0,p1,w0,w1,w2⟩
  refine z30 (S:=(fun w':World=>w'.cell? ⟨d.B,0,none⟩=some (.slice (some ⟨b,0,none⟩) ws.length cp)/\w'.cell? ⟨d.B,1,none⟩=some (.int .i64 (s.at_:Int))/\w'.cell? ⟨b,s.at_*3,none⟩=some (.int .i64 kd)/\w'.cell? ⟨b,s.at_*3+1,none⟩=some (.string tx)/\w'.cell? ⟨b,s.at_*3+2,none⟩=some (.int .i64 wa))) yb rfl rfl ?_;have hB1:Below X1.heap.size X1 X1.drew:=Lb.drew;generalize X1.drew=Z at hS hB1 |-;have HZ:=J hB1;have hsz:d.B<Z.heap.size/\b<Z.heap.size:=⟨block_lt_of_cell hS.1,block_lt_of_cell hS.2.2.1⟩
  clear hB1 p0 p1 w0 w1 w2;refine pick_o 0 (.pointer (some ⟨d.B,0,none⟩)) hS ?_;refine pick_o 1 (.pointer (some ⟨d.B,0,none⟩)) hS ?_;refine pick_o 2 (.pointer (some ⟨d.B,0,none⟩)) hS ?_;refine pick_o (hy:=fun w' h=>jw) 3 (.slice (some ⟨b,0,none⟩) ws.length cp) hS ?_;refine pick_o 4 (.pointer (some ⟨d.B,0,none⟩)) hS ?_;refine pick_o 5 (.pointer (some ⟨d.B,0,none⟩)) hS ?_;refine pick_o 6 (.pointer (some ⟨d.B,1,none⟩)) hS ?_;refine pick_o (hy:=fun w' h=>qy) 7 (.int .i64 (s.at_:Int)) hS ?_;refine pick_o (hy:=fun w' _=>by simp[go_sem,hi1]) 8 (.pointer (some ⟨b,s.at_*3,none⟩)) hS ?_;refine zb91 ?_
  intro hbA;have hSA:(fun w':World=>w'.cell? ⟨d.B,0,none⟩=some (.slice (some ⟨b,0,none⟩) ws.length cp)/\w'.cell? ⟨d.B,1,none⟩=some (.int .i64 (s.at_:Int))/\w'.cell? ⟨b,s.at_*3,none⟩=some (.int .i64 kd)/\w'.cell? ⟨b,s.at_*3+1,none⟩=some (.string tx)/\w'.cell? ⟨b,s.at_*3+2,none⟩=some (.int .i64 wa)) (Z.alloc (.cells #[.int .i64 0,.string ⟨#[]⟩,.int .i64 0] 76)):=
   ⟨(hbA.cell hsz.1).trans hS.1,(hbA.cell hsz.1).trans hS.2.1,(hbA.cell hsz.2).trans hS.2.2.1,(hbA.cell hsz.2).trans hS.2.2.2.1,(hbA.cell hsz.2).trans hS.2.2.2.2⟩
  refine zb79 ?_;intro hkA hl1 hl2;have hbz:=hbA.trans (hl2 Z.heap.size La);have hb3:Below X1.heap.size X1 (lay3 (Z.alloc (.cells #[.int .i64 0,.string ⟨#[]⟩,.int .i64 0] 76)) Z.heap.size (.int .i64 kd) (.string tx) (.int .i64 wa)):=HZ.o.trans (hbz.mono HZ.o.size)
  have hS3:(fun w':World=>w'.cell? ⟨d.B,0,none⟩=some (.slice (some ⟨b,0,none⟩) ws.length cp)/\w'.cell? ⟨d.B,1,none⟩=some (.int .i64 (s.at_:Int))/\w'.cell? ⟨b,s.at_*3,none⟩=some (.int .i64 kd)/\w'.cell? ⟨b,s.at_*3+1,none⟩=some (.string tx)/\w'.cell? ⟨b,s.at_*3+2,none⟩=some (.int .i64 wa)) (lay3 (Z.alloc (.cells #[.int .i64 0,.string ⟨#[]⟩,.int .i64 0] 76)) Z.heap.size (.int .i64 kd) (.string tx) (.int .i64 wa)):=⟨(hbz.cell hsz.1).trans hS.1,(hbz.cell hsz.1).trans hS.2.1,(hbz.cell hsz.2).trans hS.2.2.1,(hbz.cell hsz.2).trans hS.2.2.2.1,(hbz.cell hsz.2).trans hS.2.2.2.2⟩
  refine pick_skip (i:=11) rfl (w1:=lay3 (Z.alloc (.cells #[.int .i64 0,.string ⟨#[]⟩,.int .i64 0] 76)) Z.heap.size (.int .i64 kd) (.string tx) (.int .i64 wa)) rfl yb rfl rfl (by simp[go_sem,lay3]) hS3 ?_;refine z34 yb ?_;have hq:=hsz.1;have hsg:d.G=d.B:=SP.o.1.eq;generalize lay3 (Z.alloc (.cells #[.int .i64 0,.string ⟨#[]⟩,.int .i64 0] 76)) Z.heap.size (.int .i64 kd) (.string tx) (.int .i64 wa)=X at hl1 hb3 |-;have NQ:=J (show Z.heap.size≠d.B/\Z.heap.size≠d.G by omega);generalize Z.heap.size=g at hl1 NQ |-;have SP:=J (SP.o.below hb3);have NB:=J hl1
  clear hl1 hl2 hb3 hS3 hSA hS hsz hbA hkA hbz hq hsg hi1;obtain⟨s11,X11,HX11,SPn,Q11,C11,GR,HWr,q1,z1⟩:=z69 SP.o LT.o;have NB:=J ((GR.o.block _ ⟨z12 NB.o,NQ.o.1,NQ.o.2⟩).trans NB.o);have G:=J (show s.at_+1<=s11.at_/\s11.at_<=ws.length by have h1:=G.o;have h2:=C11.o;omega);go_upto_region 6 with fail
  rw[HWr.o,HX11.o];have SP:=SPn;clear SPn HWr q1 z1 HX11;have c0:=z8 NB.o 0;have c1:=z8 NB.o 1;simp at c0 c1;by_cases k1:kd=1
  .subst k1;have hnb:=HNW.o rfl;have HNB:=J hnb;clear hnb;go_wp2_with fail
   refine(num_calls tx HNB.o X11).mono ?_;rintro e Xn ⟨rfl,rfl⟩;go_wp2_with fail
   refine(put0_calls SP.o.1 1 (numZ tx.toList:Int) 0 ⟨#[]⟩ ⟨#[]⟩ ⟨#[]⟩ ⟨z17,z17,z17⟩).mono ?_;rintro e X12 ⟨v12,rfl,hn12,hb12⟩;have SP:=J (SP.o.below hb12);have N12:=J hn12;clear hb12 hn12;go_wp2_with fail
   have hW:=J (show wordS ws (spz ws f) ⟨1,tx,wa⟩=pureS (putN (ndN 1 (numZ tx.toList)) []) by
    unfold wordS;dsimp only;rw[if_pos rfl])
   go_ret;have hE:spz ws (f+1) .atom s=(putN (ndN 1 (numZ tx.toList)) [],s11):=by
    refine(atom_eq HST.o HCW.o Q11.o).trans ?_;refine(congrFun hW.o s11).trans ?_;rfl
   rw[hE];exact⟨v12,rfl,N12.o,SP.o⟩
  by_cases k2:kd=2
  .subst k2;clear k1;go_wp2_with fail
   refine(put0_calls SP.o.1 5 0 0 tx ⟨#[]⟩ ⟨#[]⟩ ⟨HBW.o,z17,z17⟩).mono ?_;rintro e X13 ⟨v13,rfl,hn13,hb13⟩;have SP:=J (SP.o.below hb13);have N13:=J hn13;clear hb13 hn13;go_wp2_with fail
   have hW:=J (show wordS ws (spz ws f) ⟨2,tx,wa⟩=pureS (putN (nd1 5 tx) []) by
    unfold wordS;dsimp only;rw[if_neg (show ¬ (2:Int)=1 by decide),if_pos rfl])
   go_ret;have hE:spz ws (f+1) .atom s=(putN (nd1 5 tx) [],s11):=by
    refine(atom_eq HST.o HCW.o Q11.o).trans ?_;refine(congrFun hW.o s11).trans ?_;rfl
   rw[hE];exact⟨v13,rfl,N13.o,SP.o⟩
  have K1:=J k1;have K2:=J k2;have hd1:(kd==1)=false:=mq;have hd2:(kd==2)=false:=mr;clear k1 k2;by_cases g0:(tx.toList==([116,114,117,101]:List UInt8))=true
  .have P0:=J (show(tx.toList==kTrue)=true from g0);go_wp2_with fail
   refine(put0_calls SP.o.1 2 1 0 ⟨#[]⟩ ⟨#[]⟩ ⟨#[]⟩ ⟨z17,z17,z17⟩).mono ?_;rintro e X14 ⟨v14,rfl,hn14,hb14⟩;have SP:=J (SP.o.below hb14);have N14:=J hn14;clear hb14 hn14;go_wp2_with fail
   have hW:=J (show wordS ws (spz ws f) ⟨kd,tx,wa⟩=pureS (putN (ndN 2 1) []) by
    unfold wordS;dsimp only;rw[if_neg K1.o,if_neg K2.o,if_pos P0.o])
   go_ret;have hE:spz ws (f+1) .atom s=(putN (ndN 2 1) [],s11):=by
    refine(atom_eq HST.o HCW.o Q11.o).trans ?_;refine(congrFun hW.o s11).trans ?_;rfl
   rw[hE];exact⟨v14,rfl,N14.o,SP.o⟩
  have g0f:(tx.toList==([116,114,117,101]:List UInt8))=false:=by simpa using g0
  have M0:=J (show ¬ (tx.toList==kTrue)=true by intro hx;exact g0 hx);clear g0;by_cases g1:(tx.toList==([102,97,108,115,101]:List UInt8))=true
  .have P1:=J (show(tx.toList==kFalse)=true from g1);go_wp2_with fail
   refine(put0_calls SP.o.1 2 0 0 ⟨#[]⟩ ⟨#[]⟩ ⟨#[]⟩ ⟨z17,z17,z17⟩).mono ?_;rintro e X15 ⟨v15,rfl,hn15,hb15⟩;have SP:=J (SP.o.below hb15);have N15:=J hn15;clear hb15 hn15;go_wp2_with fail
   have hW:=J (show wordS ws (spz ws f) ⟨kd,tx,wa⟩=pureS (putN (nd0 2) []) by
    unfold wordS;dsimp only;rw[if_neg K1.o,if_neg K2.o,if_neg M0.o,if_pos P1.o])
   go_ret;have hE:spz ws (f+1) .atom s=(putN (nd0 2) [],s11):=by
    refine(atom_eq HST.o HCW.o Q11.o).trans ?_;refine(congrFun hW.o s11).trans ?_;rfl
   rw[hE];exact⟨v15,rfl,N15.o,SP.o⟩
  have g1f:(tx.toList==([102,97,108,115,101]:List UInt8))=false:=by simpa using g1
  have M1:=J (show ¬ (tx.toList==kFalse)=true by intro hx;exact g1 hx);clear g1;by_cases g2:(tx.toList==([110,105,108]:List UInt8))=true
  .have P2:=J (show(tx.toList==kNil)=true from g2);go_wp2_with fail
   refine(put0_calls SP.o.1 4 0 0 ⟨#[]⟩ ⟨#[]⟩ ⟨#[]⟩ ⟨z17,z17,z17⟩).mono ?_;rintro e X16 ⟨v16,rfl,hn16,hb16⟩;have SP:=J (SP.o.below hb16);have N16:=J hn16;clear hb16 hn16;go_wp2_with fail
   have hW:=J (show wordS ws (spz ws f) ⟨kd,tx,wa⟩=pureS (putN (nd0 4) []) by
    unfold wordS;dsimp only;rw[if_neg K1.o,if_neg K2.o,if_neg M0.o,if_neg M1.o,if_pos P2.o])
   go_ret;have hE:spz ws (f+1) .atom s=(putN (nd0 4) [],s11):=by
    refine(atom_eq HST.o HCW.o Q11.o).trans ?_;refine(congrFun hW.o s11).trans ?_;rfl
   rw[hE];exact⟨v16,rfl,N16.o,SP.o⟩
  have g2f:(tx.toList==([110,105,108]:List UInt8))=false:=by simpa using g2
  have M2:=J (show ¬ (tx.toList==kNil)=true by intro hx;exact g2 hx);clear g2;by_cases g3:(tx.toList==([104,97,110,100,108,101]:List UInt8))=true
  .have P3:=J (show(tx.toList==kHandle)=true from g3);go_wp2_with fail
   have hW:=J (show wordS ws (spz ws f) ⟨kd,tx,wa⟩=spz ws f (.hand 23) by
    unfold wordS;dsimp only;rw[if_neg K1.o,if_neg K2.o,if_neg M0.o,if_neg M1.o,if_neg M2.o,if_pos P3.o])
   refine(go_ev (HC.o.hand 23 s11 X11 SP.o.1 yp) BW.o trivial SP.o).mono ?_;rintro e X17 ⟨va17,vc17,l17,s17,rfl,N17,SP,Q17,S17,L17,GR⟩;have G:=J (show s.at_+1<=s17.at_/\s17.at_<=ws.length by have h1:=G.o;have h2:=S17.o.on;have h3:=S17.o.lt;dsimp only at h2 h3;omega);go_wp2_with fail
   go_ret;have hE:spz ws (f+1) .atom s=(l17,s17):=by
    refine(atom_eq HST.o HCW.o Q11.o).trans ?_;refine(congrFun hW.o s11).trans ?_;exact Q17.o
   rw[hE];exact⟨_,rfl,N17.o,SP.o⟩
  have g3f:(tx.toList==([104,97,110,100,108,101]:List UInt8))=false:=by simpa using g3
  have M3:=J (show ¬ (tx.toList==kHandle)=true by intro hx;exact g3 hx);clear g3;by_cases g4:(tx.toList==([115,104,97,108,108,111,119]:List UInt8))=true
  .have P4:=J (show(tx.toList==kShallow)=true from g4);go_wp2_with fail
   have hW:=J (show wordS ws (spz ws f) ⟨kd,tx,wa⟩=spz ws f (.hand 24) by
    unfold wordS;dsimp only;rw[if_neg K1.o,if_neg K2.o,if_neg M0.o,if_neg M1.o,if_neg M2.o,if_neg M3.o,if_pos P4.o])
   refine(go_ev (HC.o.hand 24 s11 X11 SP.o.1 yp) BW.o trivial SP.o).mono ?_;rintro e X18 ⟨va18,vc18,l18,s18,rfl,N18,SP,Q18,S18,L18,GR⟩;have G:=J (show s.at_+1<=s18.at_/\s18.at_<=ws.length by have h1:=G.o;have h2:=S18.o.on;have h3:=S18.o.lt;dsimp only at h2 h3;omega);go_wp2_with fail
   go_ret;have hE:spz ws (f+1) .atom s=(l18,s18):=by
    refine(atom_eq HST.o HCW.o Q11.o).trans ?_;refine(congrFun hW.o s11).trans ?_;exact Q18.o
   rw[hE];exact⟨_,rfl,N18.o,SP.o⟩
  have g4f:(tx.toList==([115,104,97,108,108,111,119]:List UInt8))=false:=by simpa using g4
  have M4:=J (show ¬ (tx.toList==kShallow)=true by intro hx;exact g4 hx);clear g4;have hW:=J (show wordS ws (spz ws f) ⟨kd,tx,wa⟩=brackS ws (spz ws f) by
   unfold wordS;dsimp only;rw[if_neg K1.o,if_neg K2.o,if_neg M0.o,if_neg M1.o,if_neg M2.o,if_neg M3.o,if_neg M4.o])
  go_wp2_with fail
  refine(text_ev SP.o).mono ?_;rintro e X19 ⟨u19,rfl,SP,HU19,GR⟩;by_cases hgShut19:(u19.toList==([41]:List UInt8))=true
  .have Z20:=z48 (l:=gShut) HU19 hgShut19 yh;obtain⟨s21,X21,HX21,SPn,Q21,C21,GR,HWr,q1,z1⟩:=z69 SP.o Z20.o.2;have G:=J (show s.at_+2<=s21.at_/\s21.at_<=ws.length by have h1:=G.o;have h2:=C21.o;omega);go_wp2_with fail
   rw[HWr.o,HX21.o];have SP:=SPn;clear SPn HWr q1 z1 HX21;refine(put0_calls SP.o.1 3 0 0 ⟨#[]⟩ ⟨#[]⟩ ⟨#[]⟩ ⟨z17,z17,z17⟩).mono ?_;rintro e X22 ⟨v22,rfl,hn22,hb22⟩;have SP:=J (SP.o.below hb22);have N22:=J hn22;clear hb22 hn22;go_wp2_with fail
   go_ret;have hE:spz ws (f+1) .atom s=(putN (nd0 3) [],s21):=by
    refine(atom_eq HST.o HCW.o Q11.o).trans ?_;refine(congrFun hW.o s11).trans ?_;refine(or_t Z20.o.1 Q21.o).trans ?_;rfl
   rw[hE];exact⟨v22,rfl,N22.o,SP.o⟩
  simp only[Bool.not_eq_true]at hgShut19;have Z23:=sees_no (l:=gShut) HU19 hgShut19;go_wp2_with fail
  refine(go_ev (HC.o.expr s11 X19 SP.o.1 yp) BW.o trivial SP.o).mono ?_;rintro e X24 ⟨va24,vc24,l24,s24,rfl,N24,SP,Q24,S24,L24,GR⟩;have T24:=J (show s11.at_<=s24.at_/\l24.length<=3*(s24.at_-s11.at_) by have h1:=S24.o.on;have h2:=S24.o.len;dsimp only[accN]at h1 h2;omega);have G:=J (show s.at_+1<=s24.at_/\s24.at_<=ws.length by have h1:=G.o;have h2:=S24.o.on;have h3:=S24.o.lt;dsimp only at h2 h3;omega);go_wp2_with fail
  refine(text_ev SP.o).mono ?_;rintro e X25 ⟨u25,rfl,SP,HU25,GR⟩;have N24:=J (N24.o.grew GR.o);by_cases hgComma25:(u25.toList==([44]:List UInt8))=true
  .have Z26:=z48 (l:=gComma) HU25 hgComma25 yh;obtain⟨s27,X27,HX27,SPn,Q27,C27,GR,HWr,q1,z1⟩:=z69 SP.o Z26.o.2;have N24:=J (N24.o.grew GR.o);have G:=J (show s.at_+2<=s27.at_/\s27.at_<=ws.length by have h1:=G.o;have h2:=C27.o;omega);go_wp2_with fail
   rw[HWr.o,HX27.o];have SP:=SPn;clear SPn HWr q1 z1 HX27;refine(go_ev (HC.o.expr s27 X27 SP.o.1 yp) BW.o trivial SP.o).mono ?_;rintro e X28 ⟨va28,vc28,l28,s28,rfl,N28,SP,Q28,S28,L28,GR⟩;have T28:=J (show s27.at_<=s28.at_/\l28.length<=3*(s28.at_-s27.at_) by have h1:=S28.o.on;have h2:=S28.o.len;dsimp only[accN]at h1 h2;omega);have N24:=J (N24.o.grew GR.o);have G:=J (show s.at_+2<=s28.at_/\s28.at_<=ws.length by have h1:=G.o;have h2:=S28.o.on;have h3:=S28.o.lt;dsimp only at h2 h3;omega);go_wp2_with fail
   refine(z66 SP.o.1 16 0 0 ⟨#[]⟩ ⟨#[]⟩ ⟨#[]⟩ N24.o N28.o ⟨z17,z17,z17⟩ ⟨L24.o,L28.o⟩).mono ?_;rintro e X29 ⟨v29,rfl,hn29,hb29⟩;have SP:=J (SP.o.below hb29);have N29:=J hn29;clear hb29 hn29;go_wp2_with fail
   refine(z56 SP.o ⟨#[41]⟩ gShut yb yh).mono ?_;rintro e X30 ⟨x30,s30,rfl,SP,Q30,C30,GR⟩;have N29:=J (N29.o.grew GR.o);have G:=J (show s.at_+2<=s30.at_/\s30.at_<=ws.length by have h1:=G.o;have h2:=C30.o;omega);go_wp2_with fail
   go_ret;have hE:spz ws (f+1) .atom s=(putN ⟨16,0,⟨#[]⟩,⟨#[]⟩,⟨#[]⟩,0⟩ [l24,l28],s30):=by
    refine(atom_eq HST.o HCW.o Q11.o).trans ?_;refine(congrFun hW.o s11).trans ?_;refine(or_f Z23.o).trans ?_;refine(z25 Q24.o).trans ?_;refine(or_t Z26.o.1 Q27.o).trans ?_;refine(z25 Q28.o).trans ?_;refine(z37 Q30.o).trans ?_;rfl
   rw[hE];exact⟨v29,rfl,N29.o,SP.o⟩
  simp only[Bool.not_eq_true]at hgComma25;have Z31:=sees_no (l:=gComma) HU25 hgComma25;go_wp2_with fail
  refine(z56 SP.o ⟨#[41]⟩ gShut yb yh).mono ?_;rintro e X32 ⟨x32,s32,rfl,SP,Q32,C32,GR⟩;have N24:=J (N24.o.grew GR.o);have G:=J (show s.at_+1<=s32.at_/\s32.at_<=ws.length by have h1:=G.o;have h2:=C32.o;omega);go_wp2_with fail
  go_ret;have hE:spz ws (f+1) .atom s=(l24,s32):=by
   refine(atom_eq HST.o HCW.o Q11.o).trans ?_;refine(congrFun hW.o s11).trans ?_;refine(or_f Z23.o).trans ?_;refine(z25 Q24.o).trans ?_;refine(or_f Z31.o).trans ?_;refine(z37 Q32.o).trans ?_;rfl
  rw[hE];exact⟨_,rfl,N24.o,SP.o⟩
end
section
variable {d:Dr}{ws:List Wd}{ad:Option Addr}{cp:Nat}
theorem callL_t {go:Nt (List Nd)->PS (List Nd)}{a:List Nd}(h:startsS ws s=true):callLS ws go a s=bindS (go .atom) (fun b=>go (.callL (putN (nd0 7) [a,b]))) s:=by
 unfold callLS;rw[h];rfl
theorem callL_f {go:Nt (List Nd)->PS (List Nd)}{a:List Nd}(h:startsS ws s=false):callLS ws go a s=(a,s):=by
 unfold callLS;rw[h];rfl
theorem atom_goes (hw:BriefW ws) (hf:0<f) (hs:s.at_<=ws.length) (hst:startsS ws s=true):s.at_+1<=(spz ws f .atom s).2.at_/\(spz ws f .atom s).1.length+1<=3*((spz ws f .atom s).2.at_-s.at_):=by
 obtain⟨k,rfl⟩:∃k,f=k+1:=⟨f-1,yf⟩
 obtain⟨c,h1,h2,h3,h4⟩:=atom_m hw (part_m hw k) s hs;have h5:=h4 hst;have h6:=h3.1;show s.at_+1<=(atomS ws (spz ws k) s).2.at_/\(atomS ws (spz ws k) s).1.length+1<=3*((atomS ws (spz ws k) s).2.at_-s.at_);omega
theorem put_len1 (n:Nd) (a:List Nd):(putN n [a]).length=1+a.length:=by
 rw[z62];simp
theorem pcall_calls (hw:BriefW ws) (ha:∀g,g<=f->PcAll d ws ad cp g) (s:Ps) (W:World) (h:PsAt d ws ad cp s W) (hm:ms ws .call s<=f+1) :
 Calls prog 143 #[.pointer (some ⟨d.B,0,none⟩)] W (PostN d ws ad cp (spz ws (f+1) .call s) W):=by
 refine zb26 ?_;intro SP HC HA HM BW G;clear h ha hm hw;go_enter func143,ntmps143
 go_wp2_with fail
 refine(text_ev SP.o).mono ?_;rintro e X1 ⟨u1,rfl,SP,HU1,GR⟩;by_cases hkFst1:(u1.toList==([102,115,116]:List UInt8))=true
 .have Z2:=z48 (l:=kFst) HU1 hkFst1 yh;obtain⟨s3,X3,HX3,SPn,Q3,C3,GR,HWr,q1,z1⟩:=z69 SP.o Z2.o.2;have G:=J (show s.at_+1<=s3.at_/\s3.at_<=ws.length by have h1:=G.o;have h2:=C3.o;omega);go_wp2_with fail
  rw[HWr.o,HX3.o];have SP:=SPn;clear SPn HWr q1 z1 HX3;have G1:=G;refine(go_ev (HC.o.atom s3 X3 SP.o.1 yp) BW.o trivial SP.o).mono ?_;rintro e X4 ⟨va4,vc4,l4,s4,rfl,N4,SP,Q4,S4,L4,GR⟩;have T4:=J (show s3.at_<=s4.at_/\l4.length<=3*(s4.at_-s3.at_) by have h1:=S4.o.on;have h2:=S4.o.len;dsimp only[accN]at h1 h2;omega);have G:=J (show s.at_+1<=s4.at_/\s4.at_<=ws.length by have h1:=G.o;have h2:=S4.o.on;have h3:=S4.o.lt;dsimp only at h2 h3;omega);go_wp2_with fail
  refine(put1_calls SP.o.1 17 0 0 ⟨#[]⟩ ⟨#[]⟩ ⟨#[]⟩ N4.o ⟨z17,z17,z17⟩ (by have h1:=L4.o;omega)).mono ?_;rintro e X5 ⟨v5,rfl,hn5,hb5⟩;have SP:=J (SP.o.below hb5);have N5:=J hn5;clear hb5 hn5;go_wp2_with fail
  have HH:=J (show headS ws (spz ws f) s=(putN ⟨17,0,⟨#[]⟩,⟨#[]⟩,⟨#[]⟩,0⟩ [l4],s4) by
   refine(or_t Z2.o.1 Q3.o).trans ?_;refine(z25 Q4.o).trans ?_;rfl)
  have NH:=N5;have LH:=J (show s.at_<=s4.at_/\(putN ⟨17,0,⟨#[]⟩,⟨#[]⟩,⟨#[]⟩,0⟩ [l4]).length<=3*(s4.at_-s.at_) by have h1:=G1.o;have h2:=T4.o;rw[put_len1];omega);obtain⟨lh,hlh⟩:∃x,putN ⟨17,0,⟨#[]⟩,⟨#[]⟩,⟨#[]⟩,0⟩ [l4]=x:=⟨_,rfl⟩
  rw[hlh]at HH NH LH;have HV:=J hlh;clear hlh;obtain⟨F,hF⟩:∃x,spz ws f (Nt.callL lh) s4=x:=⟨_,rfl⟩
  have HF:=J hF;clear hF;go_loopw [3] (fun v wr=>I (LoopI d ws ad cp f Nt.callL F s W v wr)) (fun _ wr=>ws.length-posOf d wr)
  case atStart=>
   exact J ⟨lh,f,s4,NH.o,SP.o,HF.o,gg,La,LH.o.1,LH.o.2⟩
  case round=>
   obtain⟨acc,g,sr,hN,hSP,hFr,hmr,hgr,hon,hlen⟩:=hrel.o;clear hrel;obtain⟨va,vc,rfl⟩:=hN.is;obtain⟨g,rfl⟩:∃k,g=k+1:=⟨g-1,ga⟩
   refine zb7 ?_;intro SP SP0 NA HFr HM HG HC ON G LA;clear hN hSP hFr hmr hgr hon hlen;go_wp2_with fail
   refine zb43 ?_;intro X40 SP NA;by_cases hst:startsS ws sr=true
   .rw[hst];have HST:=J hst;clear hst;go_wp2_with fail
    refine zb30 ?_;intro X41 va41 vc41 l41 s41 N41 SP Q41 S41 L41 GR T41 G1 NA G;have G:=J (show sr.at_+1<=s41.at_/\s41.at_<=ws.length from⟨T41.o.1,G.o.2⟩);go_wp2_with fail
    refine zb39 ?_;intro X42 v42 SP N42;go_wp2_with fail
    go_roundw
    case rel=>
     exact J ⟨putN ⟨7,0,⟨#[]⟩,⟨#[]⟩,⟨#[]⟩,0⟩ [acc,l41],g,s41,N42.o,SP.o,by
      refine Eq.trans (Eq.symm ?_) HFr.o;show callLS ws (spz ws g) acc sr=_;refine(callL_t HST.o).trans ?_;refine(z25 Q41.o).trans ?_;rfl,gb,gc,gd,gh⟩
    case measure=>
     show ws.length-posOf d _<ws.length-posOf d _;refine zb90 ?_;intro h1;omega
   have HSF:=J (show startsS ws sr=false by simpa using hst);rw[HSF.o];clear hst;go_wp2_with fail
   go_ret;refine zb84 ?_;intro hE;exact⟨_,rfl,NA.o,SP.o⟩
 simp only[Bool.not_eq_true]at hkFst1;have Z6:=sees_no (l:=kFst) HU1 hkFst1;by_cases hkSnd1:(u1.toList==([115,110,100]:List UInt8))=true
 .have Z7:=z48 (l:=kSnd) HU1 hkSnd1 yh;obtain⟨s8,X8,HX8,SPn,Q8,C8,GR,HWr,q1,z1⟩:=z69 SP.o Z7.o.2;have G:=J (show s.at_+1<=s8.at_/\s8.at_<=ws.length by have h1:=G.o;have h2:=C8.o;omega);go_wp2_with fail
  rw[HWr.o,HX8.o];have SP:=SPn;clear SPn HWr q1 z1 HX8;have G1:=G;refine(go_ev (HC.o.atom s8 X8 SP.o.1 yp) BW.o trivial SP.o).mono ?_;rintro e X9 ⟨va9,vc9,l9,s9,rfl,N9,SP,Q9,S9,L9,GR⟩;have T9:=J (show s8.at_<=s9.at_/\l9.length<=3*(s9.at_-s8.at_) by have h1:=S9.o.on;have h2:=S9.o.len;dsimp only[accN]at h1 h2;omega);have G:=J (show s.at_+1<=s9.at_/\s9.at_<=ws.length by have h1:=G.o;have h2:=S9.o.on;have h3:=S9.o.lt;dsimp only at h2 h3;omega);go_wp2_with fail
  refine(put1_calls SP.o.1 18 0 0 ⟨#[]⟩ ⟨#[]⟩ ⟨#[]⟩ N9.o ⟨z17,z17,z17⟩ (by have h1:=L9.o;omega)).mono ?_;rintro e X10 ⟨v10,rfl,hn10,hb10⟩;have SP:=J (SP.o.below hb10);have N10:=J hn10;clear hb10 hn10;go_wp2_with fail
  have HH:=J (show headS ws (spz ws f) s=(putN ⟨18,0,⟨#[]⟩,⟨#[]⟩,⟨#[]⟩,0⟩ [l9],s9) by
   refine(or_f Z6.o).trans ?_;refine(or_t Z7.o.1 Q8.o).trans ?_;refine(z25 Q9.o).trans ?_;rfl)
  have NH:=N10;have LH:=J (show s.at_<=s9.at_/\(putN ⟨18,0,⟨#[]⟩,⟨#[]⟩,⟨#[]⟩,0⟩ [l9]).length<=3*(s9.at_-s.at_) by have h1:=G1.o;have h2:=T9.o;rw[put_len1];omega);obtain⟨lh,hlh⟩:∃x,putN ⟨18,0,⟨#[]⟩,⟨#[]⟩,⟨#[]⟩,0⟩ [l9]=x:=⟨_,rfl⟩
  rw[hlh]at HH NH LH;have HV:=J hlh;clear hlh;obtain⟨F,hF⟩:∃x,spz ws f (Nt.callL lh) s9=x:=⟨_,rfl⟩
  have HF:=J hF;clear hF;go_loopw [3] (fun v wr=>I (LoopI d ws ad cp f Nt.callL F s W v wr)) (fun _ wr=>ws.length-posOf d wr)
  case atStart=>
   exact J ⟨lh,f,s9,NH.o,SP.o,HF.o,gg,La,LH.o.1,LH.o.2⟩
  case round=>
   obtain⟨acc,g,sr,hN,hSP,hFr,hmr,hgr,hon,hlen⟩:=hrel.o;clear hrel;obtain⟨va,vc,rfl⟩:=hN.is;obtain⟨g,rfl⟩:∃k,g=k+1:=⟨g-1,ga⟩
   refine zb7 ?_;intro SP SP0 NA HFr HM HG HC ON G LA;clear hN hSP hFr hmr hgr hon hlen;go_wp2_with fail
   refine zb43 ?_;intro X40 SP NA;by_cases hst:startsS ws sr=true
   .rw[hst];have HST:=J hst;clear hst;go_wp2_with fail
    refine zb30 ?_;intro X41 va41 vc41 l41 s41 N41 SP Q41 S41 L41 GR T41 G1 NA G;have G:=J (show sr.at_+1<=s41.at_/\s41.at_<=ws.length from⟨T41.o.1,G.o.2⟩);go_wp2_with fail
    refine zb39 ?_;intro X42 v42 SP N42;go_wp2_with fail
    go_roundw
    case rel=>
     exact J ⟨putN ⟨7,0,⟨#[]⟩,⟨#[]⟩,⟨#[]⟩,0⟩ [acc,l41],g,s41,N42.o,SP.o,by
      refine Eq.trans (Eq.symm ?_) HFr.o;show callLS ws (spz ws g) acc sr=_;refine(callL_t HST.o).trans ?_;refine(z25 Q41.o).trans ?_;rfl,gb,gc,gd,gh⟩
    case measure=>
     show ws.length-posOf d _<ws.length-posOf d _;refine zb90 ?_;intro h1;omega
   have HSF:=J (show startsS ws sr=false by simpa using hst);rw[HSF.o];clear hst;go_wp2_with fail
   go_ret;refine zb84 ?_;intro hE;exact⟨_,rfl,NA.o,SP.o⟩
 simp only[Bool.not_eq_true]at hkSnd1;have Z11:=sees_no (l:=kSnd) HU1 hkSnd1;by_cases hkPrint1:(u1.toList==([112,114,105,110,116]:List UInt8))=true
 .have Z12:=z48 (l:=kPrint) HU1 hkPrint1 yh;obtain⟨s13,X13,HX13,SPn,Q13,C13,GR,HWr,q1,z1⟩:=z69 SP.o Z12.o.2;have G:=J (show s.at_+1<=s13.at_/\s13.at_<=ws.length by have h1:=G.o;have h2:=C13.o;omega);go_wp2_with fail
  rw[HWr.o,HX13.o];have SP:=SPn;clear SPn HWr q1 z1 HX13;have G1:=G;refine(go_ev (HC.o.atom s13 X13 SP.o.1 yp) BW.o trivial SP.o).mono ?_;rintro e X14 ⟨va14,vc14,l14,s14,rfl,N14,SP,Q14,S14,L14,GR⟩;have T14:=J (show s13.at_<=s14.at_/\l14.length<=3*(s14.at_-s13.at_) by have h1:=S14.o.on;have h2:=S14.o.len;dsimp only[accN]at h1 h2;omega);have G:=J (show s.at_+1<=s14.at_/\s14.at_<=ws.length by have h1:=G.o;have h2:=S14.o.on;have h3:=S14.o.lt;dsimp only at h2 h3;omega);go_wp2_with fail
  refine(put1_calls SP.o.1 21 0 0 ⟨#[]⟩ ⟨#[]⟩ ⟨#[]⟩ N14.o ⟨z17,z17,z17⟩ (by have h1:=L14.o;omega)).mono ?_;rintro e X15 ⟨v15,rfl,hn15,hb15⟩;have SP:=J (SP.o.below hb15);have N15:=J hn15;clear hb15 hn15;go_wp2_with fail
  have HH:=J (show headS ws (spz ws f) s=(putN ⟨21,0,⟨#[]⟩,⟨#[]⟩,⟨#[]⟩,0⟩ [l14],s14) by
   refine(or_f Z6.o).trans ?_;refine(or_f Z11.o).trans ?_;refine(or_t Z12.o.1 Q13.o).trans ?_;refine(z25 Q14.o).trans ?_;rfl)
  have NH:=N15;have LH:=J (show s.at_<=s14.at_/\(putN ⟨21,0,⟨#[]⟩,⟨#[]⟩,⟨#[]⟩,0⟩ [l14]).length<=3*(s14.at_-s.at_) by have h1:=G1.o;have h2:=T14.o;rw[put_len1];omega);obtain⟨lh,hlh⟩:∃x,putN ⟨21,0,⟨#[]⟩,⟨#[]⟩,⟨#[]⟩,0⟩ [l14]=x:=⟨_,rfl⟩
  rw[hlh]at HH NH LH;have HV:=J hlh;clear hlh;obtain⟨F,hF⟩:∃x,spz ws f (Nt.callL lh) s14=x:=⟨_,rfl⟩
  have HF:=J hF;clear hF;go_loopw [3] (fun v wr=>I (LoopI d ws ad cp f Nt.callL F s W v wr)) (fun _ wr=>ws.length-posOf d wr)
  case atStart=>
   exact J ⟨lh,f,s14,NH.o,SP.o,HF.o,gg,La,LH.o.1,LH.o.2⟩
  case round=>
   obtain⟨acc,g,sr,hN,hSP,hFr,hmr,hgr,hon,hlen⟩:=hrel.o;clear hrel;obtain⟨va,vc,rfl⟩:=hN.is;obtain⟨g,rfl⟩:∃k,g=k+1:=⟨g-1,ga⟩
   refine zb7 ?_;intro SP SP0 NA HFr HM HG HC ON G LA;clear hN hSP hFr hmr hgr hon hlen;go_wp2_with fail
   refine zb43 ?_;intro X40 SP NA;by_cases hst:startsS ws sr=true
   .rw[hst];have HST:=J hst;clear hst;go_wp2_with fail
    refine zb30 ?_;intro X41 va41 vc41 l41 s41 N41 SP Q41 S41 L41 GR T41 G1 NA G;have G:=J (show sr.at_+1<=s41.at_/\s41.at_<=ws.length from⟨T41.o.1,G.o.2⟩);go_wp2_with fail
    refine zb39 ?_;intro X42 v42 SP N42;go_wp2_with fail
    go_roundw
    case rel=>
     exact J ⟨putN ⟨7,0,⟨#[]⟩,⟨#[]⟩,⟨#[]⟩,0⟩ [acc,l41],g,s41,N42.o,SP.o,by
      refine Eq.trans (Eq.symm ?_) HFr.o;show callLS ws (spz ws g) acc sr=_;refine(callL_t HST.o).trans ?_;refine(z25 Q41.o).trans ?_;rfl,gb,gc,gd,gh⟩
    case measure=>
     show ws.length-posOf d _<ws.length-posOf d _;refine zb90 ?_;intro h1;omega
   have HSF:=J (show startsS ws sr=false by simpa using hst);rw[HSF.o];clear hst;go_wp2_with fail
   go_ret;refine zb84 ?_;intro hE;exact⟨_,rfl,NA.o,SP.o⟩
 simp only[Bool.not_eq_true]at hkPrint1;have Z16:=sees_no (l:=kPrint) HU1 hkPrint1;by_cases hkDo1:(u1.toList==([100,111]:List UInt8))=true
 .have Z17:=z48 (l:=kDo) HU1 hkDo1 yh;obtain⟨s18,X18,HX18,SPn,Q18,C18,GR,HWr,q1,z1⟩:=z69 SP.o Z17.o.2;have G:=J (show s.at_+1<=s18.at_/\s18.at_<=ws.length by have h1:=G.o;have h2:=C18.o;omega);go_wp2_with fail
  rw[HWr.o,HX18.o];have SP:=SPn;clear SPn HWr q1 z1 HX18;refine(name_ev BW.o SP.o).mono ?_;rintro e X19 ⟨n19,s19,rfl,SP,Q19,C19,B19,GR⟩;have G:=J (show s.at_+1<=s19.at_/\s19.at_<=ws.length by have h1:=G.o;have h2:=C19.o;omega);go_wp2_with fail
  have G1:=G;refine(go_ev (HC.o.atom s19 X19 SP.o.1 yp) BW.o trivial SP.o).mono ?_;rintro e X20 ⟨va20,vc20,l20,s20,rfl,N20,SP,Q20,S20,L20,GR⟩;have T20:=J (show s19.at_<=s20.at_/\l20.length<=3*(s20.at_-s19.at_) by have h1:=S20.o.on;have h2:=S20.o.len;dsimp only[accN]at h1 h2;omega);have G:=J (show s.at_+1<=s20.at_/\s20.at_<=ws.length by have h1:=G.o;have h2:=S20.o.on;have h3:=S20.o.lt;dsimp only at h2 h3;omega);go_wp2_with fail
  refine(put1_calls SP.o.1 22 0 0 n19 ⟨#[]⟩ ⟨#[]⟩ N20.o ⟨B19.o,z17,z17⟩ (by have h1:=L20.o;omega)).mono ?_;rintro e X21 ⟨v21,rfl,hn21,hb21⟩;have SP:=J (SP.o.below hb21);have N21:=J hn21;clear hb21 hn21;go_wp2_with fail
  have HH:=J (show headS ws (spz ws f) s=(putN ⟨22,0,n19,⟨#[]⟩,⟨#[]⟩,0⟩ [l20],s20) by
   refine(or_f Z6.o).trans ?_;refine(or_f Z11.o).trans ?_;refine(or_f Z16.o).trans ?_;refine(or_t Z17.o.1 Q18.o).trans ?_;refine(z25 Q19.o).trans ?_;refine(z25 Q20.o).trans ?_;rfl)
  have NH:=N21;have LH:=J (show s.at_<=s20.at_/\(putN ⟨22,0,n19,⟨#[]⟩,⟨#[]⟩,0⟩ [l20]).length<=3*(s20.at_-s.at_) by have h1:=G1.o;have h2:=T20.o;rw[put_len1];omega);obtain⟨lh,hlh⟩:∃x,putN ⟨22,0,n19,⟨#[]⟩,⟨#[]⟩,0⟩ [l20]=x:=⟨_,rfl⟩
  rw[hlh]at HH NH LH;have HV:=J hlh;clear hlh;obtain⟨F,hF⟩:∃x,spz ws f (Nt.callL lh) s20=x:=⟨_,rfl⟩
  have HF:=J hF;clear hF;go_loopw [3] (fun v wr=>I (LoopI d ws ad cp f Nt.callL F s W v wr)) (fun _ wr=>ws.length-posOf d wr)
  case atStart=>
   exact J ⟨lh,f,s20,NH.o,SP.o,HF.o,gg,La,LH.o.1,LH.o.2⟩
  case round=>
   obtain⟨acc,g,sr,hN,hSP,hFr,hmr,hgr,hon,hlen⟩:=hrel.o;clear hrel;obtain⟨va,vc,rfl⟩:=hN.is;obtain⟨g,rfl⟩:∃k,g=k+1:=⟨g-1,ga⟩
   refine zb7 ?_;intro SP SP0 NA HFr HM HG HC ON G LA;clear hN hSP hFr hmr hgr hon hlen;go_wp2_with fail
   refine zb43 ?_;intro X40 SP NA;by_cases hst:startsS ws sr=true
   .rw[hst];have HST:=J hst;clear hst;go_wp2_with fail
    refine zb30 ?_;intro X41 va41 vc41 l41 s41 N41 SP Q41 S41 L41 GR T41 G1 NA G;have G:=J (show sr.at_+1<=s41.at_/\s41.at_<=ws.length from⟨T41.o.1,G.o.2⟩);go_wp2_with fail
    refine zb39 ?_;intro X42 v42 SP N42;go_wp2_with fail
    go_roundw
    case rel=>
     exact J ⟨putN ⟨7,0,⟨#[]⟩,⟨#[]⟩,⟨#[]⟩,0⟩ [acc,l41],g,s41,N42.o,SP.o,by
      refine Eq.trans (Eq.symm ?_) HFr.o;show callLS ws (spz ws g) acc sr=_;refine(callL_t HST.o).trans ?_;refine(z25 Q41.o).trans ?_;rfl,gb,gc,gd,gh⟩
    case measure=>
     show ws.length-posOf d _<ws.length-posOf d _;refine zb90 ?_;intro h1;omega
   have HSF:=J (show startsS ws sr=false by simpa using hst);rw[HSF.o];clear hst;go_wp2_with fail
   go_ret;refine zb84 ?_;intro hE;exact⟨_,rfl,NA.o,SP.o⟩
 simp only[Bool.not_eq_true]at hkDo1;have Z22:=sees_no (l:=kDo) HU1 hkDo1;go_wp2_with fail
 refine(go_ev (HC.o.atom s X1 SP.o.1 yp) BW.o trivial SP.o).mono ?_;rintro e X23 ⟨va23,vc23,l23,s23,rfl,N23,SP,Q23,S23,L23,GR⟩;have T23:=J (show s.at_<=s23.at_/\l23.length<=3*(s23.at_-s.at_) by have h1:=S23.o.on;have h2:=S23.o.len;dsimp only[accN]at h1 h2;omega);have G:=J (show s.at_+0<=s23.at_/\s23.at_<=ws.length by have h1:=G.o;have h2:=S23.o.on;have h3:=S23.o.lt;dsimp only at h2 h3;omega);go_wp2_with fail
 have HH:=J (show headS ws (spz ws f) s=(l23,s23) by
  refine(or_f Z6.o).trans ?_;refine(or_f Z11.o).trans ?_;refine(or_f Z16.o).trans ?_;refine(or_f Z22.o).trans ?_;exact Q23.o)
 have NH:=N23;have LH:=J (show s.at_<=s23.at_/\(l23).length<=3*(s23.at_-s.at_) by have h2:=T23.o;omega);obtain⟨F,hF⟩:∃x,spz ws f (Nt.callL l23) s23=x:=⟨_,rfl⟩
 have HF:=J hF;clear hF;go_loopw [3] (fun v wr=>I (LoopI d ws ad cp f Nt.callL F s W v wr)) (fun _ wr=>ws.length-posOf d wr)
 case atStart=>
  exact J ⟨l23,f,s23,NH.o,SP.o,HF.o,gg,La,LH.o.1,LH.o.2⟩
 case round=>
  obtain⟨acc,g,sr,hN,hSP,hFr,hmr,hgr,hon,hlen⟩:=hrel.o;clear hrel;obtain⟨va,vc,rfl⟩:=hN.is;obtain⟨g,rfl⟩:∃k,g=k+1:=⟨g-1,ga⟩
  refine zb7 ?_;intro SP SP0 NA HFr HM HG HC ON G LA;clear hN hSP hFr hmr hgr hon hlen;go_wp2_with fail
  refine zb43 ?_;intro X40 SP NA;by_cases hst:startsS ws sr=true
  .rw[hst];have HST:=J hst;clear hst;go_wp2_with fail
   refine zb30 ?_;intro X41 va41 vc41 l41 s41 N41 SP Q41 S41 L41 GR T41 G1 NA G;have G:=J (show sr.at_+1<=s41.at_/\s41.at_<=ws.length from⟨T41.o.1,G.o.2⟩);go_wp2_with fail
   refine zb39 ?_;intro X42 v42 SP N42;go_wp2_with fail
   go_roundw
   case rel=>
    exact J ⟨putN ⟨7,0,⟨#[]⟩,⟨#[]⟩,⟨#[]⟩,0⟩ [acc,l41],g,s41,N42.o,SP.o,by
     refine Eq.trans (Eq.symm ?_) HFr.o;show callLS ws (spz ws g) acc sr=_;refine(callL_t HST.o).trans ?_;refine(z25 Q41.o).trans ?_;rfl,gb,gc,gd,gh⟩
   case measure=>
    show ws.length-posOf d _<ws.length-posOf d _;refine zb90 ?_;intro h1;omega
  have HSF:=J (show startsS ws sr=false by simpa using hst);rw[HSF.o];clear hst;go_wp2_with fail
  go_ret;refine zb84 ?_;intro hE;exact⟨_,rfl,NA.o,SP.o⟩
end
end
end Go.Proofs.YtfbojelpdccjaaaGreatDoor
