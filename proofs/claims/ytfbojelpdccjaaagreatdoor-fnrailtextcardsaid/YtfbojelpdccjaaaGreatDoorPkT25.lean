import Derived.Test.YtfbojelpdccjaaaGreatDoorPkT24
open Go.Proofs.Tryz
set_option maxHeartbeats 8000000
set_option maxRecDepth 100000
namespace Go.Proofs.YtfbojelpdccjaaaGreatDoor
open Go.RowKit Go.Deep
variable {es:List Ef}{e p:Nat}{s s0:Ps}{v:Value}{W X:World}
section
open Go.RowKit Go.Deep
section
variable {d:Dr}{ws:List Wd}{ad:Option Addr}{cp:Nat}
def LoopH (d:Dr) (ws:List Wd) (ad:Option Addr) (cp:Nat) (f:Nat) (k:Int) (F:List Nd×Ps) (s:Ps) (W:World) (v:Value) (wr:World):Prop:=
 ∃(ls:List Ky) (g:Nat) (sr:Ps),Hy d ws ad cp sr W wr v ls/\spz ws g (.opsL k (ls.map Ky.ns)) sr=F/\ms ws (.opsL k (ls.map Ky.ns)) sr<=g/\g<=f/\s.at_<=sr.at_/\(ls.map Ky.ns).flatten.length<=3*(sr.at_-s.at_)+1/\2*ls.length<=6+(sr.at_-s.at_)/\(sr.bad=false->2*ls.length<=4+(sr.at_-s.at_))
theorem phand_calls (hw:BriefW ws) {f:Nat}(ha:∀g,g<=f->PcAll d ws ad cp g) (k:Int) (s:Ps) (W:World) (h:PsAt d ws ad cp s W) (hm:ms ws (.hand k) s<=f+1) :
 Calls prog 153 #[.pointer (some ⟨d.B,0,none⟩),.int .i64 k] W (PostN d ws ad cp (spz ws (f+1) (.hand k) s) W):=by
 have SP:=J (StepP.start h);have HC:=J (ha f La);have HA:=J ha;have H0:=J h;have HM:=J hm;have BW:=J hw;have G:=J (show s.at_+0<=s.at_/\s.at_<=ws.length from⟨La,h.lt⟩);clear h ha hm hw;go_enter func153,ntmps153
 go_wp2_with fail
 refine(go_ev (HC.o.expr s W SP.o.1 yp) BW.o trivial SP.o).mono ?_;refine zb73 ?_;intro X1 va1 vc1 l1 s1 N1 SP Q1 S1 L1 GR T1 G;go_wp2_with fail
 have HY:I (Hy d ws ad cp s1 W (X1.alloc (.cells #[.slice va1 l1.length vc1] 24)) (.slice (some ⟨X1.heap.size,0,none⟩) 1 1) [⟨va1,vc1,l1⟩]):=J (Hy.start SP.o ⟨va1,vc1,l1⟩ N1.o);generalize X1.alloc (.cells #[.slice va1 l1.length vc1] 24)=Y1 at HY |-;generalize X1.heap.size=y1 at HY |-;have SP:=J HY.o.step;clear N1;have HM0:=HM;have HM:=J (show 16*(ws.length-s1.at_)+12<=f+1 by have h1:=HM0.o;have h2:=T1.o.1;simp only[ms,lvN]at h1;omega);have G:=J (show s1.at_+0<=s1.at_/\s1.at_<=ws.length from⟨La,G.o.2⟩);refine(z56 SP.o ⟨#[119,105,116,104]⟩ kWith yb yh).mono ?_
 rintro e X2 ⟨x2,s2,rfl,SP,Q2,C2,GR⟩;have HY:=J (HY.o.re H0.o GR.o SP.o);have G:=J (show s1.at_+0<=s2.at_/\s2.at_<=ws.length by have h1:=G.o;have h2:=C2.o;omega);go_wp2_with fail
 refine(z56 SP.o ⟨#[114,101,116]⟩ kRet yb yh).mono ?_;rintro e X3 ⟨x3,s3,rfl,SP,Q3,C3,GR⟩;have HY:=J (HY.o.re H0.o GR.o SP.o);have G:=J (show s1.at_+0<=s3.at_/\s3.at_<=ws.length by have h1:=G.o;have h2:=C3.o;omega);go_wp2_with fail
 refine(name_ev BW.o SP.o).mono ?_;rintro e X4 ⟨n4,s4,rfl,SP,Q4,C4,B4,GR⟩;have HY:=J (HY.o.re H0.o GR.o SP.o);have G:=J (show s1.at_+0<=s4.at_/\s4.at_<=ws.length by have h1:=G.o;have h2:=C4.o;omega);go_wp2_with fail
 refine(z56 SP.o ⟨#[45,62]⟩ gTo yb yh).mono ?_;rintro e X5 ⟨x5,s5,rfl,SP,Q5,C5,GR⟩;have HY:=J (HY.o.re H0.o GR.o SP.o);have G:=J (show s1.at_+0<=s5.at_/\s5.at_<=ws.length by have h1:=G.o;have h2:=C5.o;omega);go_wp2_with fail
 have GA:=G;refine(go_ev (HC.o.expr s5 X5 SP.o.1 yp) BW.o trivial SP.o).mono ?_;rintro e X6 ⟨va6,vc6,l6,s6,rfl,N6,SP,Q6,S6,L6,GR⟩;have T6:=J (show s5.at_<=s6.at_/\l6.length<=3*(s6.at_-s5.at_) by have h1:=S6.o.on;have h2:=S6.o.len;dsimp only[accN]at h1 h2;omega);have HY:=J (HY.o.re H0.o GR.o SP.o);have G:=J (show s1.at_+0<=s6.at_/\s6.at_<=ws.length by have h1:=G.o;have h2:=S6.o.on;have h3:=S6.o.lt;dsimp only at h2 h3;omega);go_wp2_with fail
 refine(put1_calls SP.o.1 25 0 0 n4 ⟨#[]⟩ ⟨#[]⟩ N6.o ⟨B4.o,z17,z17⟩ (by have h1:=L6.o;omega)).mono ?_;rintro e X7 ⟨v7,rfl,hn7,hb7⟩;have SP:=J (SP.o.below hb7);have HY:=J (HY.o.re H0.o (Grew.of_below hb7) SP.o);have N7:=J hn7;clear hb7 hn7;obtain⟨pn,hpn⟩:∃y,putN ⟨25,0,n4,⟨#[]⟩,⟨#[]⟩,0⟩ [l6]=y:=⟨_,rfl⟩
 rw[hpn]at N7;have HPN:=J hpn;clear hpn;obtain⟨vp,vcp,rfl⟩:=N7.o.is;go_wp2_with (at_builtin;refine z21 rfl _ _ 139 rfl _ _ rfl rfl (fun ty=>HY.o.app H0.o ⟨vp,vcp,pn⟩ N7.o yn ty) ?_;intro v5 w5 hv5;have HY5:=J hv5.1;clear hv5)
 have SP:=J HY5.o.step;obtain⟨F,hF⟩:∃x,spz ws f (.opsL k [l1,pn]) s6=x:=⟨_,rfl⟩
 have HF:=J hF;clear hF;go_loopw [5] (fun v wr=>I (LoopH d ws ad cp f k F s W v wr)) (fun _ wr=>ws.length-posOf d wr)
 case atStart=>
  have h1:=HM.o;have h2:=G.o;have h3:=T1.o;have h4:=T6.o;have h5:=GA.o;exact J ⟨[⟨va1,vc1,l1⟩,⟨vp,vcp,pn⟩],f,s6,HY5.o,HF.o,(by simp only[ms,lvN];omega),La,yf,(by rw[<-HPN.o];simp[putN];omega),by simp<;>omega,fun _=>by simp<;>omega⟩
 case round=>
  obtain⟨ls,g,sr,hN,hFr,hmr,hgr,hon,hlen,hll,hlv⟩:=hrel.o;clear hrel;obtain⟨va,vc,rfl⟩:=y_is hN.kids;obtain⟨g,rfl⟩:∃k,g=k+1:=⟨g-1,ga⟩
  have HY:=J hN;have SP:=J hN.step;have SP0:=J hN.step;have HFr:=J hFr;have HM:=J hmr;have HG:=J hgr;have HC:=J (HA.o g yf);have ON:=J (Lc hon (Lc hlen (Lc hll hlv)));have G:=J (show sr.at_+0<=sr.at_/\sr.at_<=ws.length from⟨La,hN.step.1.lt⟩);clear hN hFr hmr hgr hon hlen hll hlv;go_wp2_with fail
  refine(text_ev SP.o).mono ?_;rintro e X21 ⟨u21,rfl,SP,HU21,GR⟩;have HY:=J (HY.o.re H0.o GR.o SP.o);by_cases hgBar21:(u21.toList==([124]:List UInt8))=true
  .have Z22:=z48 (l:=gBar) HU21 hgBar21 yh;have q1:=z8 SP.o.1.blk 1;have z1:=z11 SP.o.1.blk 1;simp at q1;have HWr:=J SP.o.wrap;have hn23:=SP.o.next Z22.o.2;have hy23:=HY.o.nx H0.o Z22.o.2;obtain⟨s23,hs23⟩:∃x,sr.next=x:=⟨_,rfl⟩
   have hc23:s23.at_=sr.at_+1:=by rw[<-hs23];rfl
   rw[hs23]at hn23 hy23;have GR23:=J (z42 (d:=d) X21 1 (.int .i64 ((sr.at_+1:Nat):Int)));obtain⟨X23,hX23⟩:∃Y,X21.setCell ⟨d.B,1,none⟩ (.int .i64 ((sr.at_+1:Nat):Int))=Y:=⟨_,rfl⟩
   rw[hX23]at hn23 GR23 hy23;have HX23:=J hX23;have G:=J (show sr.at_+1<=s23.at_/\s23.at_<=ws.length by have h1:=G.o;have h2:=Z22.o.2;omega);have SPn:=J hn23;have HYn:=J hy23;clear hy23;have Q23:=J hs23;clear hn23 hs23 hc23 hX23 GR23;go_wp2_with fail
   rw[HWr.o,HX23.o];have SP:=SPn;clear SPn HWr q1 z1 HX23;have HY:=HYn;clear HYn;have HB0:=J (sees_live yh Z22.o.1);refine(name_ev BW.o SP.o).mono ?_;rintro e X24 ⟨n24,s24,rfl,SP,Q24,C24,B24,GR⟩;have HY:=J (HY.o.re H0.o GR.o SP.o);have G:=J (show sr.at_+1<=s24.at_/\s24.at_<=ws.length by have h1:=G.o;have h2:=C24.o;omega);go_wp2_with fail
   have NB:I ((X24.alloc (.cells #[.int .i64 26,.int .i64 0,.string n24,.string ⟨#[]⟩,.string ⟨#[]⟩,.int .i64 0] 60)).heap[X24.heap.size]?=some (.cells #[.int .i64 26,.int .i64 0,.string n24,.string ⟨#[]⟩,.string ⟨#[]⟩,.int .i64 0] 60)):=J (Ld X24 (.cells #[.int .i64 26,.int .i64 0,.string n24,.string ⟨#[]⟩,.string ⟨#[]⟩,.int .i64 0] 60)).1;have NQ:=J (show X24.heap.size≠d.B/\X24.heap.size≠d.G by have h1:=z12 SP.o.1.blk;have h2:=SP.o.1.eq;omega);have HZ:=J SP.o.2.size
   have hba:Below X24.heap.size X24 (X24.alloc (.cells #[.int .i64 26,.int .i64 0,.string n24,.string ⟨#[]⟩,.string ⟨#[]⟩,.int .i64 0] 60)):=Lb.alloc La _;have SP:=J (SP.o.below hba);have GX:=J (Grew.of_below (d:=d) hba);generalize X24.alloc (.cells #[.int .i64 26,.int .i64 0,.string n24,.string ⟨#[]⟩,.string ⟨#[]⟩,.int .i64 0] 60)=Y2 at NB SP GX |-;clear hba;refine(name_ev BW.o SP.o).mono ?_;rintro e X25 ⟨n25,s25,rfl,SP,Q25,C25,B25,GR⟩;have NB:=J ((GR.o.block _ ⟨z12 NB.o,NQ.o.1,NQ.o.2⟩).trans NB.o);have GX:=J (GX.o.trans GR.o)
   have G:=J (show sr.at_+1<=s25.at_/\s25.at_<=ws.length by have h1:=G.o;have h2:=C25.o;omega);have q3:=z8 NB.o 3;have z3:=z11 NB.o 3;simp at q3;go_wp2_with fail
   have NB:I ((X24.heap.size,X25.setCell ⟨X24.heap.size,3,none⟩ (.string n25)).2.heap[X24.heap.size]?=some (.cells #[.int .i64 26,.int .i64 0,.string n24,.string n25,.string ⟨#[]⟩,.int .i64 0] 60)):=J (z28 (i:=3) (.string n25) NB.o);have SP:=J (SP.o.put H0.o HZ.o 3 (.string n25));have GX:=J (set_grew (i:=3) (v:=.string n25) GX.o La);dsimp only at NB;generalize X25.setCell ⟨X24.heap.size,3,none⟩ (.string n25)=Z25 at NB SP GX |-;clear q3 z3;refine(name_ev BW.o SP.o).mono ?_;rintro e X26 ⟨n26,s26,rfl,SP,Q26,C26,B26,GR⟩;have NB:=J ((GR.o.block _ ⟨z12 NB.o,NQ.o.1,NQ.o.2⟩).trans NB.o)
   have GX:=J (GX.o.trans GR.o);have G:=J (show sr.at_+1<=s26.at_/\s26.at_<=ws.length by have h1:=G.o;have h2:=C26.o;omega);have q4:=z8 NB.o 4;have z4:=z11 NB.o 4;simp at q4;go_wp2_with fail
   have NB:I ((X24.heap.size,X26.setCell ⟨X24.heap.size,4,none⟩ (.string n26)).2.heap[X24.heap.size]?=some (.cells #[.int .i64 26,.int .i64 0,.string n24,.string n25,.string n26,.int .i64 0] 60)):=J (z28 (i:=4) (.string n26) NB.o);have SP:=J (SP.o.put H0.o HZ.o 4 (.string n26));have GX:=J (set_grew (i:=4) (v:=.string n26) GX.o La);dsimp only at NB;generalize X26.setCell ⟨X24.heap.size,4,none⟩ (.string n26)=Z26 at NB SP GX |-;clear q4 z4;refine(z56 SP.o ⟨#[45,62]⟩ gTo yb yh).mono ?_;rintro e X27 ⟨x27,s27,rfl,SP,Q27,C27,GR⟩;have NB:=J ((GR.o.block _ ⟨z12 NB.o,NQ.o.1,NQ.o.2⟩).trans NB.o)
   have GX:=J (GX.o.trans GR.o);have G:=J (show sr.at_+1<=s27.at_/\s27.at_<=ws.length by have h1:=G.o;have h2:=C27.o;omega);go_upto_region 13 with fail
   refine z30 (S:=fun w':World=>w'.heap[X24.heap.size]?=some (.cells #[.int .i64 26,.int .i64 0,.string n24,.string n25,.string n26,.int .i64 0] 60)) yb rfl rfl ?_;have hbz:Below X27.heap.size X27 X27.drew:=Lb.drew;have SP:=J (SP.o.below hbz);have GX:=J (GX.o.trans (Grew.of_below hbz));have NB:=J ((hbz.block _ (z12 NB.o)).trans NB.o);clear hbz;generalize X27.drew=Z9 at NB SP GX |-;refine pick_o 0 (.slice va ls.length vc) NB.o ?_
   refine z10 (i:=1) (v:=.agg #[.int .i64 26,.int .i64 0,.string n24,.string n25,.string n26,.int .i64 0]) yb rfl yb yb rfl rfl (fun w' h=>by have e0:=z8 h 0;have e1:=z8 h 1;have e2:=z8 h 2;have e3:=z8 h 3;have e4:=z8 h 4;have e5:=z8 h 5;simp at e0 e1 e2 e3 e4 e5;simp[go_sem,e0,e1,e2,e3,e4,e5]) NB.o yd ?_;refine pick_o 2 (.pointer (some ⟨d.B,0,none⟩)) NB.o ?_;refine z16 (i:=3) (f:=34) (args:= #[.pointer (some ⟨d.B,0,none⟩)]) rfl yb rfl rfl yc ?_;have GE:=G;refine(go_ev (HC.o.expr s27 Z9 SP.o.1 yp) BW.o trivial SP.o).mono ?_;rintro e X28 ⟨va28,vc28,l28,s28,rfl,N28,SP,Q28,S28,L28,GR⟩
   have T28:=J (show s27.at_<=s28.at_/\l28.length<=3*(s28.at_-s27.at_) by have h1:=S28.o.on;have h2:=S28.o.len;dsimp only[accN]at h1 h2;omega);have NB:=J ((GR.o.block _ ⟨z12 NB.o,NQ.o.1,NQ.o.2⟩).trans NB.o);have GX:=J (GX.o.trans GR.o);have G:=J (show sr.at_+1<=s28.at_/\s28.at_<=ws.length by have h1:=G.o;have h2:=S28.o.on;have h3:=S28.o.lt;dsimp only at h2 h3;omega);refine⟨_,rfl,NB.o,?_⟩;refine z15 yd ?_
   refine z23 (i:=4) (v:=.slice (some ⟨X28.heap.size,0,none⟩) 1 1) (w1:=X28.alloc (.cells #[.slice va28 l28.length vc28] 24)) rfl yb rfl rfl yc ((((Below.refl X28.heap.size X28).alloc La (.cells #[.slice va28 l28.length vc28] 24)).block _ (z12 NB.o)).trans NB.o) yd ?_;refine z16 (i:=5) (f:=67) (args:= #[.agg #[.int .i64 26,.int .i64 0,.string n24,.string n25,.string n26,.int .i64 0],.slice (some ⟨X28.heap.size,0,none⟩) 1 1]) rfl yb rfl rfl yc ?_;refine(put1_calls SP.o.1 26 0 0 n24 n25 n26 N28.o ⟨B24.o,B25.o,B26.o⟩ (by have h1:=L28.o;omega)).mono ?_;rintro e X29 ⟨v29,rfl,hn29,hb29⟩
   have SP:=J (SP.o.below hb29);have NB:=J (((Grew.of_below hb29).block _ ⟨z12 NB.o,NQ.o.1,NQ.o.2⟩).trans NB.o);have GX:=J (GX.o.trans (Grew.of_below hb29));obtain⟨pm,hpm⟩:∃y,putN ⟨26,0,n24,n25,n26,0⟩ [l28]=y:=⟨_,rfl⟩
   rw[hpm]at hn29;have HPM:=J hpm;clear hpm;obtain⟨vq,vcq,rfl⟩:=hn29.is;have N29:=J hn29;clear hn29 hb29;refine⟨_,rfl,NB.o,?_⟩;refine z15 yd ?_;refine z23 (i:=6) (v:=.slice (some ⟨X29.heap.size,0,none⟩) 1 1) (w1:=X29.alloc (.cells #[.slice vq pm.length vcq] 24)) rfl yb rfl rfl yc ((((Below.refl X29.heap.size X29).alloc La (.cells #[.slice vq pm.length vcq] 24)).block _ (z12 NB.o)).trans NB.o) yd ?_;obtain⟨va9,X9,hr9,hH9,hK9⟩:=(HY.o.re H0.o GX.o SP.o).app H0.o ⟨vq,vcq,pm⟩ N29.o (by have h1:=ON.o.2.2.1;have h2:=SP.o.1.few;have h3:=SP0.o.1.lt;omega) 139;obtain⟨a9,c9,rfl⟩:=y_is hH9.kids
   dsimp only at hr9;have HH9:=J hH9;refine z23 (i:=7) (v:=.slice a9 (ls++ [(⟨vq,vcq,pm⟩:Ky)]).length c9) (w1:=X9) rfl yb rfl rfl (append_runN (s:=.tmp 50) (x:=.tmp 56) (t:=139) rfl rfl rfl hr9) (hK9 _ _ NB.o) yd ?_;refine pick_o 8 (.slice a9 (ls++ [(⟨vq,vcq,pm⟩:Ky)]).length c9) (hK9 _ _ NB.o) ?_;refine z34 yb ?_;clear hH9 hK9 hr9;have SP:=J HH9.o.step;have LV:=J (show s28.bad=false->sr.at_+2<=s28.at_ by
    intro hb;have b1:=stuck_false (stuck_all (ws:=ws) g .expr) (s:=s27) (by rw[Q28.o];exact hb);have b2:=stuck_false (z35 (ws:=ws) (l:=gTo) yh) (s:=s26) (by rw[Q27.o];exact b1);have b3:=stuck_false (z55 (ws:=ws)) (s:=s25) (by rw[Q26.o];exact b2);have b4:=stuck_false (z55 (ws:=ws)) (s:=s24) (by rw[Q25.o];exact b3);have b5:=name_live (ws:=ws) (s:=s23) (by rw[Q24.o];exact b4);rw[Q24.o]at b5;have b6:s23.at_=sr.at_+1:=by rw[<-Q23.o];rfl
    have b8:=name_live (ws:=ws) (s:=s24) (by rw[Q25.o];exact b3);have b9:=name_live (ws:=ws) (s:=s25) (by rw[Q26.o];exact b2);rw[Q25.o]at b8;rw[Q26.o]at b9;have b10:s26.at_<=s27.at_:=by rw[<-Q27.o];exact take_on
    have b7:=T28.o.1;dsimp only at b5 b8 b9;omega)
   have HH9:=J (show Hy d ws ad cp s28 W X9 (.slice a9 (ls.length+1) c9) (ls++ [⟨vq,vcq,pm⟩]) from by have h:=HH9.o;rwa[show(ls++ [(⟨vq,vcq,pm⟩:Ky)]).length=ls.length+1 by simp]at h);have FL:=J (show((ls++ [(⟨vq,vcq,pm⟩:Ky)]).map Ky.ns).flatten.length=(ls.map Ky.ns).flatten.length+pm.length by simp only[List.map_append,List.flatten_append,List.length_append,List.map_cons,List.map_nil,List.flatten_cons,List.flatten_nil,List.append_nil]);have PL:=J (show pm.length=1+l28.length by rw[<-HPM.o,z62];simp);go_wp2_with fail
   go_roundw
   case rel=>
    exact J ⟨ls++ [⟨vq,vcq,pm⟩],g,s28,HH9.o,by
     refine Eq.trans (Eq.symm ?_) HFr.o;show opsLS ws (spz ws g) k (ls.map Ky.ns) sr=_;refine(or_t Z22.o.1 Q23.o).trans ?_;refine(z25 Q24.o).trans ?_;refine(z25 Q25.o).trans ?_;refine(z25 Q26.o).trans ?_;refine(z37 Q27.o).trans ?_;refine(z25 Q28.o).trans ?_;rw[List.map_append,<-HPM.o];rfl,gb,gc,gd,(by have h1:=ON.o;have h2:=G.o;have h3:=T28.o;have h4:=GE.o;have h5:=FL.o;have h6:=PL.o;omega),(by have h1:=ON.o.2.2.2 HB0.o;have h2:=G.o;rw[List.length_append];simp;omega),fun hb=>(by have h1:=ON.o.2.2.2 HB0.o;have h2:=LV.o hb;have h3:=ON.o.1;rw[List.length_append];simp;omega)⟩
   case measure=>
    show ws.length-posOf d _<ws.length-posOf d _;refine zb90 ?_;intro h1;omega
  simp only[Bool.not_eq_true]at hgBar21;have Z30:=sees_no (l:=gBar) HU21 hgBar21;go_wp2_with fail
  refine(z56 SP.o ⟨#[101,110,100]⟩ kEnd yb yh).mono ?_;rintro e X31 ⟨x31,s31,rfl,SP,Q31,C31,GR⟩;have HY:=J (HY.o.re H0.o GR.o SP.o);have G:=J (show sr.at_+0<=s31.at_/\s31.at_<=ws.length by have h1:=G.o;have h2:=C31.o;omega);go_wp2_with fail
  refine(gput_calls (d:=d) k 0 0 ⟨#[]⟩ ⟨#[]⟩ ⟨#[]⟩ X31 _ (kyL ls) (z12 SP.o.1.blk) (by rw[SP.o.1.eq];exact z12 SP.o.1.blk) (ky_own HY.o.kids (z12 H0.o.blk) (by rw[H0.o.eq];exact z12 H0.o.blk) HY.o.nodes) ⟨z17,z17,z17⟩ (by have h1:=ON.o.2.2.1;have h2:=SP.o.1.few;have h3:=SP0.o.1.lt;rw[kyL,List.length_map];omega) (by have h1:=ON.o.2.1;have h2:=SP.o.1.few;have h3:=SP0.o.1.lt;rw[kyL_flat];omega)).mono ?_;rintro e X99 ⟨v99,rfl,hn99,hb99⟩;have SP:=J (SP.o.below hb99);have N99:=J hn99;clear hn99 hb99;go_wp2_with fail
  go_ret;have hE:spz ws (f+1) (.hand k) s=(putN (nd0 k) (ls.map Ky.ns),s31):=by
   show handS ws (spz ws f) k s=_;refine(z25 Q1.o).trans ?_;refine(z37 Q2.o).trans ?_;refine(z37 Q3.o).trans ?_;refine(z25 Q4.o).trans ?_;refine(z37 Q5.o).trans ?_;refine(z25 Q6.o).trans ?_;rw[show putN (nd1 25 n4) [l6]=pn from HPN.o];refine HF.o.trans ?_;refine HFr.o.symm.trans ?_;show opsLS ws (spz ws g) k (ls.map Ky.ns) sr=_;refine(or_f Z30.o).trans ?_;refine(z37 Q31.o).trans ?_;rfl
  rw[hE];refine⟨v99,rfl,?_,SP.o⟩;have e9:putN (nd0 k) (ls.map Ky.ns)=(⟨k,0,⟨#[]⟩,⟨#[]⟩,⟨#[]⟩,((kyL ls).length:Int)⟩:Nd)::flatL (kyL ls):=by
   unfold putN Nd.with_;rw[kyL_flat,kyL,List.length_map,List.length_map];rfl
  rw[e9];exact N99.o
end
section
variable {d:Dr}{ws:List Wd}{ad:Option Addr}{cp:Nat}
theorem pc_upto (hw:BriefW ws) (hn:NumW ws):∀(f g:Nat),g<=f->PcAll d ws ad cp g
 | 0,g,hg=>by
   obtain rfl:g=0:=yf;exact⟨fun s W _ h=>gi,fun s W _ h=>gi,fun s W _ h=>gi,fun s W _ h=>gi,fun s W _ h=>gi,fun s W _ h=>gi,fun s W _ h=>gi,fun k s W _ h=>gi⟩
 | f+1,g,hg=>by
   have ih:=pc_upto hw hn f;by_cases e:g<=f
   .exact ih g e
   .obtain rfl:g=f+1:=by omega
    have hf:=ih f La;exact⟨pexpr_calls hw hf,pcons_calls hw hf,pcomp_calls hw hf,psum_calls hw ih,pprod_calls hw ih,pcall_calls hw ih,patom_calls hw hn hf,phand_calls hw ih⟩
theorem pc_all (hw:BriefW ws) (hn:NumW ws) (f:Nat):PcAll d ws ad cp f:=pc_upto hw hn f f La
theorem whole_calls (hw:BriefW ws) (hn:NumW ws) (s:Ps) (W:World) (h:PsAt d ws ad cp s W):Calls prog 34 #[.pointer (some ⟨d.B,0,none⟩)] W (PostN d ws ad cp (spz ws (16*ws.length+11) .expr s) W):=
 (pc_all hw hn _).expr s W h (by simp only[ms,lvN];omega)
end
theorem ef_one (n:Ef) (i:Nat):(n.cell i).oneCell'= true:=by
 match i with
 |0=>rfl
 |1=>rfl
 |_+2=>rfl
section
variable {d:Dr}{ws:List Wd}{ad:Option Addr}{cp:Nat}
structure Ey (d:Dr) (ws:List Wd) (ad:Option Addr) (cp:Nat) (s:Ps) (W X:World) (v:Value) (es:List Ef):Prop where
 step:StepP d ws ad cp s W X
 row:X.ownsRow W.heap.size 45 3 v es.length (rowZ Ef.cell 3 es)
theorem Ey.re {s':Ps}{X':World}(h:Ey d ws ad cp s W X v es) (h0:PsAt d ws ad cp s0 W) (g:Grew d X X') (hp:StepP d ws ad cp s' W X'):Ey d ws ad cp s' W X' v es:=
 ⟨hp,y_grew h.row (z12 h0.blk) mu g⟩
theorem Ey.nx (h:Ey d ws ad cp s W X v es) (h0:PsAt d ws ad cp s0 W) (hl:s.at_<ws.length):Ey d ws ad cp s.next W (X.setCell ⟨d.B,1,none⟩ (.int .i64 ((s.at_+1:Nat):Int))) v es:=
 h.re h0 (z42 X 1 _) (h.step.next hl)
theorem Ey.app (h:Ey d ws ad cp s W X v es) (h0:PsAt d ws ad cp s0 W) (x:Ef) (hl:es.length<=10000) (ty:TypeId) :
 ∃v' X',(Builtin.append_ #[23,23] ty #[v,.slice (some ⟨X.heap.size,0,none⟩) 1 1]).run prog (X.alloc (.cells #[.string x.name,.int .i64 x.arg,.int .i64 x.res] 45))=.ok v' X'/\Ey d ws ad cp s W X' v' (es++ [x]):=by
 obtain⟨i0,hinf,hz0,hz1,hz2⟩:=info_parts info_eff;have hb:Below X.heap.size X (X.alloc (.cells #[.string x.name,.int .i64 x.arg,.int .i64 x.res] 45)):=Lb.alloc La _;have hX:=h.re h0 (Grew.of_below hb) (h.step.below hb);have hB:=z12 h.step.1.blk;have hli:Lies d (X.alloc (.cells #[.string x.name,.int .i64 x.arg,.int .i64 x.res] 45)) (.slice (some ⟨X.heap.size,0,none⟩) 1 1) [x].length 3 (fun i=>Ef.cell ([x].getD (i/3) default) (i % 3)):=
  lies_lit (f:=Ef.cell) (sz:=3) yh X 45 [x] _ rfl hB (by rw[h0.eq];exact hB)
 obtain⟨v',X',hr,ho,hgr⟩:=z70 (d:=d) ef_one underlying23 hinf hz0 hz1 hz2 rfl yh yh hX.row hli yk hX.step.2.size ty;exact⟨v',X',hr,hX.step.own h0 hgr (fun g hg=>(hX.row.lt g hg).1),ho⟩
def LoopE (d:Dr) (ws:List Wd) (ad:Option Addr) (cp:Nat) (F:List Ef×Ps) (s:Ps) (W:World) (v:Value) (wr:World):Prop:=
 ∃(es:List Ef) (g:Nat) (sr:Ps),Ey d ws ad cp sr W wr v es/\effsS ws g es sr=F/\ws.length-sr.at_<g/\s.at_<=sr.at_/\es.length<=sr.at_-s.at_/\ ∀x∈es,Brief x.name
theorem effects_calls (hw:BriefW ws) (s:Ps) (W:World) (h:PsAt d ws ad cp s W) :
 Calls prog 33 #[.pointer (some ⟨d.B,0,none⟩)] W fun e W'=> ∃v es s',effsS ws (ws.length+1) [] s=(es,s')/\e=.returned v/\Lies d W' v es.length 3 (fun i=>Ef.cell (es.getD (i/3) default) (i % 3))/\StepP d ws ad cp s' W W'/\es.length<=ws.length/\ ∀x∈es,Brief x.name:=by
 have SP:=J (StepP.start h);have H0:=J h;have BW:=J hw;have G:=J (show s.at_+0<=s.at_/\s.at_<=ws.length from⟨La,h.lt⟩);clear h hw;go_enter func33,ntmps33
 go_wp2_with fail
 obtain⟨F,hF⟩:∃x,effsS ws (ws.length+1) [] s=x:=⟨_,rfl⟩
 have HF:=J hF;clear hF;go_loopw [3] (fun v wr=>I (LoopE d ws ad cp F s W v wr)) (fun _ wr=>ws.length-posOf d wr)
 case atStart=>exact J ⟨[],ws.length+1,s,⟨SP.o,rfl,Or.inl ⟨rfl,rfl⟩⟩,HF.o,yf,La,Li _,fun x hx=>mt⟩
 case round=>
  obtain⟨es,g,sr,hN,hFr,hmr,hon,hlen,hbr⟩:=hrel.o;clear hrel;obtain⟨va,vc,rfl⟩:=y_is hN.row;obtain⟨g,rfl⟩:∃k,g=k+1:=⟨g-1,yf⟩
  have EY:=J hN;have SP:=J hN.step;have SP0:=J hN.step;have HFr:=J hFr;have HM:=J hmr;have ON:=J (Lc hon (Lc hlen hbr));have G:=J (show sr.at_+0<=sr.at_/\sr.at_<=ws.length from⟨La,hN.step.1.lt⟩);clear hN hFr hmr hon hlen hbr;go_wp2_with fail
  refine(text_calls sr wr SP.o.1).mono ?_;rintro e X21 ⟨rfl,hb21⟩;have SP:=J (SP.o.below hb21);have EY:=J (EY.o.re H0.o (Grew.of_below hb21) SP.o);obtain⟨u21,hu21⟩:∃u,txt ws sr=u:=⟨_,rfl⟩
  rw[hu21];have HU21:=J hu21;clear hb21 hu21;by_cases hkEffect21:(u21.toList==([101,102,102,101,99,116]:List UInt8))=true
  .have hz22:seesS ws sr kEffect=true:=by unfold seesS;rw[HU21.o];exact hkEffect21
   have hl22:=sees_lt yh hz22;have Z22:=J (Lc hz22 hl22);clear hz22 hl22;have q1:=z8 SP.o.1.blk 1;have z1:=z11 SP.o.1.blk 1;simp at q1;have HWr:=J SP.o.wrap;have hn23:=SP.o.next Z22.o.2;have hy23:=EY.o.nx H0.o Z22.o.2;obtain⟨s23,hs23⟩:∃x,sr.next=x:=⟨_,rfl⟩
   have hc23:s23.at_=sr.at_+1:=by rw[<-hs23];rfl
   rw[hs23]at hn23 hy23;have GR23:=J (z42 (d:=d) X21 1 (.int .i64 ((sr.at_+1:Nat):Int)));obtain⟨X23,hX23⟩:∃Y,X21.setCell ⟨d.B,1,none⟩ (.int .i64 ((sr.at_+1:Nat):Int))=Y:=⟨_,rfl⟩
   rw[hX23]at hn23 GR23 hy23;have HX23:=J hX23;have G:=J (show sr.at_+1<=s23.at_/\s23.at_<=ws.length by have h1:=G.o;have h2:=Z22.o.2;omega);have SPn:=J hn23;have EYn:=J hy23;clear hy23;have Q23:=J hs23;clear hn23 hs23 hc23 hX23 GR23;go_wp2_with fail
   rw[HWr.o,HX23.o];have SP:=SPn;clear SPn HWr q1 z1 HX23;have EY:=EYn;clear EYn;refine(pname_calls s23 X23 SP.o.1).mono ?_;rintro e X24 ⟨rfl,hp24⟩;have hg24:=name_goes (ws:=ws) BW.o SP.o.1.lt;obtain⟨n24,s24,ht24⟩:∃a b,nameS ws s23=(a,b):=⟨_,_,rfl⟩
   rw[ht24]at hp24 hg24 |-;have SP:=J (SP.o.step hp24);have EY:=J (EY.o.re H0.o hp24.2 SP.o);have G:=J (show sr.at_+1<=s24.at_/\s24.at_<=ws.length by have h1:=G.o;have h2:=hg24.1;have h3:=hg24.2.1;dsimp only at h2 h3;omega);have B24:=J hg24.2.2;have Q24:=J ht24;clear hp24 hg24 ht24;dsimp only;go_wp2_with fail
   have NB:I ((X24.alloc (.cells #[.string n24,.int .i64 0,.int .i64 0] 45)).heap[X24.heap.size]?=some (.cells #[.string n24,.int .i64 0,.int .i64 0] 45)):=J (Ld X24 (.cells #[.string n24,.int .i64 0,.int .i64 0] 45)).1;have NQ:=J (show X24.heap.size≠d.B/\X24.heap.size≠d.G by have h1:=z12 SP.o.1.blk;have h2:=SP.o.1.eq;omega);have HZ:=J SP.o.2.size;have hba:Below X24.heap.size X24 (X24.alloc (.cells #[.string n24,.int .i64 0,.int .i64 0] 45)):=Lb.alloc La _;have SP:=J (SP.o.below hba);have GX:=J (Grew.of_below (d:=d) hba)
   generalize X24.alloc (.cells #[.string n24,.int .i64 0,.int .i64 0] 45)=Y2 at NB SP GX |-;clear hba;refine(takeK_calls s24 ⟨#[58]⟩ gColon yb yh Y2 SP.o.1).mono ?_;rintro e X25 ⟨⟨x25,rfl⟩,hp25⟩;have hg25:=take_goes (ws:=ws) (l:=gColon) yh SP.o.1.lt;obtain⟨s25,ht25⟩:∃x,(takeS ws gColon s24).2=x:=⟨_,rfl⟩
   rw[ht25]at hp25 hg25;have SP:=J (SP.o.step hp25);have NB:=J ((hp25.2.block _ ⟨z12 NB.o,NQ.o.1,NQ.o.2⟩).trans NB.o);have GX:=J (GX.o.trans hp25.2);have G:=J (show sr.at_+1<=s25.at_/\s25.at_<=ws.length by have h1:=G.o;omega);have Q25:=J ht25;clear hp25 hg25 ht25;go_wp2_with fail
   refine(base_calls s25 X25 SP.o.1).mono ?_;rintro e X26 ⟨rfl,hp26⟩;have hg26:=base_on (ws:=ws) SP.o.1.lt;obtain⟨n26,s26,ht26⟩:∃a b,baseS ws s25=(a,b):=⟨_,_,rfl⟩
   rw[ht26]at hp26 hg26 |-;have SP:=J (SP.o.step hp26);have NB:=J ((hp26.2.block _ ⟨z12 NB.o,NQ.o.1,NQ.o.2⟩).trans NB.o);have GX:=J (GX.o.trans hp26.2);have G:=J (show sr.at_+1<=s26.at_/\s26.at_<=ws.length by have h1:=G.o;have h2:=hg26.1;have h3:=hg26.2;dsimp only at h2 h3;omega);have Q26:=J ht26;clear hp26 hg26 ht26;dsimp only;have q1:=z8 NB.o 1;have z1:=z11 NB.o 1;simp at q1;go_wp2_with fail
   have NB:I ((X24.heap.size,X26.setCell ⟨X24.heap.size,1,none⟩ (.int .i64 n26)).2.heap[X24.heap.size]?=some (.cells #[.string n24,.int .i64 n26,.int .i64 0] 45)):=J (z28 (i:=1) (.int .i64 n26) NB.o);have SP:=J (SP.o.put H0.o HZ.o 1 (.int .i64 n26));have GX:=J (set_grew (i:=1) (v:=.int .i64 n26) GX.o La);dsimp only at NB;generalize X26.setCell ⟨X24.heap.size,1,none⟩ (.int .i64 n26)=Z26 at NB SP GX |-;clear q1 z1;refine(takeK_calls s26 ⟨#[61,62]⟩ gGives yb yh Z26 SP.o.1).mono ?_;rintro e X27 ⟨⟨x27,rfl⟩,hp27⟩;have hg27:=take_goes (ws:=ws) (l:=gGives) yh SP.o.1.lt
   obtain⟨s27,ht27⟩:∃x,(takeS ws gGives s26).2=x:=⟨_,rfl⟩
   rw[ht27]at hp27 hg27;have SP:=J (SP.o.step hp27);have NB:=J ((hp27.2.block _ ⟨z12 NB.o,NQ.o.1,NQ.o.2⟩).trans NB.o);have GX:=J (GX.o.trans hp27.2);have G:=J (show sr.at_+1<=s27.at_/\s27.at_<=ws.length by have h1:=G.o;omega);have Q27:=J ht27;clear hp27 hg27 ht27;go_wp2_with fail
   refine(base_calls s27 X27 SP.o.1).mono ?_;rintro e X28 ⟨rfl,hp28⟩;have hg28:=base_on (ws:=ws) SP.o.1.lt;obtain⟨n28,s28,ht28⟩:∃a b,baseS ws s27=(a,b):=⟨_,_,rfl⟩
   rw[ht28]at hp28 hg28 |-;have SP:=J (SP.o.step hp28);have NB:=J ((hp28.2.block _ ⟨z12 NB.o,NQ.o.1,NQ.o.2⟩).trans NB.o);have GX:=J (GX.o.trans hp28.2);have G:=J (show sr.at_+1<=s28.at_/\s28.at_<=ws.length by have h1:=G.o;have h2:=hg28.1;have h3:=hg28.2;dsimp only at h2 h3;omega);have Q28:=J ht28;clear hp28 hg28 ht28;dsimp only;have q2:=z8 NB.o 2;have z2:=z11 NB.o 2;simp at q2;go_wp2_with fail
   have NB:I ((X24.heap.size,X28.setCell ⟨X24.heap.size,2,none⟩ (.int .i64 n28)).2.heap[X24.heap.size]?=some (.cells #[.string n24,.int .i64 n26,.int .i64 n28] 45)):=J (z28 (i:=2) (.int .i64 n28) NB.o);have SP:=J (SP.o.put H0.o HZ.o 2 (.int .i64 n28));have GX:=J (set_grew (i:=2) (v:=.int .i64 n28) GX.o La);dsimp only at NB;generalize X28.setCell ⟨X24.heap.size,2,none⟩ (.int .i64 n28)=Z28 at NB SP GX |-;clear q2 z2;refine(takeK_calls s28 ⟨#[59]⟩ gSemi yb yh Z28 SP.o.1).mono ?_;rintro e X29 ⟨⟨x29,rfl⟩,hp29⟩;have hg29:=take_goes (ws:=ws) (l:=gSemi) yh SP.o.1.lt
   obtain⟨s29,ht29⟩:∃x,(takeS ws gSemi s28).2=x:=⟨_,rfl⟩
   rw[ht29]at hp29 hg29;have SP:=J (SP.o.step hp29);have NB:=J ((hp29.2.block _ ⟨z12 NB.o,NQ.o.1,NQ.o.2⟩).trans NB.o);have GX:=J (GX.o.trans hp29.2);have G:=J (show sr.at_+1<=s29.at_/\s29.at_<=ws.length by have h1:=G.o;omega);have Q29:=J ht29;clear hp29 hg29 ht29;obtain⟨c0,c1,c2⟩:=fcl3 NB.o;go_wp2_with (at_builtin;refine z21 rfl _ _ 23 rfl _ _ rfl rfl (fun ty=>(EY.o.re H0.o GX.o SP.o).app H0.o ⟨n24,n26,n28⟩ (by have h1:=ON.o.2.1;have h2:=SP.o.1.few;have h3:=SP0.o.1.lt;omega) ty) ?_;intro v5 w5 hv5;have EY5:=J hv5;clear hv5)
   go_roundw
   case rel=>
    exact J ⟨es++ [⟨n24,n26,n28⟩],g,s29,EY5.o,by
     refine Eq.trans (Eq.symm ?_) HFr.o;refine(orT Z22.o.1 Q23.o).trans ?_;refine(bindEq Q24.o).trans ?_;refine(bindTake Q25.o).trans ?_;refine(bindEq Q26.o).trans ?_;refine(bindTake Q27.o).trans ?_;refine(bindEq Q28.o).trans ?_;refine(bindTake Q29.o).trans ?_;rfl,(by have h1:=HM.o;have h2:=G.o;omega),gd,(by have h1:=ON.o;have h2:=G.o;rw[List.length_append];simp;omega),fun x hx=>by
     rw[List.mem_append,List.mem_singleton]at hx;rcases hx with hx|rfl
     .exact ON.o.2.2 x hx
     .exact B24.o⟩
   case measure=>
    show ws.length-posOf d _<ws.length-posOf d _;rw[pos_at EY5.o.step.1,pos_at SP0.o.1];have h1:=G.o;omega
  have hx21kEffect:(u21.toList==([101,102,102,101,99,116]:List UInt8))=false:=by simpa using hkEffect21
  clear hkEffect21;have hkEffect21:=hx21kEffect;clear hx21kEffect;have hz30:seesS ws sr kEffect=false:=by unfold seesS;rw[HU21.o];exact hkEffect21
  have Z30:=J hz30;clear hz30;go_wp2_with fail
  go_ret;refine⟨_,es,sr,?_,rfl,lies_owns (f:=Ef.cell) yh EY.o.row (z12 H0.o.blk) (by rw[H0.o.eq];exact z12 H0.o.blk),SP.o,(by have h1:=ON.o.2.1;have h2:=SP0.o.1.lt;omega),ON.o.2.2⟩;refine HF.o.trans ?_;refine HFr.o.symm.trans ?_;refine(orF Z30.o).trans ?_;rfl
end
end
section
open Go.RowKit
structure WdOk (w:Wd):Prop where
 size:w.text.size<=9
 num:w.kind=1-> ∀b∈w.text.toList,48<=b.toNat/\b.toNat<=57
 plain:w.kind<3-> ∀l∈keysZ,w.text.toList≠l
 ne:w.kind=1->w.text.toList≠ []
theorem cut_list (s:ByteArray) (p e:Nat):(s.extract p e).toList=(s.data.toList.drop p).take (e-p):=by
 rw[z67,ByteArray.data_extract,Array.toList_extract]
theorem cut_mem {s:ByteArray}(he:e<=s.size) {b:UInt8}(h:b∈(s.extract p e).toList):∃j,p<=j/\j<e/\bz s j=(b.toNat:Int):=by
 rw[cut_list]at h;obtain⟨i,hi,rfl⟩:=List.getElem_of_mem h;rw[List.length_take,List.length_drop,Array.length_toList]at hi;have hs:p+i<s.size:=by have:s.data.size=s.size:=rfl;omega
 refine⟨p+i,Nat.le_add_right _ _,yf,?_⟩;rw[bz_at s hs];simp;rfl
theorem cut_head {s:ByteArray}(hp:p<s.size) (hpe:p<e):∃b r,(s.extract p e).toList=b::r/\bz s p=(b.toNat:Int):=by
 have hs:p<s.data.toList.length:=by rw[Array.length_toList];exact hp
 refine⟨s[p]'hp,((s.data.toList.drop (p+1)).take (e-p-1)),?_,bz_at s hp⟩;rw[cut_list,List.drop_eq_getElem_cons hs];obtain⟨n,hn⟩:∃n,e-p=n+1:=⟨e-p-1,yf⟩
 rw[hn,List.take_succ_cons,Nat.add_sub_cancel];rfl
theorem keys_begin:∀l∈keysZ,∃b r,l=b::r/\ ¬ (48<=b.toNat/\b.toNat<=57):=by
 intro l hl;have h:∀l∈keysZ,(match l with|[]=>false|b::_=>!(decide (48<=b.toNat) && decide (b.toNat<=57)))=true:=yh;have h1:=h l hl;match l,h1 with
 |[],h1=>cases h1
 | b::r,h1=>
   refine⟨b,r,rfl,fun hx=>?_⟩;simp[hx.1,hx.2]at h1
theorem keys_split:∀l∈keysZ,l∈keyBytes\/ ∃b r,l=b::r/\ ¬ (97<=b.toNat/\b.toNat<=122):=by
 intro l hl;have h:∀l∈keysZ,(keyBytes.contains l || (match l with|[]=>false|b::_=>!(decide (97<=b.toNat) && decide (b.toNat<=122))))=true:=yh;have h1:=h l hl;rw[Bool.or_eq_true]at h1;rcases h1 with h1|h1
 .exact Or.inl (by simpa using h1)
 .match l,h1 with
  |[],h1=>cases h1
  | b::r,h1=>
    refine Or.inr ⟨b,r,rfl,fun hx=>?_⟩;simp[hx.1,hx.2]at h1
theorem word_ok {s:ByteArray}{w:Wd}(hp:p<s.size) (h:wordAt s p=.ok (w,e)):WdOk w:=by
 unfold wordAt at h;by_cases hd:digitZ (bz s p)=true
 .obtain⟨h1,h2,h3,h4⟩:=z36 s false (p:=p) yf;rw[if_pos hd]at h;dsimp only at h;split at h
  .cases h
  .rename_i hc
   cases h;have hpe:p<runTo s false p:=by
    refine Nat.lt_of_le_of_ne h1 fun e=>?_
    have:=h4 yf;rw[<-e,okb,hd]at this;simp at this
   obtain⟨b,r,hl,hb⟩:=cut_head (s:=s) hp hpe;refine⟨by rw[ByteArray.size_extract];omega,fun _ b hb=>?_,fun _ l hl' e'=> ?_,fun _ e'=> by rw[hl]at e';cases e'⟩
   .obtain⟨j,hj1,hj2,hj⟩:=cut_mem h2 hb;have:=h3 j hj1 hj2;rw[hj]at this;simp[okb,digitZ]at this;omega
   .obtain⟨b',r',rfl,hn⟩:=keys_begin l hl';dsimp only at e';rw[hl]at e'
    cases e';rw[hb]at hd;simp[digitZ]at hd;omega
 .rw[if_neg hd]at h;by_cases hL:letterZ (bz s p)=true
  .obtain⟨h1,h2,h3,h4⟩:=z36 s true (p:=p) yf;rw[if_pos hL]at h;dsimp only at h;split at h
   .cases h
   ·cases h;have hpe:p<runTo s true p:=by
     refine Nat.lt_of_le_of_ne h1 fun e=>?_
     have:=h4 yf;rw[<-e,okb,hL]at this;simp at this
    obtain⟨b,r,hl,hb⟩:=cut_head (s:=s) hp hpe;refine⟨by rw[ByteArray.size_extract];omega,fun hk=>?_,fun hk l hl' e'=> ?_,fun _ e'=> by rw[hl]at e';cases e'⟩
    .dsimp only at hk;split at hk<;>cases hk
    .dsimp only at hk e';rcases keys_split l hl' with hm|⟨b',r',rfl,hn⟩
     ·have hy:isKey (s.extract p (runTo s true p))=true:=by
       unfold isKey;rw[List.any_eq_true];exact⟨l,hm,by rw[e'];simp⟩
      rw[hy]at hk;simp at hk
     .rw[hl]at e'
      cases e';rw[hb]at hL;simp[letterZ]at hL;omega
  .rw[if_neg hL]at h;dsimp only at h;have hz:=signOf_size (s.extract p s.size);split at h
   .cases h
   .cases h;exact⟨zb,fun hk=>absurd (show(4:Int)=1 from hk) yh,fun hk=>absurd (show(4:Int)<3 from hk) yh,fun hk=>absurd (show(4:Int)=1 from hk) yh⟩
theorem lexGo_ok {s:ByteArray}:∀(f p:Nat) (ws:List Wd),(∀w∈ws,WdOk w)->(∀w∈(lexGo s f p ws).1,WdOk w)/\(lexGo s f p ws).1.length<=ws.length+f
 |0,_,ws,h=>⟨h,La⟩
 | f+1,p,ws,h=>by
   unfold lexGo;split
   .rename_i hp;split
    .have ih:=lexGo_ok (s:=s) f (p+1) ws h;exact⟨ih.1,by have:=ih.2;omega⟩
    .cases hw:wordAt s p with
     |error c=>exact⟨fun w hw=>(by cases hw),Li _⟩
     | ok r=>
       obtain⟨w,e⟩:=r;have ih:=lexGo_ok (s:=s) f e (ws++ [w]) (fun x hx=>by
        rw[List.mem_append,List.mem_singleton]at hx;rcases hx with hx|rfl
        .exact h x hx
        .exact word_ok hp hw)
       refine⟨ih.1,?_⟩;have:=ih.2;rw[List.length_append]at this;simp at this;dsimp only;omega
   .exact⟨h,Nat.le_add_right _ _⟩
theorem lexAll_ok (s:ByteArray):(∀w∈(lexAll s).1,WdOk w)/\(lexAll s).1.length<=1500:=by
 unfold lexAll;split
 .exact⟨fun w hw=>(by cases hw),Li _⟩
 .obtain⟨h1,h2⟩:=lexGo_ok (s:=s) s.size 0 [] (fun w hw=>by cases hw);exact⟨h1,by simp at h2;omega⟩
theorem lexAll_brief (s:ByteArray):BriefW (lexAll s).1:=fun w hw=>by
 have:=((lexAll_ok s).1 w hw).size;unfold Brief;omega
theorem lexAll_num (s:ByteArray):NumW (lexAll s).1:=fun w hw hk=>⟨((lexAll_ok s).1 w hw).size,((lexAll_ok s).1 w hw).num hk⟩
theorem lexAll_ne (s:ByteArray):∀w∈(lexAll s).1,w.kind=1->w.text.toList≠ []:=fun w hw hk=>((lexAll_ok s).1 w hw).ne hk
theorem lexAll_words (s:ByteArray):WordsOk (lexAll s).1:=⟨fun w hw hk=>((lexAll_ok s).1 w hw).plain hk⟩
end
end Go.Proofs.YtfbojelpdccjaaaGreatDoor
