import Derived.Test.YtfbojelpdccjaaaGreatDoorPkT22
open Go.Proofs.Tryz
set_option maxHeartbeats 8000000
set_option maxRecDepth 100000
namespace Go.Proofs.YtfbojelpdccjaaaGreatDoor
open Go.RowKit Go.Deep
variable {l:List UInt8}{f:Nat}{s s1:Ps}{W X:World}
section
open Go.RowKit Go.Deep
section
variable {d:Dr}{ws:List Wd}{ad:Option Addr}{cp:Nat}
theorem or_t {p q:PS (List Nd)}(h:seesS ws s l=true) (h1:s.next=s1):orS ws l p q s=p s1:=by
 unfold orS;rw[h,h1];rfl
theorem or_f {p q:PS (List Nd)}(h:seesS ws s l=false):orS ws l p q s=q s:=by
 unfold orS;rw[h];rfl
theorem z25 {α:Type}{p:PS α}{k:α->PS (List Nd)}{a:α}(h:p s=(a,s1)):bindS p k s=k a s1:=by
 unfold bindS;rw[h]
theorem z37 {k:Unit->PS (List Nd)}(h:(takeS ws l s).2=s1):bindS (takeS ws l) k s=k () s1:=by
 unfold bindS;rw[h]
theorem takeK_calls (s:Ps) (t:ByteArray) (l:List UInt8) (ht:t.toList=l) (hl:l≠ []) (W:World) (h:PsAt d ws ad cp s W) :
 Calls prog 64 #[.pointer (some ⟨d.B,0,none⟩),.string t] W fun e W'=> (∃x,e=.returned x)/\StepP d ws ad cp (takeS ws l s).2 W W':= by
 subst ht;exact take_calls s t hl W h
theorem text_ev (h:StepP d ws ad cp s W X):Calls prog 62 #[.pointer (some ⟨d.B,0,none⟩)] X fun e X'=> ∃u,e=.returned (.string u)/\I (StepP d ws ad cp s W X')/\I (txt ws s=u)/\I (Grew d X X'):=
 (text_calls s X h.1).mono fun _ _ ⟨he,hb⟩=>⟨_,he,h.below hb,rfl,Grew.of_below hb⟩
theorem z48 {u:ByteArray}(hu:I (txt ws s=u)) (h:(u.toList==l)=true) (hl:l≠ []):I (seesS ws s l=true/\s.at_<ws.length):=by
 have hz:seesS ws s l=true:=by unfold seesS;rw[hu.o];exact h
 exact⟨hz,sees_lt hl hz⟩
theorem sees_no {u:ByteArray}(hu:I (txt ws s=u)) (h:(u.toList==l)=false):I (seesS ws s l=false):=by
 show _=_;unfold seesS;rw[hu.o];exact h
theorem z69 (h:StepP d ws ad cp s W X) (hl:s.at_<ws.length):∃s1 X1,I (X.setCell ⟨d.B,1,none⟩ (.int .i64 ((s.at_+1:Nat):Int))=X1)/\I (StepP d ws ad cp s1 W X1)/\I (s.next=s1)/\I (s1.at_=s.at_+1/\s.at_<ws.length)/\I (Grew d X X1)/\I (wrap64 ((s.at_:Int)+1)=((s.at_+1:Nat):Int))/\X.cell? ⟨d.B,1,none⟩=some (.int .i64 (s.at_:Int))/\X.frozen? ⟨d.B,1,none⟩=false:=
 ⟨_,_,rfl,h.next hl,rfl,⟨rfl,hl⟩,z42 (d:=d) X 1 _,h.wrap,z8 h.1.blk 1,z11 h.1.blk 1⟩
theorem z56 (h:StepP d ws ad cp s W X) (t:ByteArray) (l:List UInt8) (ht:t.toList=l) (hl:l≠ []):Calls prog 64 #[.pointer (some ⟨d.B,0,none⟩),.string t] X fun e X'=> ∃x s1,e=.returned x/\I (StepP d ws ad cp s1 W X')/\I ((takeS ws l s).2=s1)/\I (s.at_<=s1.at_/\s1.at_<=ws.length)/\I (Grew d X X'):=
 (takeK_calls s t l ht hl X h.1).mono fun _ _ ⟨⟨x,he⟩,hp⟩=>⟨x,_,he,h.step hp,rfl,take_goes hl h.1.lt,hp.2⟩
theorem name_ev (hw:BriefW ws) (h:StepP d ws ad cp s W X):Calls prog 63 #[.pointer (some ⟨d.B,0,none⟩)] X fun e X'=> ∃n s1,e=.returned (.string n)/\I (StepP d ws ad cp s1 W X')/\I (nameS ws s=(n,s1))/\I (s.at_<=s1.at_/\s1.at_<=ws.length)/\I (Brief n)/\I (Grew d X X'):=
 (pname_calls s X h.1).mono fun _ _ ⟨he,hp⟩=>⟨_,_,he,h.step hp,rfl,⟨(name_goes hw h.1.lt).1,(name_goes hw h.1.lt).2.1⟩,(name_goes hw h.1.lt).2.2,hp.2⟩
def GoT (d:Dr) (ws:List Wd) (ad:Option Addr) (cp f:Nat) (nt:Nt (List Nd)) (s:Ps) (W X:World) (e:Ending) (X':World):Prop:=
 ∃va vc l s1,e=.returned (.slice va l.length vc)/\I (NodesD d X' (.slice va l.length vc) l)/\I (StepP d ws ad cp s1 W X')/\I (spz ws f nt s=(l,s1))/\I (Goes ws s (l,s1) (accN nt))/\I (l.length<=20000)/\I (Grew d X X')
theorem go_ev {F:FuncId}{args:Array Value}{nt:Nt (List Nd)}(hk:Calls prog F args X (PostN d ws ad cp (spz ws f nt s) X)) (hw:BriefW ws) (hb:NtB nt) (h:StepP d ws ad cp s W X) (ha:accN nt<=1000:=by simp[accN]):Calls prog F args X (GoT d ws ad cp f nt s W X):=by
 refine hk.mono ?_;rintro e X' ⟨v,rfl,hn,hp⟩;have hg:=goes_at (ws:=ws) hw f nt hb h.1.lt;have h2:=hg.len;have h3:=hg.lt;have h4:=h.1.few;obtain⟨va,vc,rfl⟩:=hn.is;exact⟨va,vc,_,_,rfl,hn,h.step hp,rfl,hg,je,hp.2⟩
theorem pcons_calls (hw:BriefW ws) (hc:PcAll d ws ad cp f) (s:Ps) (W:World) (h:PsAt d ws ad cp s W) (hm:ms ws .cons s<=f+1) :
 Calls prog 68 #[.pointer (some ⟨d.B,0,none⟩)] W (PostN d ws ad cp (spz ws (f+1) .cons s) W):=by
 refine zb35 ?_;intro SP HC HM BW G;clear h hc hm hw;go_enter func68,ntmps68
 go_wp2_with fail
 refine(go_ev (HC.o.comp s W SP.o.1 yp) BW.o trivial SP.o).mono ?_;rintro e X1 ⟨va1,vc1,l1,s1,rfl,N1,SP,Q1,S1,L1,GR⟩;have G:=J (show s.at_+0<=s1.at_/\s1.at_<=ws.length by have h1:=G.o;have h2:=S1.o.on;have h3:=S1.o.lt;dsimp only at h2 h3;omega);go_wp2_with fail
 refine(text_ev SP.o).mono ?_;rintro e X2 ⟨u2,rfl,SP,HU2,GR⟩;have N1:=J (N1.o.grew GR.o);by_cases hgCons2:(u2.toList==([58,58]:List UInt8))=true
 .have Z3:=z48 (l:=gCons) HU2 hgCons2 yh;obtain⟨s4,X4,HX4,SPn,Q4,C4,GR,HWr,q1,z1⟩:=z69 SP.o Z3.o.2;have N1:=J (N1.o.grew GR.o);have G:=J (show s.at_+1<=s4.at_/\s4.at_<=ws.length by have h1:=G.o;have h2:=C4.o;omega);go_wp2_with fail
  rw[HWr.o,HX4.o];have SP:=SPn;clear SPn HWr q1 z1 HX4;refine(go_ev (HC.o.cons s4 X4 SP.o.1 yp) BW.o trivial SP.o).mono ?_;rintro e X5 ⟨va5,vc5,l5,s5,rfl,N5,SP,Q5,S5,L5,GR⟩;have N1:=J (N1.o.grew GR.o);have G:=J (show s.at_+1<=s5.at_/\s5.at_<=ws.length by have h1:=G.o;have h2:=S5.o.on;have h3:=S5.o.lt;dsimp only at h2 h3;omega);go_wp2_with fail
  refine(z66 SP.o.1 19 0 0 ⟨#[]⟩ ⟨#[]⟩ ⟨#[]⟩ N1.o N5.o ⟨z17,z17,z17⟩ ⟨L1.o,L5.o⟩).mono ?_;rintro e X6 ⟨v6,rfl,hn6,hb6⟩;have SP:=J (SP.o.below hb6);have N6:=J hn6;clear hb6 hn6;go_wp2_with fail
  go_ret;have hE:spz ws (f+1) .cons s=(putN ⟨19,0,⟨#[]⟩,⟨#[]⟩,⟨#[]⟩,0⟩ [l1,l5],s5):=by
   show consS ws (spz ws f) s=_;refine(z25 Q1.o).trans ?_;refine(or_t Z3.o.1 Q4.o).trans ?_;refine(z25 Q5.o).trans ?_;rfl
  rw[hE];exact⟨v6,rfl,N6.o,SP.o⟩
 simp only[Bool.not_eq_true]at hgCons2;have Z7:=sees_no (l:=gCons) HU2 hgCons2;go_wp2_with fail
 go_ret;have hE:spz ws (f+1) .cons s=(l1,s1):=by
  show consS ws (spz ws f) s=_;refine(z25 Q1.o).trans ?_;refine(or_f Z7.o).trans ?_;rfl
 rw[hE];exact⟨_,rfl,N1.o,SP.o⟩
theorem pcomp_calls (hw:BriefW ws) (hc:PcAll d ws ad cp f) (s:Ps) (W:World) (h:PsAt d ws ad cp s W) (hm:ms ws .comp s<=f+1) :
 Calls prog 105 #[.pointer (some ⟨d.B,0,none⟩)] W (PostN d ws ad cp (spz ws (f+1) .comp s) W):=by
 refine zb35 ?_;intro SP HC HM BW G;clear h hc hm hw;go_enter func105,ntmps105
 go_wp2_with fail
 refine(go_ev (HC.o.sum s W SP.o.1 yp) BW.o trivial SP.o).mono ?_;rintro e X1 ⟨va1,vc1,l1,s1,rfl,N1,SP,Q1,S1,L1,GR⟩;have G:=J (show s.at_+0<=s1.at_/\s1.at_<=ws.length by have h1:=G.o;have h2:=S1.o.on;have h3:=S1.o.lt;dsimp only at h2 h3;omega);go_wp2_with fail
 refine(text_ev SP.o).mono ?_;rintro e X2 ⟨u2,rfl,SP,HU2,GR⟩;have N1:=J (N1.o.grew GR.o);by_cases hgEq2:(u2.toList==([61]:List UInt8))=true
 .have Z3:=z48 (l:=gEq) HU2 hgEq2 yh;obtain⟨s4,X4,HX4,SPn,Q4,C4,GR,HWr,q1,z1⟩:=z69 SP.o Z3.o.2;have N1:=J (N1.o.grew GR.o);have G:=J (show s.at_+1<=s4.at_/\s4.at_<=ws.length by have h1:=G.o;have h2:=C4.o;omega);go_wp2_with fail
  rw[HWr.o,HX4.o];have SP:=SPn;clear SPn HWr q1 z1 HX4;refine(go_ev (HC.o.sum s4 X4 SP.o.1 yp) BW.o trivial SP.o).mono ?_;rintro e X5 ⟨va5,vc5,l5,s5,rfl,N5,SP,Q5,S5,L5,GR⟩;have N1:=J (N1.o.grew GR.o);have G:=J (show s.at_+1<=s5.at_/\s5.at_<=ws.length by have h1:=G.o;have h2:=S5.o.on;have h3:=S5.o.lt;dsimp only at h2 h3;omega);go_wp2_with fail
  refine(z66 SP.o.1 14 0 0 ⟨#[]⟩ ⟨#[]⟩ ⟨#[]⟩ N1.o N5.o ⟨z17,z17,z17⟩ ⟨L1.o,L5.o⟩).mono ?_;rintro e X6 ⟨v6,rfl,hn6,hb6⟩;have SP:=J (SP.o.below hb6);have N6:=J hn6;clear hb6 hn6;go_wp2_with fail
  go_ret;have hE:spz ws (f+1) .comp s=(putN ⟨14,0,⟨#[]⟩,⟨#[]⟩,⟨#[]⟩,0⟩ [l1,l5],s5):=by
   show compS ws (spz ws f) s=_;refine(z25 Q1.o).trans ?_;refine(or_t Z3.o.1 Q4.o).trans ?_;refine(z25 Q5.o).trans ?_;rfl
  rw[hE];exact⟨v6,rfl,N6.o,SP.o⟩
 simp only[Bool.not_eq_true]at hgEq2;have Z7:=sees_no (l:=gEq) HU2 hgEq2;by_cases hgLt2:(u2.toList==([60]:List UInt8))=true
 .have Z8:=z48 (l:=gLt) HU2 hgLt2 yh;obtain⟨s9,X9,HX9,SPn,Q9,C9,GR,HWr,q1,z1⟩:=z69 SP.o Z8.o.2;have N1:=J (N1.o.grew GR.o);have G:=J (show s.at_+1<=s9.at_/\s9.at_<=ws.length by have h1:=G.o;have h2:=C9.o;omega);go_wp2_with fail
  rw[HWr.o,HX9.o];have SP:=SPn;clear SPn HWr q1 z1 HX9;refine(go_ev (HC.o.sum s9 X9 SP.o.1 yp) BW.o trivial SP.o).mono ?_;rintro e X10 ⟨va10,vc10,l10,s10,rfl,N10,SP,Q10,S10,L10,GR⟩;have N1:=J (N1.o.grew GR.o);have G:=J (show s.at_+1<=s10.at_/\s10.at_<=ws.length by have h1:=G.o;have h2:=S10.o.on;have h3:=S10.o.lt;dsimp only at h2 h3;omega);go_wp2_with fail
  refine(z66 SP.o.1 15 0 0 ⟨#[]⟩ ⟨#[]⟩ ⟨#[]⟩ N1.o N10.o ⟨z17,z17,z17⟩ ⟨L1.o,L10.o⟩).mono ?_;rintro e X11 ⟨v11,rfl,hn11,hb11⟩;have SP:=J (SP.o.below hb11);have N11:=J hn11;clear hb11 hn11;go_wp2_with fail
  go_ret;have hE:spz ws (f+1) .comp s=(putN ⟨15,0,⟨#[]⟩,⟨#[]⟩,⟨#[]⟩,0⟩ [l1,l10],s10):=by
   show compS ws (spz ws f) s=_;refine(z25 Q1.o).trans ?_;refine(or_f Z7.o).trans ?_;refine(or_t Z8.o.1 Q9.o).trans ?_;refine(z25 Q10.o).trans ?_;rfl
  rw[hE];exact⟨v11,rfl,N11.o,SP.o⟩
 simp only[Bool.not_eq_true]at hgLt2;have Z12:=sees_no (l:=gLt) HU2 hgLt2;go_wp2_with fail
 go_ret;have hE:spz ws (f+1) .comp s=(l1,s1):=by
  show compS ws (spz ws f) s=_;refine(z25 Q1.o).trans ?_;refine(or_f Z7.o).trans ?_;refine(or_f Z12.o).trans ?_;rfl
 rw[hE];exact⟨_,rfl,N1.o,SP.o⟩
theorem plet_calls (hw:BriefW ws) (hc:PcAll d ws ad cp f) (s:Ps) (W:World) (h:PsAt d ws ad cp s W) (hlt:s.at_<ws.length) (hm:ms ws .expr s<=f+1) :
 Calls prog 66 #[.pointer (some ⟨d.B,0,none⟩)] W (PostN d ws ad cp (orS ws kRec (recS' ws (spz ws f)) (letS' ws (spz ws f)) s.next) W):=by
 have SP:=J (StepP.start h);have HC:=J hc;have HM:=J hm;have BW:=J hw;have G:=J (show s.at_+0<=s.at_/\s.at_<=ws.length from⟨La,h.lt⟩);have LT:=J hlt;clear h hc hm hw hlt;go_enter func66,ntmps66
 obtain⟨s1,X1,HX1,SPn,Q1,C1,GR,HWr,q1,z1⟩:=z69 SP.o LT.o;have G:=J (show s.at_+1<=s1.at_/\s1.at_<=ws.length by have h1:=G.o;have h2:=C1.o;omega);go_wp2_with fail
 rw[HWr.o,HX1.o];have SP:=SPn;clear SPn HWr q1 z1 HX1;go_wp2_with fail
 refine(text_ev SP.o).mono ?_;rintro e X2 ⟨u2,rfl,SP,HU2,GR⟩;by_cases hkRec2:(u2.toList==([114,101,99]:List UInt8))=true
 .have Z3:=z48 (l:=kRec) HU2 hkRec2 yh;obtain⟨s4,X4,HX4,SPn,Q4,C4,GR,HWr,q1,z1⟩:=z69 SP.o Z3.o.2;have G:=J (show s.at_+2<=s4.at_/\s4.at_<=ws.length by have h1:=G.o;have h2:=C4.o;omega);go_wp2_with fail
  rw[HWr.o,HX4.o];have SP:=SPn;clear SPn HWr q1 z1 HX4;refine(name_ev BW.o SP.o).mono ?_;rintro e X5 ⟨n5,s5,rfl,SP,Q5,C5,B5,GR⟩;have G:=J (show s.at_+2<=s5.at_/\s5.at_<=ws.length by have h1:=G.o;have h2:=C5.o;omega);go_wp2_with fail
  refine(name_ev BW.o SP.o).mono ?_;rintro e X6 ⟨n6,s6,rfl,SP,Q6,C6,B6,GR⟩;have G:=J (show s.at_+2<=s6.at_/\s6.at_<=ws.length by have h1:=G.o;have h2:=C6.o;omega);go_wp2_with fail
  refine(z56 SP.o ⟨#[61]⟩ gEq yb yh).mono ?_;rintro e X7 ⟨x7,s7,rfl,SP,Q7,C7,GR⟩;have G:=J (show s.at_+2<=s7.at_/\s7.at_<=ws.length by have h1:=G.o;have h2:=C7.o;omega);go_wp2_with fail
  refine(go_ev (HC.o.expr s7 X7 SP.o.1 yp) BW.o trivial SP.o).mono ?_;rintro e X8 ⟨va8,vc8,l8,s8,rfl,N8,SP,Q8,S8,L8,GR⟩;have G:=J (show s.at_+2<=s8.at_/\s8.at_<=ws.length by have h1:=G.o;have h2:=S8.o.on;have h3:=S8.o.lt;dsimp only at h2 h3;omega);go_wp2_with fail
  refine(z56 SP.o ⟨#[105,110]⟩ kIn yb yh).mono ?_;rintro e X9 ⟨x9,s9,rfl,SP,Q9,C9,GR⟩;have N8:=J (N8.o.grew GR.o);have G:=J (show s.at_+2<=s9.at_/\s9.at_<=ws.length by have h1:=G.o;have h2:=C9.o;omega);go_wp2_with fail
  refine(go_ev (HC.o.expr s9 X9 SP.o.1 yp) BW.o trivial SP.o).mono ?_;rintro e X10 ⟨va10,vc10,l10,s10,rfl,N10,SP,Q10,S10,L10,GR⟩;have N8:=J (N8.o.grew GR.o);have G:=J (show s.at_+2<=s10.at_/\s10.at_<=ws.length by have h1:=G.o;have h2:=S10.o.on;have h3:=S10.o.lt;dsimp only at h2 h3;omega);go_wp2_with fail
  refine(z66 SP.o.1 9 0 0 n5 n6 ⟨#[]⟩ N8.o N10.o ⟨B5.o,B6.o,z17⟩ ⟨L8.o,L10.o⟩).mono ?_;rintro e X11 ⟨v11,rfl,hn11,hb11⟩;have SP:=J (SP.o.below hb11);have N11:=J hn11;clear hb11 hn11;go_wp2_with fail
  go_ret;have hE:orS ws kRec (recS' ws (spz ws f)) (letS' ws (spz ws f)) s.next=(putN ⟨9,0,n5,n6,⟨#[]⟩,0⟩ [l8,l10],s10):=by
   rw[Q1.o];refine(or_t Z3.o.1 Q4.o).trans ?_;refine(z25 Q5.o).trans ?_;refine(z25 Q6.o).trans ?_;refine(z37 Q7.o).trans ?_;refine(z25 Q8.o).trans ?_;refine(z37 Q9.o).trans ?_;refine(z25 Q10.o).trans ?_;rfl
  rw[hE];exact⟨v11,rfl,N11.o,SP.o⟩
 simp only[Bool.not_eq_true]at hkRec2;have Z12:=sees_no (l:=kRec) HU2 hkRec2;go_wp2_with fail
 refine(name_ev BW.o SP.o).mono ?_;rintro e X13 ⟨n13,s13,rfl,SP,Q13,C13,B13,GR⟩;have G:=J (show s.at_+1<=s13.at_/\s13.at_<=ws.length by have h1:=G.o;have h2:=C13.o;omega);go_wp2_with fail
 refine(z56 SP.o ⟨#[61]⟩ gEq yb yh).mono ?_;rintro e X14 ⟨x14,s14,rfl,SP,Q14,C14,GR⟩;have G:=J (show s.at_+1<=s14.at_/\s14.at_<=ws.length by have h1:=G.o;have h2:=C14.o;omega);go_wp2_with fail
 refine(go_ev (HC.o.expr s14 X14 SP.o.1 yp) BW.o trivial SP.o).mono ?_;rintro e X15 ⟨va15,vc15,l15,s15,rfl,N15,SP,Q15,S15,L15,GR⟩;have G:=J (show s.at_+1<=s15.at_/\s15.at_<=ws.length by have h1:=G.o;have h2:=S15.o.on;have h3:=S15.o.lt;dsimp only at h2 h3;omega);go_wp2_with fail
 refine(z56 SP.o ⟨#[105,110]⟩ kIn yb yh).mono ?_;rintro e X16 ⟨x16,s16,rfl,SP,Q16,C16,GR⟩;have N15:=J (N15.o.grew GR.o);have G:=J (show s.at_+1<=s16.at_/\s16.at_<=ws.length by have h1:=G.o;have h2:=C16.o;omega);go_wp2_with fail
 refine(go_ev (HC.o.expr s16 X16 SP.o.1 yp) BW.o trivial SP.o).mono ?_;rintro e X17 ⟨va17,vc17,l17,s17,rfl,N17,SP,Q17,S17,L17,GR⟩;have N15:=J (N15.o.grew GR.o);have G:=J (show s.at_+1<=s17.at_/\s17.at_<=ws.length by have h1:=G.o;have h2:=S17.o.on;have h3:=S17.o.lt;dsimp only at h2 h3;omega);go_wp2_with fail
 refine(z66 SP.o.1 8 0 0 n13 ⟨#[]⟩ ⟨#[]⟩ N15.o N17.o ⟨B13.o,z17,z17⟩ ⟨L15.o,L17.o⟩).mono ?_;rintro e X18 ⟨v18,rfl,hn18,hb18⟩;have SP:=J (SP.o.below hb18);have N18:=J hn18;clear hb18 hn18;go_wp2_with fail
 go_ret;have hE:orS ws kRec (recS' ws (spz ws f)) (letS' ws (spz ws f)) s.next=(putN ⟨8,0,n13,⟨#[]⟩,⟨#[]⟩,0⟩ [l15,l17],s17):=by
  rw[Q1.o];refine(or_f Z12.o).trans ?_;refine(z25 Q13.o).trans ?_;refine(z37 Q14.o).trans ?_;refine(z25 Q15.o).trans ?_;refine(z37 Q16.o).trans ?_;refine(z25 Q17.o).trans ?_;rfl
 rw[hE];exact⟨v18,rfl,N18.o,SP.o⟩
theorem pexpr_calls (hw:BriefW ws) (hc:PcAll d ws ad cp f) (s:Ps) (W:World) (h:PsAt d ws ad cp s W) (hm:ms ws .expr s<=f+1) :
 Calls prog 34 #[.pointer (some ⟨d.B,0,none⟩)] W (PostN d ws ad cp (spz ws (f+1) .expr s) W):=by
 refine zb35 ?_;intro SP HC HM BW G;clear h hc hm hw;go_enter func34,ntmps34
 go_wp2_with fail
 refine(text_ev SP.o).mono ?_;rintro e X1 ⟨u1,rfl,SP,HU1,GR⟩;by_cases hkLet1:(u1.toList==([108,101,116]:List UInt8))=true
 .have Z2:=z48 (l:=kLet) HU1 hkLet1 yh;go_wp2_with fail
  refine(plet_calls BW.o HC.o s X1 SP.o.1 Z2.o.2 (by have h2:=HM.o;exact h2)).mono ?_;rintro e X3 ⟨v3,rfl,hn3,hp3⟩;obtain⟨l3,s3,ht3⟩:∃a b,orS ws kRec (recS' ws (spz ws f)) (letS' ws (spz ws f)) s.next=(a,b):=⟨_,_,rfl⟩
  rw[ht3]at hn3 hp3;have SP:=J (SP.o.step hp3);have N3:=J hn3;have Q3:=J ht3;clear hn3 hp3 ht3;go_wp2_with fail
  go_ret;have hE:spz ws (f+1) .expr s=(l3,s3):=by
   show exprS ws (spz ws f) s=_;refine(or_t Z2.o.1 rfl).trans ?_;exact Q3.o
  rw[hE];exact⟨v3,rfl,N3.o,SP.o⟩
 simp only[Bool.not_eq_true]at hkLet1;have Z4:=sees_no (l:=kLet) HU1 hkLet1;by_cases hkIf1:(u1.toList==([105,102]:List UInt8))=true
 .have Z5:=z48 (l:=kIf) HU1 hkIf1 yh;obtain⟨s6,X6,HX6,SPn,Q6,C6,GR,HWr,q1,z1⟩:=z69 SP.o Z5.o.2;have G:=J (show s.at_+1<=s6.at_/\s6.at_<=ws.length by have h1:=G.o;have h2:=C6.o;omega);go_wp2_with fail
  rw[HWr.o,HX6.o];have SP:=SPn;clear SPn HWr q1 z1 HX6;refine(go_ev (HC.o.expr s6 X6 SP.o.1 yp) BW.o trivial SP.o).mono ?_;rintro e X7 ⟨va7,vc7,l7,s7,rfl,N7,SP,Q7,S7,L7,GR⟩;have G:=J (show s.at_+1<=s7.at_/\s7.at_<=ws.length by have h1:=G.o;have h2:=S7.o.on;have h3:=S7.o.lt;dsimp only at h2 h3;omega);go_wp2_with fail
  refine(z56 SP.o ⟨#[116,104,101,110]⟩ kThen yb yh).mono ?_;rintro e X8 ⟨x8,s8,rfl,SP,Q8,C8,GR⟩;have N7:=J (N7.o.grew GR.o);have G:=J (show s.at_+1<=s8.at_/\s8.at_<=ws.length by have h1:=G.o;have h2:=C8.o;omega);go_wp2_with fail
  refine(go_ev (HC.o.expr s8 X8 SP.o.1 yp) BW.o trivial SP.o).mono ?_;rintro e X9 ⟨va9,vc9,l9,s9,rfl,N9,SP,Q9,S9,L9,GR⟩;have N7:=J (N7.o.grew GR.o);have G:=J (show s.at_+1<=s9.at_/\s9.at_<=ws.length by have h1:=G.o;have h2:=S9.o.on;have h3:=S9.o.lt;dsimp only at h2 h3;omega);go_wp2_with fail
  refine(z56 SP.o ⟨#[101,108,115,101]⟩ kElse yb yh).mono ?_;rintro e X10 ⟨x10,s10,rfl,SP,Q10,C10,GR⟩;have N7:=J (N7.o.grew GR.o);have N9:=J (N9.o.grew GR.o);have G:=J (show s.at_+1<=s10.at_/\s10.at_<=ws.length by have h1:=G.o;have h2:=C10.o;omega);go_wp2_with fail
  refine(go_ev (HC.o.expr s10 X10 SP.o.1 yp) BW.o trivial SP.o).mono ?_;rintro e X11 ⟨va11,vc11,l11,s11,rfl,N11,SP,Q11,S11,L11,GR⟩;have N7:=J (N7.o.grew GR.o);have N9:=J (N9.o.grew GR.o);have G:=J (show s.at_+1<=s11.at_/\s11.at_<=ws.length by have h1:=G.o;have h2:=S11.o.on;have h3:=S11.o.lt;dsimp only at h2 h3;omega);go_wp2_with fail
  refine(put3_calls SP.o.1 10 0 0 ⟨#[]⟩ ⟨#[]⟩ ⟨#[]⟩ N7.o N9.o N11.o ⟨z17,z17,z17⟩ ⟨L7.o,L9.o,L11.o⟩).mono ?_;rintro e X12 ⟨v12,rfl,hn12,hb12⟩;have SP:=J (SP.o.below hb12);have N12:=J hn12;clear hb12 hn12;go_wp2_with fail
  go_ret;have hE:spz ws (f+1) .expr s=(putN ⟨10,0,⟨#[]⟩,⟨#[]⟩,⟨#[]⟩,0⟩ [l7,l9,l11],s11):=by
   show exprS ws (spz ws f) s=_;refine(or_f Z4.o).trans ?_;refine(or_t Z5.o.1 Q6.o).trans ?_;refine(z25 Q7.o).trans ?_;refine(z37 Q8.o).trans ?_;refine(z25 Q9.o).trans ?_;refine(z37 Q10.o).trans ?_;refine(z25 Q11.o).trans ?_;rfl
  rw[hE];exact⟨v12,rfl,N12.o,SP.o⟩
 simp only[Bool.not_eq_true]at hkIf1;have Z13:=sees_no (l:=kIf) HU1 hkIf1;by_cases hkFn1:(u1.toList==([102,110]:List UInt8))=true
 .have Z14:=z48 (l:=kFn) HU1 hkFn1 yh;obtain⟨s15,X15,HX15,SPn,Q15,C15,GR,HWr,q1,z1⟩:=z69 SP.o Z14.o.2;have G:=J (show s.at_+1<=s15.at_/\s15.at_<=ws.length by have h1:=G.o;have h2:=C15.o;omega);go_wp2_with fail
  rw[HWr.o,HX15.o];have SP:=SPn;clear SPn HWr q1 z1 HX15;refine(name_ev BW.o SP.o).mono ?_;rintro e X16 ⟨n16,s16,rfl,SP,Q16,C16,B16,GR⟩;have G:=J (show s.at_+1<=s16.at_/\s16.at_<=ws.length by have h1:=G.o;have h2:=C16.o;omega);go_wp2_with fail
  refine(z56 SP.o ⟨#[45,62]⟩ gTo yb yh).mono ?_;rintro e X17 ⟨x17,s17,rfl,SP,Q17,C17,GR⟩;have G:=J (show s.at_+1<=s17.at_/\s17.at_<=ws.length by have h1:=G.o;have h2:=C17.o;omega);go_wp2_with fail
  refine(go_ev (HC.o.expr s17 X17 SP.o.1 yp) BW.o trivial SP.o).mono ?_;rintro e X18 ⟨va18,vc18,l18,s18,rfl,N18,SP,Q18,S18,L18,GR⟩;have G:=J (show s.at_+1<=s18.at_/\s18.at_<=ws.length by have h1:=G.o;have h2:=S18.o.on;have h3:=S18.o.lt;dsimp only at h2 h3;omega);go_wp2_with fail
  refine(put1_calls SP.o.1 6 0 0 n16 ⟨#[]⟩ ⟨#[]⟩ N18.o ⟨B16.o,z17,z17⟩ (by have h1:=L18.o;omega)).mono ?_;rintro e X19 ⟨v19,rfl,hn19,hb19⟩;have SP:=J (SP.o.below hb19);have N19:=J hn19;clear hb19 hn19;go_wp2_with fail
  go_ret;have hE:spz ws (f+1) .expr s=(putN ⟨6,0,n16,⟨#[]⟩,⟨#[]⟩,0⟩ [l18],s18):=by
   show exprS ws (spz ws f) s=_;refine(or_f Z4.o).trans ?_;refine(or_f Z13.o).trans ?_;refine(or_t Z14.o.1 Q15.o).trans ?_;refine(z25 Q16.o).trans ?_;refine(z37 Q17.o).trans ?_;refine(z25 Q18.o).trans ?_;rfl
  rw[hE];exact⟨v19,rfl,N19.o,SP.o⟩
 simp only[Bool.not_eq_true]at hkFn1;have Z20:=sees_no (l:=kFn) HU1 hkFn1;by_cases hkCase1:(u1.toList==([99,97,115,101]:List UInt8))=true
 .have Z21:=z48 (l:=kCase) HU1 hkCase1 yh;obtain⟨s22,X22,HX22,SPn,Q22,C22,GR,HWr,q1,z1⟩:=z69 SP.o Z21.o.2;have G:=J (show s.at_+1<=s22.at_/\s22.at_<=ws.length by have h1:=G.o;have h2:=C22.o;omega);go_wp2_with fail
  rw[HWr.o,HX22.o];have SP:=SPn;clear SPn HWr q1 z1 HX22;refine(go_ev (HC.o.expr s22 X22 SP.o.1 yp) BW.o trivial SP.o).mono ?_;rintro e X23 ⟨va23,vc23,l23,s23,rfl,N23,SP,Q23,S23,L23,GR⟩;have G:=J (show s.at_+1<=s23.at_/\s23.at_<=ws.length by have h1:=G.o;have h2:=S23.o.on;have h3:=S23.o.lt;dsimp only at h2 h3;omega);go_wp2_with fail
  refine(z56 SP.o ⟨#[111,102]⟩ kOf yb yh).mono ?_;rintro e X24 ⟨x24,s24,rfl,SP,Q24,C24,GR⟩;have N23:=J (N23.o.grew GR.o);have G:=J (show s.at_+1<=s24.at_/\s24.at_<=ws.length by have h1:=G.o;have h2:=C24.o;omega);go_wp2_with fail
  refine(z56 SP.o ⟨#[110,105,108]⟩ kNil yb yh).mono ?_;rintro e X25 ⟨x25,s25,rfl,SP,Q25,C25,GR⟩;have N23:=J (N23.o.grew GR.o);have G:=J (show s.at_+1<=s25.at_/\s25.at_<=ws.length by have h1:=G.o;have h2:=C25.o;omega);go_wp2_with fail
  refine(z56 SP.o ⟨#[45,62]⟩ gTo yb yh).mono ?_;rintro e X26 ⟨x26,s26,rfl,SP,Q26,C26,GR⟩;have N23:=J (N23.o.grew GR.o);have G:=J (show s.at_+1<=s26.at_/\s26.at_<=ws.length by have h1:=G.o;have h2:=C26.o;omega);go_wp2_with fail
  refine(go_ev (HC.o.expr s26 X26 SP.o.1 yp) BW.o trivial SP.o).mono ?_;rintro e X27 ⟨va27,vc27,l27,s27,rfl,N27,SP,Q27,S27,L27,GR⟩;have N23:=J (N23.o.grew GR.o);have G:=J (show s.at_+1<=s27.at_/\s27.at_<=ws.length by have h1:=G.o;have h2:=S27.o.on;have h3:=S27.o.lt;dsimp only at h2 h3;omega);go_wp2_with fail
  refine(z56 SP.o ⟨#[124]⟩ gBar yb yh).mono ?_;rintro e X28 ⟨x28,s28,rfl,SP,Q28,C28,GR⟩;have N23:=J (N23.o.grew GR.o);have N27:=J (N27.o.grew GR.o);have G:=J (show s.at_+1<=s28.at_/\s28.at_<=ws.length by have h1:=G.o;have h2:=C28.o;omega);go_wp2_with fail
  refine(name_ev BW.o SP.o).mono ?_;rintro e X29 ⟨n29,s29,rfl,SP,Q29,C29,B29,GR⟩;have N23:=J (N23.o.grew GR.o);have N27:=J (N27.o.grew GR.o);have G:=J (show s.at_+1<=s29.at_/\s29.at_<=ws.length by have h1:=G.o;have h2:=C29.o;omega);go_wp2_with fail
  refine(z56 SP.o ⟨#[58,58]⟩ gCons yb yh).mono ?_;rintro e X30 ⟨x30,s30,rfl,SP,Q30,C30,GR⟩;have N23:=J (N23.o.grew GR.o);have N27:=J (N27.o.grew GR.o);have G:=J (show s.at_+1<=s30.at_/\s30.at_<=ws.length by have h1:=G.o;have h2:=C30.o;omega);go_wp2_with fail
  refine(name_ev BW.o SP.o).mono ?_;rintro e X31 ⟨n31,s31,rfl,SP,Q31,C31,B31,GR⟩;have N23:=J (N23.o.grew GR.o);have N27:=J (N27.o.grew GR.o);have G:=J (show s.at_+1<=s31.at_/\s31.at_<=ws.length by have h1:=G.o;have h2:=C31.o;omega);go_wp2_with fail
  refine(z56 SP.o ⟨#[45,62]⟩ gTo yb yh).mono ?_;rintro e X32 ⟨x32,s32,rfl,SP,Q32,C32,GR⟩;have N23:=J (N23.o.grew GR.o);have N27:=J (N27.o.grew GR.o);have G:=J (show s.at_+1<=s32.at_/\s32.at_<=ws.length by have h1:=G.o;have h2:=C32.o;omega);go_wp2_with fail
  refine(go_ev (HC.o.expr s32 X32 SP.o.1 yp) BW.o trivial SP.o).mono ?_;rintro e X33 ⟨va33,vc33,l33,s33,rfl,N33,SP,Q33,S33,L33,GR⟩;have N23:=J (N23.o.grew GR.o);have N27:=J (N27.o.grew GR.o);have G:=J (show s.at_+1<=s33.at_/\s33.at_<=ws.length by have h1:=G.o;have h2:=S33.o.on;have h3:=S33.o.lt;dsimp only at h2 h3;omega);go_wp2_with fail
  refine(put3_calls SP.o.1 20 0 0 n29 n31 ⟨#[]⟩ N23.o N27.o N33.o ⟨B29.o,B31.o,z17⟩ ⟨L23.o,L27.o,L33.o⟩).mono ?_;rintro e X34 ⟨v34,rfl,hn34,hb34⟩;have SP:=J (SP.o.below hb34);have N34:=J hn34;clear hb34 hn34;go_wp2_with fail
  go_ret;have hE:spz ws (f+1) .expr s=(putN ⟨20,0,n29,n31,⟨#[]⟩,0⟩ [l23,l27,l33],s33):=by
   show exprS ws (spz ws f) s=_;refine(or_f Z4.o).trans ?_;refine(or_f Z13.o).trans ?_;refine(or_f Z20.o).trans ?_;refine(or_t Z21.o.1 Q22.o).trans ?_;refine(z25 Q23.o).trans ?_;refine(z37 Q24.o).trans ?_;refine(z37 Q25.o).trans ?_;refine(z37 Q26.o).trans ?_;refine(z25 Q27.o).trans ?_;refine(z37 Q28.o).trans ?_;refine(z25 Q29.o).trans ?_;refine(z37 Q30.o).trans ?_;refine(z25 Q31.o).trans ?_;refine(z37 Q32.o).trans ?_;refine(z25 Q33.o).trans ?_;rfl
  rw[hE];exact⟨v34,rfl,N34.o,SP.o⟩
 simp only[Bool.not_eq_true]at hkCase1;have Z35:=sees_no (l:=kCase) HU1 hkCase1;go_wp2_with fail
 refine(go_ev (HC.o.cons s X1 SP.o.1 yp) BW.o trivial SP.o).mono ?_;rintro e X36 ⟨va36,vc36,l36,s36,rfl,N36,SP,Q36,S36,L36,GR⟩;have G:=J (show s.at_+0<=s36.at_/\s36.at_<=ws.length by have h1:=G.o;have h2:=S36.o.on;have h3:=S36.o.lt;dsimp only at h2 h3;omega);go_wp2_with fail
 go_ret;have hE:spz ws (f+1) .expr s=(l36,s36):=by
  show exprS ws (spz ws f) s=_;refine(or_f Z4.o).trans ?_;refine(or_f Z13.o).trans ?_;refine(or_f Z20.o).trans ?_;refine(or_f Z35.o).trans ?_;exact Q36.o
 rw[hE];exact⟨_,rfl,N36.o,SP.o⟩
end
end
end Go.Proofs.YtfbojelpdccjaaaGreatDoor
