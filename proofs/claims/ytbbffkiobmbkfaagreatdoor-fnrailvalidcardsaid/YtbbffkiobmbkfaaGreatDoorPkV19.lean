import Derived.Test.YtbbffkiobmbkfaaGreatDoorPkV18
open Go.Proofs.Tryz
open Go.Value Go.IntKind
set_option maxHeartbeats 8000000
set_option maxRecDepth 100000
namespace Go.Proofs.YtbbffkiobmbkfaaGreatDoor
open Go.RowKit Go.Deep
variable {s:Cs}{ss:List ByteArray}{t:Tp}{W:World}
section
open Go.RowKit Go.Deep
theorem part_plain {es:List Ef}{f:Nat}(hs:Good t) (h5:t.n.kind≠5) (h6:t.n.kind≠6) (h8:t.n.kind≠8) (h9:t.n.kind≠9) (h10:t.n.kind≠10) (h20:t.n.kind≠20) (h23:t.n.kind<23):partZ es (f+1) t ss s=(t.kids.foldl (fun s c=>partZ es f c ss s) s).put (pinZ es t.n):=by
 have hk0:∀k:Int,t.n.kind=k->arityZ k=((0:Nat):Int)->t.kids= []:=fun k e ha=>Lu (by rw[t.kids_len];exact z43 hs e ha)
 by_cases h1:t.n.kind=1
 .rw[part1 h1,hk0 1 h1 rfl];simp[pinZ,h1]
 by_cases h2:t.n.kind=2
 .rw[part2 h2,hk0 2 h2 rfl];simp[pinZ,h2]
 by_cases h3:t.n.kind=3
 .rw[part3 h3,hk0 3 h3 rfl];simp[pinZ,h3]
 by_cases h4:t.n.kind=4
 .rw[part4 h4,hk0 4 h4 rfl];simp[pinZ,h4]
 rw[partK h1 h2 h3 h4 h5 h6 h8 h9 h10 h20 ya ya];simp[pinZ,h1,h2,h3,h4]
section
variable {B:Nat}{W0:World}{Mb:Nat}{ae:Option Addr}{ce:Nat}{es:List Ef}{ns:List Nd}{K F:Nat}
theorem put_k (ex:Ex W0 Mb ae es) (ih:PutC B W0 Mb (.slice ae es.length ce) es ns K F) {fv:Value}{kn:Option Addr}(hF:t.size<=F+1) (hs:Stands ns t) (hb:BdT t ss) (hK:ss.length+2*t.size<=K) (hB:s.o.length+10*s.rest+10*t.size<=950000) (hf:FormK B W0 t fv) (h:KmE B W0 Mb (.slice ae es.length ce) s W) (hk:KnAt W kn ss.reverse) (h5:t.n.kind≠5) (h6:t.n.kind≠6) (h8:t.n.kind≠8) (h9:t.n.kind≠9) (h10:t.n.kind≠10) (h20:t.n.kind≠20) (h23:t.n.kind<23) :
 Calls prog 17 #[.pointer (some ⟨Mb,0,none⟩),fv,.pointer kn] W (SetP B W0 Mb (.slice ae es.length ce) (partZ es (F+1) t ss s) W):=by
 rw[part_plain hs.toGood h5 h6 h8 h9 h10 h20 h23];obtain⟨us,hsh,hul,hif,hfk⟩:=hf.open;have hP:=plain_of hsh hif h5 h6 h8 h9 h10 h20 h23;have HC:=U (putPlain_calls ex ih hF hs hb hK hB hP hul hif hfk ya (fun i=>ku) h hk);obtain⟨T,pv,rfl,hT,-,-⟩:=hP;have t1:=miss_var hT.1 pv;have t2:=miss_fn hT.2.1 pv;have t3:=miss_rec hT.2.2.1 pv;have t4:=miss_let hT.2.2.2.1 pv;have t5:=miss_if hT.2.2.2.2.1 pv;have t6:=miss_case hT.2.2.2.2.2.1 pv;have t7:=miss_hand hT.2.2.2.2.2.2 pv;clear hF hs hb hK hB h hk hsh hul hif hfk ih ex hT h5 h6 h8 h9 h10 h20 h23;go_enter func17,ntmps17
 go_wp2_with fail
 refine HC.o.mono ?_;rintro e X ⟨⟨x,rfl⟩,h1,f1⟩;have S1:=U (Lc h1 f1);clear h1 f1 HC t1 t2 t3 t4 t5 t6 t7;go_wp2_with fail
 go_end0
 exact⟨⟨_,rfl⟩,S1.o.1,S1.o.2⟩
theorem put_h (ex:Ex W0 Mb ae es) (ih:PutC B W0 Mb (.slice ae es.length ce) es ns K F) (hk1:K<=1000) (hMB:Mb<B) {fv:Value}{kn:Option Addr}(hF:t.size<=F+1) (hs:Stands ns t) (hb:BdT t ss) (hK:ss.length+2*t.size<=K) (hB:s.o.length+10*s.rest+10*t.size<=950000) (hf:FormK B W0 t fv) (h:KmE B W0 Mb (.slice ae es.length ce) s W) (hk:KnAt W kn ss.reverse) (ek:t.n.kind=23\/t.n.kind=24) :
 Calls prog 17 #[.pointer (some ⟨Mb,0,none⟩),fv,.pointer kn] W (SetP B W0 Mb (.slice ae es.length ce) (partZ es (F+1) t ss s) W):=by
 rw[partH ek];obtain⟨us,hsh,hul,hif,hfk⟩:=hf.open;obtain⟨u,us',sl,rfl,rfl,hrow,h5⟩:=shapeH hsh ek;have h2:=((z69 hs.toGood).2.1 wg).1;have f0:=hfk 0 ya;simp only[List.getD_cons_zero]at f0;obtain⟨Tu,pu,rfl⟩:=hif u yq;have hr2:=hrow;obtain⟨g,ro,cap,hsl,-⟩:=hr2;obtain⟨kd,hkd⟩:∃k,t.n.kind=k:=⟨_,rfl⟩
 obtain⟨L,hL⟩:∃L,us'.length=L:=⟨_,rfl⟩
 rw[hL]at hsl;subst hsl;rw[hkd];have bl:=(Below.refl W.heap.size W).alloc La (.cells #[int i64 kd,.iface Tu pu,.slice (some ⟨g,ro,none⟩) L cap] 121);have hA:=(Ld W (.cells #[int i64 kd,.iface Tu pu,.slice (some ⟨g,ro,none⟩) L cap] 121)).1;obtain⟨Y,hY⟩:∃Y,W.alloc (.cells #[int i64 kd,.iface Tu pu,.slice (some ⟨g,ro,none⟩) L cap] 121)=Y:=⟨_,rfl⟩
 rw[hY]at bl hA;have HY:=U hY;have HA1:=U hA;have S1:=U (h.below bl);have F1:=U (Kf.of_below bl);have KA1:=U (KnAt.frame (Kf.of_below bl) _ _ hk);have t1:=miss_var (T:=121) yk (.agg #[int i64 kd,.iface Tu pu,.slice (some ⟨g,ro,none⟩) L cap]);have t2:=miss_fn (T:=121) yk (.agg #[int i64 kd,.iface Tu pu,.slice (some ⟨g,ro,none⟩) L cap]);have t3:=miss_rec (T:=121) yk (.agg #[int i64 kd,.iface Tu pu,.slice (some ⟨g,ro,none⟩) L cap]);have t4:=miss_let (T:=121) yk (.agg #[int i64 kd,.iface Tu pu,.slice (some ⟨g,ro,none⟩) L cap])
 have t5:=miss_if (T:=121) yk (.agg #[int i64 kd,.iface Tu pu,.slice (some ⟨g,ro,none⟩) L cap]);have t6:=miss_case (T:=121) yk (.agg #[int i64 kd,.iface Tu pu,.slice (some ⟨g,ro,none⟩) L cap]);have t7:=hit_hand (.agg #[int i64 kd,.iface Tu pu,.slice (some ⟨g,ro,none⟩) L cap]);have hpc:=putHandler_calls ex ih hk1 hMB ek hF hs hb hK hB f0 hrow (by rw[<-hul];simp) h2 (fun x hx=>hif x (by simp[hx])) (fun i hi=>by have:=hfk (i+1) (by rw[<-hul];simp;omega);simpa using this) S1.o KA1.o;rw[hkd]at hpc;have HP:=U hpc;obtain⟨d0,d1,d2⟩:=fcl3 HA1.o
 clear hpc hF hs hb hK hB h hk hsh hul hif hfk h2 h5 f0 hrow bl hA hY ek ih ex hMB hk1 S1 KA1 HA1 hkd hL;go_enter func17,ntmps17
 go_upto_region 27 with fail
 rw[HY.o];clear HY t1 t2 t3 t4 t5 t6 t7;go_wp2_with fail
 refine HP.o.mono ?_;rintro e X2 ⟨⟨x2,rfl⟩,h2,f2⟩;have S2:=U (Lc h2 (F1.o.trans f2));clear h2 f2 d0 d1 d2 HP;go_wp2_with fail
 go_end0
 exact⟨⟨_,rfl⟩,S2.o.1,S2.o.2⟩
theorem put_all (ex:Ex W0 Mb ae es) (hk1:K<=1000) (hMB:Mb<B):∀F,PutC B W0 Mb (.slice ae es.length ce) es ns K F:=by
 intro F;induction F with
 |zero=>intro t fv kn ss s W hF;have:=t.size_pos;omega
 | succ F ih=>
   intro t fv kn ss s W hF hs hb hK hB hf h hk;by_cases h5:t.n.kind=5
   .exact put_5 hk1 hb hK hB hf h hk h5
   by_cases h6:t.n.kind=6
   .exact put_6 hk1 hs hb hK hB hf h hk h6
   by_cases h8:t.n.kind=8
   .exact put_8 ih hk1 hF hs hb hK hB hf h hk h8
   by_cases h9:t.n.kind=9
   .exact put_9 ih hk1 hF hs hb hK hB hf h hk h9
   by_cases h10:t.n.kind=10
   .exact put_10 ih hk1 hF hs hb hK hB hf h hk h10
   by_cases h20:t.n.kind=20
   .exact put_20 ih hk1 hF hs hb hK hB hf h hk h20
   by_cases h23:t.n.kind=23\/t.n.kind=24
   .exact put_h ex ih hk1 hMB hF hs hb hK hB hf h hk h23
   ·have har:=(z69 hs.toGood).1;have hlt:t.n.kind<=26:=by
     rcases Int.lt_or_le 26 t.n.kind with hc|hc
     .exact absurd (tab_other (Or.inr hc)) har
     .exact hc
    have:=hb.1.2;exact put_k ex ih hF hs hb hK hB hf h hk h5 h6 h8 h9 h10 h20 ya
theorem late_calls (ih:PutC B W0 Mb (.slice ae es.length ce) es ns K 400) {l:Lt}{p4 p5 p6 p7:Nat}(hl:LateK B W0 W Mb l (.func (.func 100) #[] #[.pointer (some ⟨p7,0,none⟩),.pointer (some ⟨p4,0,none⟩),.pointer (some ⟨p5,0,none⟩),.pointer (some ⟨p6,0,none⟩)])) (hsz:l.t.size<=400) (hs:Stands ns l.t) (hK:l.names.length+2*l.t.size<=K) (hB:s.o.length+10*s.rest+10*l.t.size<=950000) (hfr:l.fr<s.o.length) (h:KmE B W0 Mb (.slice ae es.length ce) s W) :
 Calls prog 100 #[.pointer (some ⟨p7,0,none⟩),.pointer (some ⟨p4,0,none⟩),.pointer (some ⟨p5,0,none⟩),.pointer (some ⟨p6,0,none⟩)] W (SetP B W0 Mb (.slice ae es.length ce) (nextZ es l s) W):=by
 obtain⟨q4,q5,q6,q7,fv,kn,tv,e,h4,h5,h6,h7,⟨h8,h8b⟩,h9,h10⟩:=hl
 cases e;obtain⟨us,hus,hsh⟩:=h8;obtain⟨tyv,pv,rfl⟩:=hsh.iface;have HF:=U (show FormK B W0 l.t (.iface tyv pv) from⟨us,hus,hsh⟩);obtain⟨q2,q3,f,rfl,g2,g3,g4⟩:=h10;have HT:O (∀(X:World) (v:Int),KmE B W0 Mb (.slice ae es.length ce) s X->X.heap[q2]?=some (.cells #[.pointer (some ⟨Mb,0,none⟩)] 43)->X.heap[q3]?=some (.cells #[int i64 (l.fr:Int)] 3)->Calls prog f #[int i64 v,.pointer (some ⟨q2,0,none⟩),.pointer (some ⟨q3,0,none⟩)] X (SetP B W0 Mb (.slice ae es.length ce) (s.setAt l.fr l.wh v) X)):=fun X v hx hx2 hx3=>by
  rcases g4 with ⟨e1,e2⟩|⟨e1,e2⟩
  .rw[e1,e2];exact tellA_calls v hx hx2 hx3 hfr
  .rw[e1,e2];exact tellB_calls v hx hx2 hx3 hfr
 have HG4:=U g4;have H0:=U (Lc hsz (Lc hs (Lc h8b (Lc hK hB))));have HR:=U (part_r (es:=es) (K:=K) 400 l.t l.names (s.lead l.fr l.wh) hsz hs hK);have HIH:=U ih;have bd:Below W.heap.size W W.drew:=Lb.drew;have S1:=U (h.below bd);have A4:=U (show W.drew.heap[p4]?=_ from h4);have A5:=U (show W.drew.heap[p5]?=_ from h5);have A6:=U (show W.drew.heap[p6]?=_ from h6);have A7:=U (show W.drew.heap[p7]?=_ from h7);have G2:=U (show W.drew.heap[q2]?=_ from g2);have G3:=U (show W.drew.heap[q3]?=_ from g3);have K1:=U (KnAt.frame (Kf.of_below bd) _ _ h9);have F1:=U (Kf.of_below bd)
 obtain⟨ad,cp,hlen⟩:=km_len S1.o;clear hus hsh h4 h5 h6 h7 h8b h9 g2 g3 g4 hsz hs hK hB hfr h ih bd;go_enter func100,ntmps100
 obtain⟨L,hL⟩:∃x:Nat,s.o.length=x:=⟨_,rfl⟩
 rw[hL]at hlen;have HLe:=U hL;clear hL;have hG:(l.wh=0/\f=102)\/(l.wh=1/\f=147):=HG4.o;rcases hG with ⟨-,rfl⟩|⟨-,rfl⟩
 .go_upto_region 0 with fail
  refine z31 (S:=fun w=>w.cell? ⟨p7,0,none⟩=some (.func (.func 102) #[] #[.pointer (some ⟨q2,0,none⟩),.pointer (some ⟨q3,0,none⟩)])/\w.cell? ⟨p4,0,none⟩=some (.pointer (some ⟨Mb,0,none⟩))) (n:=7) (ls:= #[false,false,false,false,false,false,false]) ye rfl ye ?_;generalize W.drew=X at*;have hS:=Lc (z11 A7.o 0) (z11 A4.o 0);refine pick_o (hy:=fun w' hw=>yc) 0 (.func (.func 102) #[] #[.pointer (some ⟨q2,0,none⟩),.pointer (some ⟨q3,0,none⟩)]) hS ?_;refine pick_o (hy:=fun w' hw=>xj) 1 (.pointer (some ⟨Mb,0,none⟩)) hS ?_;refine pick_o 2 (.pointer (some ⟨Mb,0,none⟩)) hS ?_
  refine pick_o 3 (.pointer (some ⟨Mb,1,none⟩)) hS ?_;refine z27 (i:=4) (v:=.slice ad L cp) (w1:=X) rfl ye rfl rfl (by simp[go_sem,hlen]) hS yg ?_;refine pick_o 5 (int i64 (L:Int)) hS ?_;refine z26 (i:=6) (f:=102) (args:= #[int i64 (L:Int),.pointer (some ⟨q2,0,none⟩),.pointer (some ⟨q3,0,none⟩)]) rfl ye rfl rfl yf ?_;refine(HT.o X (L:Int) S1.o G2.o G3.o).mono ?_;rintro e X2 ⟨⟨x2,rfl⟩,h2,f2⟩;rw[<-HLe.o,setAt_lead]at h2;have S2:=U h2;have F2:=U (F1.o.trans f2);have A42:=U (f2.keep A4.o yk yk yk);have A52:=U (f2.keep A5.o yk yk yk);have A62:=U (f2.keep A6.o yk yk yk)
  have A72:=U (f2.keep A7.o yk yk yk);have K2:=U (KnAt.frame f2 _ _ K1.o);refine⟨_,rfl,⟨z11 A72.o 0,z11 A42.o 0⟩,?_⟩;refine z25 yg ?_;refine z37 ye ?_;clear h2 f2 hS hlen HT A4 A5 A6 A7 G2 G3 K1 F1 S1;have c4:=z11 A42.o 0;have c5:=z11 A52.o 0;have c6:=z11 A62.o 0;simp at c4 c5 c6;go_wp2_with fail
  clear c4 c5 c6;refine(HIH.o l.t _ kn l.names _ X2 H0.o.1 H0.o.2.1 H0.o.2.2.1 H0.o.2.2.2.1 kw HF.o S2.o K2.o).mono ?_;rintro e X3 ⟨⟨x3,rfl⟩,h3,f3⟩;have S3:=U h3;have F3:=U (F2.o.trans f3);have A43:=U (f3.keep A42.o yk yk yk);clear h3 f3 S2 F2 A42 A52 A62 A72 K2;have c4:=z11 A43.o 0;simp at c4;go_wp2_with fail
  clear c4;refine(z41 ⟨9,0,0,0⟩ S3.o ky).mono ?_;rintro e X4 ⟨rfl,h4,f4⟩;have S4:=U (Lc h4 (F3.o.trans f4));obtain⟨m4,hm4⟩:∃m:Int,((partZ es 400 l.t l.names (s.lead l.fr l.wh)).o.length:Int)=m:=⟨_,rfl⟩
  rw[hm4];clear h4 f4 hm4;go_wp2_with fail
  go_end0
  exact⟨⟨_,rfl⟩,S4.o.1,S4.o.2⟩
 .go_upto_region 0 with fail
  refine z31 (S:=fun w=>w.cell? ⟨p7,0,none⟩=some (.func (.func 147) #[] #[.pointer (some ⟨q2,0,none⟩),.pointer (some ⟨q3,0,none⟩)])/\w.cell? ⟨p4,0,none⟩=some (.pointer (some ⟨Mb,0,none⟩))) (n:=7) (ls:= #[false,false,false,false,false,false,false]) ye rfl ye ?_;generalize W.drew=X at*;have hS:=Lc (z11 A7.o 0) (z11 A4.o 0);refine pick_o (hy:=fun w' hw=>yc) 0 (.func (.func 147) #[] #[.pointer (some ⟨q2,0,none⟩),.pointer (some ⟨q3,0,none⟩)]) hS ?_;refine pick_o (hy:=fun w' hw=>xj) 1 (.pointer (some ⟨Mb,0,none⟩)) hS ?_;refine pick_o 2 (.pointer (some ⟨Mb,0,none⟩)) hS ?_
  refine pick_o 3 (.pointer (some ⟨Mb,1,none⟩)) hS ?_;refine z27 (i:=4) (v:=.slice ad L cp) (w1:=X) rfl ye rfl rfl (by simp[go_sem,hlen]) hS yg ?_;refine pick_o 5 (int i64 (L:Int)) hS ?_;refine z26 (i:=6) (f:=147) (args:= #[int i64 (L:Int),.pointer (some ⟨q2,0,none⟩),.pointer (some ⟨q3,0,none⟩)]) rfl ye rfl rfl yf ?_;refine(HT.o X (L:Int) S1.o G2.o G3.o).mono ?_;rintro e X2 ⟨⟨x2,rfl⟩,h2,f2⟩;rw[<-HLe.o,setAt_lead]at h2;have S2:=U h2;have F2:=U (F1.o.trans f2);have A42:=U (f2.keep A4.o yk yk yk);have A52:=U (f2.keep A5.o yk yk yk);have A62:=U (f2.keep A6.o yk yk yk)
  have A72:=U (f2.keep A7.o yk yk yk);have K2:=U (KnAt.frame f2 _ _ K1.o);refine⟨_,rfl,⟨z11 A72.o 0,z11 A42.o 0⟩,?_⟩;refine z25 yg ?_;refine z37 ye ?_;clear h2 f2 hS hlen HT A4 A5 A6 A7 G2 G3 K1 F1 S1;have c4:=z11 A42.o 0;have c5:=z11 A52.o 0;have c6:=z11 A62.o 0;simp at c4 c5 c6;go_wp2_with fail
  clear c4 c5 c6;refine(HIH.o l.t _ kn l.names _ X2 H0.o.1 H0.o.2.1 H0.o.2.2.1 H0.o.2.2.2.1 kw HF.o S2.o K2.o).mono ?_;rintro e X3 ⟨⟨x3,rfl⟩,h3,f3⟩;have S3:=U h3;have F3:=U (F2.o.trans f3);have A43:=U (f3.keep A42.o yk yk yk);clear h3 f3 S2 F2 A42 A52 A62 A72 K2;have c4:=z11 A43.o 0;simp at c4;go_wp2_with fail
  clear c4;refine(z41 ⟨9,0,0,0⟩ S3.o ky).mono ?_;rintro e X4 ⟨rfl,h4,f4⟩;have S4:=U (Lc h4 (F3.o.trans f4));obtain⟨m4,hm4⟩:∃m:Int,((partZ es 400 l.t l.names (s.lead l.fr l.wh)).o.length:Int)=m:=⟨_,rfl⟩
  rw[hm4];clear h4 f4 hm4;go_wp2_with fail
  go_end0
  exact⟨⟨_,rfl⟩,S4.o.1,S4.o.2⟩
end
theorem implProgC_calls (ae:Option Addr) (be bt ce cn:Nat) (es:List Ef) (ns:List Nd) (T:Bool) (w:World) (hce:es.length<=ce) (hae:es≠ []->ae=some ⟨be,0,none⟩) (hbe:be<w.heap.size) (hbt:bt<w.heap.size) (hE:EffsAt w be 0 es) (hN:NodesAt w bt 0 ns) (me:es.length<=1048576) (mn:ns.length<=1048576) (hsh:∀e∈es,e.name.size<=maxLen) (hTT:∀w':World,bt<w'.heap.size->NodesAt w' bt 0 ns->Calls prog 37 #[.slice (some ⟨bt,0,none⟩) ns.length cn] w' fun e w''=> e=.returned (.bool T)/\Below w'.heap.size w' w'') :
 Calls prog 15 #[.agg #[.slice ae es.length ce,.slice (some ⟨bt,0,none⟩) ns.length cn]] w fun e w'=> e=.returned (.bool (progZ es ns T))/\Below w.heap.size w w':= by
 have hb1:Below w.heap.size w (w.alloc (.cells #[.slice ae es.length ce,.slice (some ⟨bt,0,none⟩) ns.length cn] 26)):=Lb.alloc La _;have HT:O (Calls _ _ _ _ _):=hTT (w.alloc (.cells #[.slice ae es.length ce,.slice (some ⟨bt,0,none⟩) ns.length cn] 26)) (Le hbt hb1.size) (hN.below hb1 hbt);have HB1:O (Below w.heap.size w (w.alloc (.cells #[.slice ae es.length ce,.slice (some ⟨bt,0,none⟩) ns.length cn] 26))):=hb1
 have HK1:O ((w.alloc (.cells #[.slice ae es.length ce,.slice (some ⟨bt,0,none⟩) ns.length cn] 26)).heap[w.heap.size]?=some (.cells #[.slice ae es.length ce,.slice (some ⟨bt,0,none⟩) ns.length cn] 26)):=(Ld w _).1;obtain⟨R,hR⟩:∃R,progZ es ns T=R:=⟨_,rfl⟩
 have HR:O (progZ es ns T=R):=hR;have HE:O (EffsAt w be 0 es):=hE;have HN:O (NodesAt w bt 0 ns):=hN;have HMN:O (ns.length<=1048576):=mn;rw[hR];obtain⟨len,hlen⟩:∃len,es.length=len:=⟨_,rfl⟩
 obtain⟨ln,hln⟩:∃ln,ns.length=ln:=⟨_,rfl⟩
 have Hlen:O (es.length=len/\ns.length=ln):=⟨hlen,hln⟩
 rw[hlen,hln]at HT HB1 HK1 |-;have HM:O (len<=1048576/\ln<=1048576):=vh;have HSH:O (∀e∈es,e.name.size<=maxLen):=hsh;have HAe:O (len<=ce/\(es≠ []->ae=some ⟨be,0,none⟩)):=⟨ya,hae⟩
 clear hce hae hb1 hR hE hN me mn hTT hlen hln hsh;by_cases h8:(8:Int)<(len:Int)
 ·have HF:O (R=false):=by
   show R=false;rw[<-HR.o,progZ,Hlen.o.1,decide_eq_false ya,Bool.false_and]
  clear HT HE HN HK1;go_enter func15,ntmps15
  go_wp2_with fail
  go_ret;exact⟨jj,HB1.o⟩
 have h8':(len:Int)<=8:=ya;have HR8:O ((T && ((List.range len).all (effOk es) && ns.all (nodeHas es)))=R):=by
  show _=R;rw[<-HR.o,progZ,Hlen.o.1,decide_eq_true ya,Bool.true_and]
 clear h8;go_enter func15,ntmps15
 go_wp2_with fail
 refine HT.o.mono ?_;rintro e w2 ⟨rfl,hb2⟩;have hbw2:=HB1.o.trans (hb2.mono HB1.o.size);have kp2:=(hb2.block w.heap.size yq).trans HK1.o;clear HT HB1 HK1 hb2
 cases T with
 | false=>
   go_wp2_with fail
   go_ret;exact⟨ws,hbw2⟩
 | true=>
   have HRR:O (((List.range len).all (effOk es) && ns.all (nodeHas es))=R):=HR8.o;clear HR8 HR;have pA0:=z11 kp2 0;simp at pA0;go_wp2_with fail
   clear pA0;go_loopw [20] (fun i wr=> ∃i':Nat,i=int i64 i'/\i'<=len/\O ((List.range i').all (effOk es)=true)/\wr.heap[w.heap.size]?=some (.cells #[.slice ae len ce,.slice (some ⟨bt,0,none⟩) ln cn] 26)/\Below w.heap.size w wr) (fun i _=>len-(intOf i).toNat)
   case atStart=>exact⟨0,rfl,Li _,rfl,kp2,hbw2⟩
   case round=>
    obtain⟨i',rfl,hle,HI,kp,hbx⟩:=hrel;have hAlt:=z13 kp;obtain⟨pA,pB⟩:=fcl2 kp;have hEx:=HE.o.below hbx hbe;by_cases hlt:(i':Int)<(len:Int)
    .have hic:(i':Int)<=(ce:Int):=by have:=HAe.o.1;omega
     have hae:ae=some ⟨be,0,none⟩:=HAe.o.2 (fun e=>by have:=Hlen.o.1;rw[e]at this;simp at this;omega);subst hae;have hil:i'<es.length:=by rw[Hlen.o.1];omega
     have c0:=hEx i' hil 0 ya;have c1:=hEx i' hil 1 ya;have c2:=hEx i' hil 2 ya;obtain⟨ef,hef⟩:∃ef,es.getD i' default=ef:=⟨_,rfl⟩
     have hF:effOk es i'= false->O (R=false):=fun h=>by
      show R=false;have:=range_false hil h;rw[Hlen.o.1]at this;rw[<-HRR.o,this,Bool.false_and]
     have hS:effOk es i'= true->O ((List.range (i'+ 1)).all (effOk es)=true):=fun h=>range_step HI.o h
     have hdef:effOk es i'= (nameOk ef.name && (!effIn (es.take i') ef.name && (decide (1<=ef.arg/\ef.arg<=4) && decide (1<=ef.res/\ef.res<=4)))):=by rw[effOk,hef]
     rw[hdef]at hF hS;rw[hef]at c0 c1 c2;simp only[Ef.cell,Nat.add_zero,Nat.zero_add]at c0 c1 c2;have htl:(es.take i').length=i':= jd;have HP:O (∀w,be<w.heap.size->EffsAt w be 0 es->_):=fun w hb h=>hasEff_calls (some ⟨be,0,none⟩) ce (es.take i') ef.name w (by rw[htl];have:=HM.o;omega) (fun _=>⟨be,0,rfl,hb,effsTake h⟩)
     rw[htl]at HP;have hshe:ef.name.size<=maxLen:=by
      rw[<-hef];exact HSH.o _ (by simp[List.getD,Lr hil])
     have hLn:∀w,_:=fun w=>implName_calls ef.name hshe w
     have hbW:Below w.heap.size w (wr.alloc (.cells #[.string ef.name,int i64 ef.arg,int i64 ef.res] 64)):=hbx.alloc vr _;have HEW:O (EffsAt (wr.alloc (.cells #[.string ef.name,int i64 ef.arg,int i64 ef.res] 64)) be 0 es):=HE.o.below hbW hbe;obtain⟨nm,ar,rs⟩:=ef;dsimp only at*;clear hEx hil hdef hef HI HE htl hshe;generalize effIn (es.take i') nm=ein at*;have hA1:∀w,_:=fun w=>baseOk_calls ar w
     have hA2:∀w,_:=fun w=>baseOk_calls rs w
     generalize decide (1<=ar/\ar<=4)=okA at*;generalize decide (1<=rs/\rs<=4)=okR at*;generalize nameOk nm=okN at*;go_wp2_with fail
     have u0:(wr.alloc (.cells #[.string nm,int i64 ar,int i64 rs] 64)).cell? ⟨wr.heap.size,0,none⟩=some (.string nm):=yf;have u1:(wr.alloc (.cells #[.string nm,int i64 ar,int i64 rs] 64)).cell? ⟨wr.heap.size,1,none⟩=some (int i64 ar):=yf;have u2:(wr.alloc (.cells #[.string nm,int i64 ar,int i64 rs] 64)).cell? ⟨wr.heap.size,2,none⟩=some (int i64 rs):=yf;have kpW:=(Below.heap_alloc wr (.cells #[.string nm,int i64 ar,int i64 rs] 64) _ hAlt).trans kp;have uA:=z11 kpW 0;simp at uA;have hEW:wr.heap.size<(wr.alloc (.cells #[.string nm,int i64 ar,int i64 rs] 64)).heap.size:=yq
     have hAW:w.heap.size<(wr.alloc (.cells #[.string nm,int i64 ar,int i64 rs] 64)).heap.size:=jd;have hbeW:be<(wr.alloc (.cells #[.string nm,int i64 ar,int i64 rs] 64)).heap.size:=jd;generalize (wr.alloc (.cells #[.string nm,int i64 ar,int i64 rs] 64))=W at*;have HED:O (EffsAt W be 0 es):=HEW.o;have v0:∀x:Later W.heap.size W,x.w.cell? ⟨wr.heap.size,0,none⟩=some (.string nm):=fun x=>x.cell hEW u0
     have v1:∀x:Later W.heap.size W,x.w.cell? ⟨wr.heap.size,1,none⟩=some (int i64 ar):=fun x=>x.cell hEW u1
     have v2:∀x:Later W.heap.size W,x.w.cell? ⟨wr.heap.size,2,none⟩=some (int i64 rs):=fun x=>x.cell hEW u2
     have vA:∀x:Later W.heap.size W,x.w.cell? ⟨w.heap.size,0,none⟩=some (.slice (some ⟨be,0,none⟩) len ce):=fun x=>x.cell hAW uA
     clear c0 c1 c2 pA pB kp HEW;have HL:O (∀w,_):=hLn;have H1:O (∀w,_):=hA1;have H2:O (∀w,_):=hA2;clear hLn hA1 hA2;have HFF:O ((okN && (!ein && (okA && okR)))=false->O (R=false)):=hF;have HSS:O ((okN && (!ein && (okA && okR)))=true->O ((List.range (i'+ 1)).all (effOk es)=true)):=hS;clear hF hS
     cases okN
     ·have HF:=HFF.o rfl;clear HFF HSS;refine z28 W.heap.size ye ye ?_;repeat(go_big_quiet_step (first
       |(rename_i x;go_at_call 38;refine(HL.o _).mono ?_;rintro e w5 ⟨rfl,hb5⟩;exact⟨rfl,⟨w5,x.h.trans (hb5.mono x.h.size)⟩,rfl⟩)
       |(rename_i x;go_at_call 39;refine(H1.o _).mono ?_;rintro e w6 ⟨rfl,rfl⟩;exact⟨rfl,x,rfl⟩)
       |(rename_i x;go_at_call 39;refine(H2.o _).mono ?_;rintro e w6 ⟨rfl,rfl⟩;exact⟨rfl,x,rfl⟩)
       |(rename_i x;go_at_call 40;refine(HP.o _ (Le hbeW x.h.size) (HED.o.below x.h hbeW)).mono ?_;rintro e w5 ⟨rfl,hb5⟩;exact⟨rfl,⟨w5,x.h.trans (hb5.mono x.h.size)⟩,rfl⟩)))
      refine wpQuiet_nil ?_;rintro w5 ⟨x,rfl⟩;have hx:=hbW.trans (x.h.mono hbW.size);clear u0 u1 u2 uA v0 v1 v2 vA;go_wp2_with fail
      go_ret;exact⟨jj,hx⟩
     cases okA
     .have HF:=HFF.o (by cases ein<;>rfl)
      clear HFF HSS;refine z28 W.heap.size ye ye ?_;repeat(go_big_quiet_step (first
       |(rename_i x;go_at_call 38;refine(HL.o _).mono ?_;rintro e w5 ⟨rfl,hb5⟩;exact⟨rfl,⟨w5,x.h.trans (hb5.mono x.h.size)⟩,rfl⟩)
       |(rename_i x;go_at_call 39;refine(H1.o _).mono ?_;rintro e w6 ⟨rfl,rfl⟩;exact⟨rfl,x,rfl⟩)
       |(rename_i x;go_at_call 39;refine(H2.o _).mono ?_;rintro e w6 ⟨rfl,rfl⟩;exact⟨rfl,x,rfl⟩)
       |(rename_i x;go_at_call 40;refine(HP.o _ (Le hbeW x.h.size) (HED.o.below x.h hbeW)).mono ?_;rintro e w5 ⟨rfl,hb5⟩;exact⟨rfl,⟨w5,x.h.trans (hb5.mono x.h.size)⟩,rfl⟩)))
      refine wpQuiet_nil ?_;rintro w5 ⟨x,rfl⟩;have hx:=hbW.trans (x.h.mono hbW.size);clear u0 u1 u2 uA v0 v1 v2 vA;go_wp2_with fail
      go_ret;exact⟨jj,hx⟩
     cases okR
     .have HF:=HFF.o (by cases ein<;>rfl)
      clear HFF HSS;refine z28 W.heap.size ye ye ?_;repeat(go_big_quiet_step (first
       |(rename_i x;go_at_call 38;refine(HL.o _).mono ?_;rintro e w5 ⟨rfl,hb5⟩;exact⟨rfl,⟨w5,x.h.trans (hb5.mono x.h.size)⟩,rfl⟩)
       |(rename_i x;go_at_call 39;refine(H1.o _).mono ?_;rintro e w6 ⟨rfl,rfl⟩;exact⟨rfl,x,rfl⟩)
       |(rename_i x;go_at_call 39;refine(H2.o _).mono ?_;rintro e w6 ⟨rfl,rfl⟩;exact⟨rfl,x,rfl⟩)
       |(rename_i x;go_at_call 40;refine(HP.o _ (Le hbeW x.h.size) (HED.o.below x.h hbeW)).mono ?_;rintro e w5 ⟨rfl,hb5⟩;exact⟨rfl,⟨w5,x.h.trans (hb5.mono x.h.size)⟩,rfl⟩)))
      refine wpQuiet_nil ?_;rintro w5 ⟨x,rfl⟩;have hx:=hbW.trans (x.h.mono hbW.size);clear u0 u1 u2 uA v0 v1 v2 vA;go_wp2_with fail
      go_ret;exact⟨jj,hx⟩
     cases ein
     ·have HS:=HSS.o rfl;clear HFF HSS;refine z28 W.heap.size ye ye ?_;repeat(go_big_quiet_step (first
       |(rename_i x;go_at_call 38;refine(HL.o _).mono ?_;rintro e w5 ⟨rfl,hb5⟩;exact⟨rfl,⟨w5,x.h.trans (hb5.mono x.h.size)⟩,rfl⟩)
       |(rename_i x;go_at_call 39;refine(H1.o _).mono ?_;rintro e w6 ⟨rfl,rfl⟩;exact⟨rfl,x,rfl⟩)
       |(rename_i x;go_at_call 39;refine(H2.o _).mono ?_;rintro e w6 ⟨rfl,rfl⟩;exact⟨rfl,x,rfl⟩)
       |(rename_i x;go_at_call 40;refine(HP.o _ (Le hbeW x.h.size) (HED.o.below x.h hbeW)).mono ?_;rintro e w5 ⟨rfl,hb5⟩;exact⟨rfl,⟨w5,x.h.trans (hb5.mono x.h.size)⟩,rfl⟩)))
      refine wpQuiet_nil ?_;rintro w5 ⟨x,rfl⟩;have hx:=hbW.trans (x.h.mono hbW.size);have kp5:=(x.h.block w.heap.size hAW).trans kpW;clear u0 u1 u2 uA v0 v1 v2 vA;go_wp2_with fail
      have hs:len-(intOf (int i64 ((i'+ 1:Nat):Int))).toNat<len-(intOf (int i64 (i':Int))).toNat:=yu;try rw[show wrap64 ((i':Int)+1)=((i'+ 1:Nat):Int) by have:=HM.o;unfold wrap64;omega]
      exact⟨⟨i'+ 1,rfl,ya,HS,kp5,hx⟩,hs⟩
     ·have HF:=HFF.o rfl;clear HFF HSS;refine z28 W.heap.size ye ye ?_;repeat(go_big_quiet_step (first
       |(rename_i x;go_at_call 38;refine(HL.o _).mono ?_;rintro e w5 ⟨rfl,hb5⟩;exact⟨rfl,⟨w5,x.h.trans (hb5.mono x.h.size)⟩,rfl⟩)
       |(rename_i x;go_at_call 39;refine(H1.o _).mono ?_;rintro e w6 ⟨rfl,rfl⟩;exact⟨rfl,x,rfl⟩)
       |(rename_i x;go_at_call 39;refine(H2.o _).mono ?_;rintro e w6 ⟨rfl,rfl⟩;exact⟨rfl,x,rfl⟩)
       |(rename_i x;go_at_call 40;refine(HP.o _ (Le hbeW x.h.size) (HED.o.below x.h hbeW)).mono ?_;rintro e w5 ⟨rfl,hb5⟩;exact⟨rfl,⟨w5,x.h.trans (hb5.mono x.h.size)⟩,rfl⟩)))
      refine wpQuiet_nil ?_;rintro w5 ⟨x,rfl⟩;have hx:=hbW.trans (x.h.mono hbW.size);clear u0 u1 u2 uA v0 v1 v2 vA;go_wp2_with fail
      go_ret;exact⟨jj,hx⟩
    .have e:i'= len:=by omega
     subst e;have HR2:O (ns.all (nodeHas es)=R):=by
      show _=R;rw[<-HRR.o,HI.o,Bool.true_and]
     clear HRR HI hEx;go_wp2_with fail
     clear pA pB;go_loopw [54] (fun j wr=> ∃k:Nat,j=int i64 k/\k<=ln/\O ((ns.take k).all (nodeHas es)=true)/\wr.heap[w.heap.size]?=some (.cells #[.slice ae i' ce,.slice (some ⟨bt,0,none⟩) ln cn] 26)/\Below w.heap.size w wr) (fun j _=>ln-(intOf j).toNat)
     case atStart=>exact⟨0,rfl,Li _,rfl,kp,hbx⟩
     case round=>
      clear kp hbx hAlt;obtain⟨k,rfl,hk,HI,kp,hbx⟩:=hrel;have hAlt:=z13 kp;obtain⟨pA,pB⟩:=fcl2 kp;by_cases hlt:(k:Int)<(ln:Int)
      .have hil:k<ns.length:=by rw[Hlen.o.2];omega
       have hNx:=HN.o.below hbx hbt;obtain⟨c0,c1,c2,c3,c4,c5⟩:=fsx (hNx k hil);obtain⟨nd,hnd⟩:∃nd,ns.getD k default=nd:=⟨_,rfl⟩
       have hF:nodeHas es nd=false->O (R=false):=fun h=>by
        show R=false;rw[<-HR2.o];exact has_false hil zq
       have hS:nodeHas es nd=true->O ((ns.take (k+1)).all (nodeHas es)=true):=fun h=>has_step hil HI.o zq
       rw[hnd]at c0 c1 c2 c3 c4 c5;simp only[Nd.cell,Nat.add_zero,Nat.zero_add]at c0 c1 c2 c3 c4 c5;obtain⟨kd,num,a,bb,cc,kids⟩:=nd;dsimp only at*;have hszx:=hbx.size;have HP:O (∀w',be<w'.heap.size->EffsAt w' be 0 es->_):=fun w' hb h=>hasEff_calls ae ce es a w' (by rw[Hlen.o.1];have:=HM.o;omega) (fun h0=>⟨be,0,HAe.o.2 h0,hb,h⟩)
       rw[Hlen.o.1]at HP;have HEx:O (EffsAt wr be 0 es):=HE.o.below hbx hbe;have hbeR:be<wr.heap.size:=ya;simp only[nodeHas]at hF hS;clear hNx hil hnd HI;generalize effIn es a=ein at*;have hq:(kd==22)=true\/((kd==22)=false/\(kd==26)=true)\/((kd==22)=false/\(kd==26)=false):=by
        cases (kd==22)<;>cases (kd==26)<;>simp
       rcases hq with k22|⟨k22,k26⟩|⟨k22,k26⟩
       .cases ein
        .have HF:=hF (by rw[k22];simp);clear hF hS;go_wp2_with fail
         refine(HP.o _ jd (HEx.o.below (Lb.alloc La _) hbeR)).mono ?_;rintro e w6 ⟨rfl,hb6⟩;have hx6:=(hbx.alloc hszx _).trans (hb6.mono jd);clear hb6;go_wp2_with fail
         go_ret;exact⟨jj,hx6⟩
        .have HS:=hS yq;clear hF hS;go_wp2_with fail
         refine(HP.o _ jd (HEx.o.below (Lb.alloc La _) hbeR)).mono ?_;rintro e w6 ⟨rfl,hb6⟩;have hx6:=(hbx.alloc hszx _).trans (hb6.mono jd);have kp6:=(hb6.block w.heap.size jd).trans ((Below.heap_alloc _ _ _ hAlt).trans kp);clear hb6;go_wp2_with fail
         have hs:ln-(intOf (int i64 ((k+1:Nat):Int))).toNat<ln-(intOf (int i64 (k:Int))).toNat:=yu;try rw[show wrap64 ((k:Int)+1)=((k+1:Nat):Int) by have:=HM.o;unfold wrap64;omega]
         exact⟨⟨k+1,rfl,ya,HS,kp6,hx6⟩,hs⟩
       .cases ein
        .have HF:=hF (by rw[k26];simp);clear hF hS;go_wp2_with fail
         refine(HP.o _ jd (HEx.o.below (Lb.alloc La _) hbeR)).mono ?_;rintro e w6 ⟨rfl,hb6⟩;have hx6:=(hbx.alloc hszx _).trans (hb6.mono jd);clear hb6;go_wp2_with fail
         go_ret;exact⟨jj,hx6⟩
        .have HS:=hS yq;clear hF hS;go_wp2_with fail
         refine(HP.o _ jd (HEx.o.below (Lb.alloc La _) hbeR)).mono ?_;rintro e w6 ⟨rfl,hb6⟩;have hx6:=(hbx.alloc hszx _).trans (hb6.mono jd);have kp6:=(hb6.block w.heap.size jd).trans ((Below.heap_alloc _ _ _ hAlt).trans kp);clear hb6;go_wp2_with fail
         have hs:ln-(intOf (int i64 ((k+1:Nat):Int))).toNat<ln-(intOf (int i64 (k:Int))).toNat:=yu;try rw[show wrap64 ((k:Int)+1)=((k+1:Nat):Int) by have:=HM.o;unfold wrap64;omega]
         exact⟨⟨k+1,rfl,ya,HS,kp6,hx6⟩,hs⟩
       .have HS:=hS ww;clear hF hS HP;go_wp2_with fail
        have hs:ln-(intOf (int i64 ((k+1:Nat):Int))).toNat<ln-(intOf (int i64 (k:Int))).toNat:=yu;try rw[show wrap64 ((k:Int)+1)=((k+1:Nat):Int) by have:=HM.o;unfold wrap64;omega]
        exact⟨⟨k+1,rfl,ya,HS,(Below.heap_alloc _ _ _ hAlt).trans kp,hbx.alloc hszx _⟩,hs⟩
      .have e:k=ln:=by omega
       have HT:O (R=true):=by
        show R=true;rw[<-HR2.o];have:=HI.o;rwa[List.take_of_length_le (by rw[Hlen.o.2];omega)]at this
       clear HI;go_wp2_with fail
       go_ret;exact⟨by rw[HT.o];rfl,hbx⟩
end
end Go.Proofs.YtbbffkiobmbkfaaGreatDoor
