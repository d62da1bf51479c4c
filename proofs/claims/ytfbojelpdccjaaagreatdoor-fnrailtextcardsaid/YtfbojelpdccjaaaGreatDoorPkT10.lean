import Derived.Test.YtfbojelpdccjaaaGreatDoorPkT6
open Go.Proofs.Tryz
set_option maxHeartbeats 8000000
set_option maxRecDepth 100000
namespace Go.Proofs.YtfbojelpdccjaaaGreatDoor
open Go.RowKit Go.Deep
variable {es:List Ef}{i:Nat}{W:World}
section
open Go.RowKit Go.Deep
section
variable {b off cap:Nat}{ns:List Nd}{F:Nat}
theorem bare_all (ih:ShowC b off cap ns F) {t:Tp}(P:PreB b off ns F t W) :
 Calls prog 45 #[.slice (some ⟨b,off,none⟩) ns.length cap,.int .i64 (t.at_:Int)] W (BareP W (bareZ (F+1) t)):=by
 by_cases k1:t.n.kind=1
 .rw[bare1 k1];exact bare_c1 P k1
 by_cases k2:t.n.kind=2
 .rw[bare2 k2];rcases(P.hs.neat P.hnt).bit k2 with h0|h0
  .rw[h0,if_pos rfl];exact bare_c2 P k2 h0 (Or.inl ⟨rfl,rfl⟩)
  .rw[h0,if_neg yh];exact bare_c2 P k2 h0 (Or.inr ⟨rfl,rfl⟩)
 by_cases k3:t.n.kind=3
 .rw[bare3 k3];exact bare_c3 P k3
 by_cases k4:t.n.kind=4
 .rw[bare4 k4];exact bare_c4 P k4
 by_cases k5:t.n.kind=5
 .rw[bare5 k5];exact bare_c5 P k5
 by_cases k6:t.n.kind=6
 .rw[bare6 k6];exact bare_c6 P ih k6
 by_cases k7:t.n.kind=7
 .rw[bare7 k7];exact bare_c7 P ih k7
 by_cases k8:t.n.kind=8
 .rw[bare8 k8];exact bare_c8 P ih k8
 by_cases k9:t.n.kind=9
 .rw[bare9 k9];exact bare_c9 P ih k9
 by_cases k10:t.n.kind=10
 .rw[bare10 k10];exact bare_c10 P ih k10
 by_cases k11:t.n.kind=11
 .rw[bare11 k11];exact bare_sign P ih k11 yn
 by_cases k12:t.n.kind=12
 .rw[bare12 k12];exact bare_sign P ih k12 yn
 by_cases k13:t.n.kind=13
 .rw[bare13 k13];exact bare_sign P ih k13 yn
 by_cases k14:t.n.kind=14
 .rw[bare14 k14];exact bare_sign P ih k14 yn
 by_cases k15:t.n.kind=15
 .rw[bare15 k15];exact bare_sign P ih k15 yn
 by_cases k19:t.n.kind=19
 .rw[bare19 k19];exact bare_sign P ih k19 yn
 by_cases k16:t.n.kind=16
 .rw[bare16 k16];exact bare_c16 P ih k16
 by_cases k17:t.n.kind=17
 .rw[bare17 k17];exact bare_key P ih k17 yn
 by_cases k18:t.n.kind=18
 .rw[bare18 k18];exact bare_key P ih k18 yn
 by_cases k21:t.n.kind=21
 .rw[bare21 k21];exact bare_key P ih k21 yn
 by_cases k22:t.n.kind=22
 .rw[bare22 k22];exact bare_c22 P ih k22
 by_cases k20:t.n.kind=20
 .rw[bare20 k20];exact bare_c20 P ih k20
 have hh:t.n.kind=23\/t.n.kind=24:=by
  have h1:=(arity_at P.hs.toGood).1;have h3:=P.hx.2;by_cases h4:t.n.kind<1\/26<t.n.kind
  .exact absurd (tab_other h4) h1
  .omega
 rw[bareH hh];rcases hh with e|e
 .exact bare_hand P ih e (Or.inl ⟨rfl,rfl⟩)
 .exact bare_hand P ih e (Or.inr ⟨rfl,rfl⟩)
theorem show_all (hl:ns.length<=300) (hnt:∀m∈ns,Neat m):∀F,ShowC b off cap ns F:=by
 intro F;induction F with
 |zero=>intro t least W hF;have:=t.size_pos;omega
 | succ F ih=>
   intro t least W hF hs hx hb hn;have HBa:=J (bare_all (cap:=cap) ih ⟨hl,hnt,hF,hs,hx,hb,hn⟩);have hbl:=(bare_len hnt (F+1)).2 t hF hs hx;obtain⟨hlt,hat,hsz⟩:=hs.lt;have HC:=J (fun(X:World) (hX:Below W.heap.size W X)=>(hX.cell (p:=⟨b,off+t.at_*6+0,none⟩) hb).trans (hn t.at_ hlt 0 yf));rw[hat]at HC;simp only[Nd.cell,Nat.add_zero]at HC;obtain⟨T,hT⟩:∃T,bareZ (F+1) t=T:=⟨_,rfl⟩
   rw[hT]at HBa hbl;have lt:(tx T).size<=18000:=by rw[z32];omega
   have HSh:I (showZ (F+1) t least=brZ t.n.kind least T):=by show _=_;unfold showZ;rw[hT]
   have hp0:(0:Int)<=(t.at_:Int):=yf;have hpl:(t.at_:Int)<(ns.length:Int):=yf;clear hl hnt ih hF hs hx hb hn hbl hlt hat hsz hT;go_enter func22,ntmps22
   go_wp2_with fail
   refine HBa.o.mono ?_;rintro e X1 ⟨rfl,hb1⟩;have B1:=J hb1;have c0:=HC.o X1 B1.o;clear hb1 HBa;obtain⟨kd,hkd⟩:∃kd,t.n.kind=kd:=⟨_,rfl⟩
   rw[hkd]at c0 HSh;clear hkd;go_wp2_with fail
   refine(level_calls kd X1).mono ?_;rintro e X2 ⟨rfl,rfl⟩;obtain⟨lv,hlv⟩:∃lv,lvZ kd=lv:=⟨_,rfl⟩
   have HLv:=J hlv;rw[hlv];clear hlv c0;by_cases hle:lv<least
   .go_wp2_with fail
    go_ret;refine⟨?_,B1.o⟩;rw[HSh.o];unfold brZ;rw[HLv.o,if_pos hle];simp only[<-z24];rfl
   .go_wp2_with fail
    go_ret;refine⟨?_,B1.o⟩;rw[HSh.o];unfold brZ;rw[HLv.o,if_neg yf];rfl
end
def effOk (es:List Ef) (i:Nat):Bool:=
 nameOk (es.getD i default).name && (!effIn (es.take i) (es.getD i default).name && (decide (1<=(es.getD i default).arg/\(es.getD i default).arg<=4) && decide (1<=(es.getD i default).res/\(es.getD i default).res<=4)))
def nodeHas (es:List Ef) (n:Nd):Bool:=!((n.kind==22 || n.kind==26) && !effIn es n.a)
def progZ (es:List Ef) (ns:List Nd) (T:Bool):Bool:=decide (es.length<=8) && (T && ((List.range es.length).all (effOk es) && ns.all (nodeHas es)))
theorem range_step (h:(List.range i).all (effOk es)=true) (h':effOk es i=true):(List.range (i+1)).all (effOk es)=true:=by
 rw[List.range_succ,List.all_append,h];simpa using h'
theorem range_false (hi:i<es.length) (h:effOk es i=false):(List.range es.length).all (effOk es)=false:=by
 rw[List.all_eq_false];exact⟨i,List.mem_range.2 hi,zn⟩
theorem has_step {ns:List Nd}(hi:i<ns.length) (h:(ns.take i).all (nodeHas es)=true) (hn:nodeHas es (ns.getD i default)=true):(ns.take (i+1)).all (nodeHas es)=true:=by
 rw[List.take_succ_eq_append_getElem hi,List.all_append,h];simp only[List.getD,List.getElem?_eq_getElem hi]at hn;simpa using hn
theorem has_false {ns:List Nd}(hi:i<ns.length) (hn:nodeHas es (ns.getD i default)=false):ns.all (nodeHas es)=false:=by
 rw[List.all_eq_false];simp only[List.getD,List.getElem?_eq_getElem hi]at hn;exact⟨ns[i],List.getElem_mem _,by simpa using hn⟩
theorem effsTake {w:World}{b off:Nat}(h:EffsAt w b off es):EffsAt w b off (es.take i):=fun k hk c hc=>by
 have hk':k<es.length:=by simp at hk;omega
 have hki:k<i:=by simp at hk;omega
 rw[h k hk' c hc];simp[List.getD,hki]
theorem specProgC_calls (be bt ce cn:Nat) (es:List Ef) (ns:List Nd) (T:Bool) (w:World) (hce:es.length<=ce) (hbe:be<w.heap.size) (hbt:bt<w.heap.size) (hE:EffsAt w be 0 es) (hN:NodesAt w bt 0 ns) (me:es.length<=1048576) (mn:ns.length<=1048576) (hTT:∀w':World,bt<w'.heap.size->NodesAt w' bt 0 ns->Calls prog 23 #[.slice (some ⟨bt,0,none⟩) ns.length cn] w' fun e w''=> e=.returned (.bool T)/\Below w'.heap.size w' w'') :
 Calls prog 8 #[.agg #[.slice (some ⟨be,0,none⟩) es.length ce,.slice (some ⟨bt,0,none⟩) ns.length cn]] w fun e w'=> e=.returned (.bool (progZ es ns T))/\Below w.heap.size w w':= by
 have hb1:Below w.heap.size w (w.alloc (.cells #[.slice (some ⟨be,0,none⟩) es.length ce,.slice (some ⟨bt,0,none⟩) ns.length cn] 26)):=Lb.alloc La _;have HT:I (Calls _ _ _ _ _):=hTT (w.alloc (.cells #[.slice (some ⟨be,0,none⟩) es.length ce,.slice (some ⟨bt,0,none⟩) ns.length cn] 26)) (Le hbt hb1.size) (hN.below hb1 hbt);have HB1:I (Below w.heap.size w (w.alloc (.cells #[.slice (some ⟨be,0,none⟩) es.length ce,.slice (some ⟨bt,0,none⟩) ns.length cn] 26))):=hb1
 have HK1:I ((w.alloc (.cells #[.slice (some ⟨be,0,none⟩) es.length ce,.slice (some ⟨bt,0,none⟩) ns.length cn] 26)).heap[w.heap.size]?=some (.cells #[.slice (some ⟨be,0,none⟩) es.length ce,.slice (some ⟨bt,0,none⟩) ns.length cn] 26)):=(Ld w _).1;obtain⟨R,hR⟩:∃R,progZ es ns T=R:=⟨_,rfl⟩
 have HR:I (progZ es ns T=R):=hR;have HE:I (EffsAt w be 0 es):=hE;have HN:I (NodesAt w bt 0 ns):=hN;have HMN:I (ns.length<=1048576):=mn;rw[hR];obtain⟨len,hlen⟩:∃len,es.length=len:=⟨_,rfl⟩
 obtain⟨ln,hln⟩:∃ln,ns.length=ln:=⟨_,rfl⟩
 have Hlen:I (es.length=len/\ns.length=ln):=⟨hlen,hln⟩
 rw[hlen,hln]at HT HB1 HK1 |-;have HCe:I (len<=ce):=je;clear hce;have HM:I (len<=1048576/\ln<=1048576):=ql;clear hb1 hR hE hN me mn hTT hlen hln;by_cases h8:(8:Int)<(len:Int)
 ·have HF:I (R=false):=by
   show R=false;rw[<-HR.o,progZ,Hlen.o.1,decide_eq_false yf,Bool.false_and]
  clear HT HE HN HK1;go_enter func8,ntmps8
  go_wp2_with fail
  go_ret;exact⟨jf,HB1.o⟩
 have h8':(len:Int)<=8:=yf;have HR8:I ((T && ((List.range len).all (effOk es) && ns.all (nodeHas es)))=R):=by
  show _=R;rw[<-HR.o,progZ,Hlen.o.1,decide_eq_true yf,Bool.true_and]
 clear h8;go_enter func8,ntmps8
 go_wp2_with fail
 refine HT.o.mono ?_;rintro e w2 ⟨rfl,hb2⟩;have hbw2:=HB1.o.trans (hb2.mono HB1.o.size);have kp2:=(hb2.block w.heap.size yn).trans HK1.o;clear HT HB1 HK1 hb2
 cases T with
 | false=>
   go_wp2_with fail
   go_ret;exact⟨qm,hbw2⟩
 | true=>
   have HRR:I (((List.range len).all (effOk es) && ns.all (nodeHas es))=R):=HR8.o;clear HR8 HR;go_wp2_with fail
   go_loopw [3] (fun i wr=> ∃i':Nat,i=.int .i64 i'/\i'<=len/\I ((List.range i').all (effOk es)=true)/\wr.heap[w.heap.size]?=some (.cells #[.slice (some ⟨be,0,none⟩) len ce,.slice (some ⟨bt,0,none⟩) ln cn] 26)/\Below w.heap.size w wr) (fun i _=>len-(intOf i).toNat)
   case atStart=>exact⟨0,rfl,Li _,rfl,kp2,hbw2⟩
   case round=>
    obtain⟨i',rfl,hle,HI,kp,hbx⟩:=hrel;have hAlt:=z12 kp;obtain⟨pA,pB⟩:=fcl2 kp;have hEx:=HE.o.below hbx hbe;by_cases hlt:(i':Int)<(len:Int)
    .have hic:(i':Int)<=(ce:Int):=by have:=HCe.o;omega
     have hil:i'<es.length:=by rw[Hlen.o.1];omega
     have c0:=hEx i' hil 0 yf;have c1:=hEx i' hil 1 yf;have c2:=hEx i' hil 2 yf;obtain⟨ef,hef⟩:∃ef,es.getD i' default=ef:=⟨_,rfl⟩
     have hF:effOk es i'= false->I (R=false):=fun h=>by
      show R=false;have:=range_false hil h;rw[Hlen.o.1]at this;rw[<-HRR.o,this,Bool.false_and]
     have hS:effOk es i'= true->I ((List.range (i'+ 1)).all (effOk es)=true):=fun h=>range_step HI.o h
     have hdef:effOk es i'= (nameOk ef.name && (!effIn (es.take i') ef.name && (decide (1<=ef.arg/\ef.arg<=4) && decide (1<=ef.res/\ef.res<=4)))):=by rw[effOk,hef]
     rw[hdef]at hF hS;rw[hef]at c0 c1 c2;simp only[Ef.cell,Nat.add_zero,Nat.zero_add]at c0 c1 c2;have hpl:=effPlace_lt (es.take i') ef.name 0;have htl:(es.take i').length=i':= yk;have HP:I (∀w,EffsAt w be 0 es->_):=fun w h=>l2Eff_calls (some ⟨be,0,none⟩) ce (es.take i') ef.name w (by rw[htl];have:=HM.o;omega) (fun _=>⟨be,0,rfl,effsTake h⟩)
     rw[htl]at HP;have hLn:∀w,_:=fun w=>specName_calls ef.name w
     have hbW:Below w.heap.size w (wr.alloc (.cells #[.string ef.name,.int .i64 ef.arg,.int .i64 ef.res] 45)):=hbx.alloc qn _;have HEW:I (EffsAt (wr.alloc (.cells #[.string ef.name,.int .i64 ef.arg,.int .i64 ef.res] 45)) be 0 es):=HE.o.below hbW hbe;obtain⟨nm,ar,rs⟩:=ef;dsimp only at*;clear hEx hil hdef hef HI HE htl;generalize effPlace (es.take i') nm 0=pl at*;generalize effIn (es.take i') nm=ein at*;go_wp2_with fail
     have u0:(wr.alloc (.cells #[.string nm,.int .i64 ar,.int .i64 rs] 45)).cell? ⟨wr.heap.size,0,none⟩=some (.string nm):=yc;have u1:(wr.alloc (.cells #[.string nm,.int .i64 ar,.int .i64 rs] 45)).cell? ⟨wr.heap.size,1,none⟩=some (.int .i64 ar):=yc;have u2:(wr.alloc (.cells #[.string nm,.int .i64 ar,.int .i64 rs] 45)).cell? ⟨wr.heap.size,2,none⟩=some (.int .i64 rs):=yc;have kpW:=(Below.heap_alloc wr (.cells #[.string nm,.int .i64 ar,.int .i64 rs] 45) _ hAlt).trans kp;have uA:=z8 kpW 0;simp at uA
     have hEW:wr.heap.size<(wr.alloc (.cells #[.string nm,.int .i64 ar,.int .i64 rs] 45)).heap.size:=yn;have hAW:w.heap.size<(wr.alloc (.cells #[.string nm,.int .i64 ar,.int .i64 rs] 45)).heap.size:=yk;have hbeW:be<(wr.alloc (.cells #[.string nm,.int .i64 ar,.int .i64 rs] 45)).heap.size:=yk;generalize (wr.alloc (.cells #[.string nm,.int .i64 ar,.int .i64 rs] 45))=W at*;have HED:I (EffsAt W be 0 es):=HEW.o;have v0:∀x:Later W.heap.size W,x.w.cell? ⟨wr.heap.size,0,none⟩=some (.string nm):=fun x=>x.cell hEW u0
     have v1:∀x:Later W.heap.size W,x.w.cell? ⟨wr.heap.size,1,none⟩=some (.int .i64 ar):=fun x=>x.cell hEW u1
     have v2:∀x:Later W.heap.size W,x.w.cell? ⟨wr.heap.size,2,none⟩=some (.int .i64 rs):=fun x=>x.cell hEW u2
     have vA:∀x:Later W.heap.size W,x.w.cell? ⟨w.heap.size,0,none⟩=some (.slice (some ⟨be,0,none⟩) len ce):=fun x=>x.cell hAW uA
     clear c0 c1 c2 pA pB kp HEW
     cases hno:nameOk nm with
     | false=>
       have HF:=hF (by rw[hno];rfl);rw[hno]at hLn;have HL:I (∀w,_):=hLn;clear hF hS hLn hpl;refine z20 W.heap.size yb yb ?_;repeat(go_big_quiet_step (first
        |(rename_i x;go_at_call 24;refine(HL.o _).mono ?_;rintro e w5 ⟨rfl,hb5⟩;exact⟨rfl,⟨w5,x.h.trans (hb5.mono x.h.size)⟩,rfl⟩)
        |(rename_i x;go_at_call 25;refine(HP.o _ (HED.o.below x.h hbeW)).mono ?_;rintro e w6 ⟨rfl,rfl⟩;exact⟨rfl,x,rfl⟩)))
       refine wpQuiet_nil ?_;rintro w5 ⟨x,rfl⟩;all_goals
        have hx:=hbW.trans (x.h.mono hbW.size);clear u0 u1 u2 uA v0 v1 v2 vA;go_wp2_with fail
        go_ret;exact⟨jf,hx⟩
     | true=>
       rw[hno]at hLn;have HL:I (∀w,_):=hLn;rw[hno]at hF hS;clear hLn;by_cases hp0:0<=pl
       ·have hei:ein=true:=by
         cases hx:ein with
         |true=>rfl
         |false=>have:=hpl.2 hx;omega
        have HF:=hF (by rw[hei];rfl);clear hF hS hpl hei;refine z20 W.heap.size yb yb ?_;repeat(go_big_quiet_step (first
         |(rename_i x;go_at_call 24;refine(HL.o _).mono ?_;rintro e w5 ⟨rfl,hb5⟩;exact⟨rfl,⟨w5,x.h.trans (hb5.mono x.h.size)⟩,rfl⟩)
         |(rename_i x;go_at_call 25;refine(HP.o _ (HED.o.below x.h hbeW)).mono ?_;rintro e w6 ⟨rfl,rfl⟩;exact⟨rfl,x,rfl⟩)))
        refine wpQuiet_nil ?_;rintro w5 ⟨x,rfl⟩;all_goals
         have hx:=hbW.trans (x.h.mono hbW.size);clear u0 u1 u2 uA v0 v1 v2 vA;go_wp2_with fail
         go_ret;exact⟨jf,hx⟩
       .have hei:ein=false:=hpl.1 yf;have hp0:pl<0:=yf;rw[hei]at hF hS;clear hpl hei;by_cases g1:ar<1
        ·have HF:=hF qo;clear hF hS;refine z20 W.heap.size yb yb ?_;repeat(go_big_quiet_step (first
          |(rename_i x;go_at_call 24;refine(HL.o _).mono ?_;rintro e w5 ⟨rfl,hb5⟩;exact⟨rfl,⟨w5,x.h.trans (hb5.mono x.h.size)⟩,rfl⟩)
          |(rename_i x;go_at_call 25;refine(HP.o _ (HED.o.below x.h hbeW)).mono ?_;rintro e w6 ⟨rfl,rfl⟩;exact⟨rfl,x,rfl⟩)))
         refine wpQuiet_nil ?_;rintro w5 ⟨x,rfl⟩;all_goals
          have hx:=hbW.trans (x.h.mono hbW.size);clear u0 u1 u2 uA v0 v1 v2 vA;go_wp2_with fail
          go_ret;exact⟨jf,hx⟩
        .have g1:1<=ar:=by omega
         by_cases g2:4<ar
         ·have HF:=hF qo;clear hF hS;refine z20 W.heap.size yb yb ?_;repeat(go_big_quiet_step (first
           |(rename_i x;go_at_call 24;refine(HL.o _).mono ?_;rintro e w5 ⟨rfl,hb5⟩;exact⟨rfl,⟨w5,x.h.trans (hb5.mono x.h.size)⟩,rfl⟩)
           |(rename_i x;go_at_call 25;refine(HP.o _ (HED.o.below x.h hbeW)).mono ?_;rintro e w6 ⟨rfl,rfl⟩;exact⟨rfl,x,rfl⟩)))
          refine wpQuiet_nil ?_;rintro w5 ⟨x,rfl⟩;all_goals
           have hx:=hbW.trans (x.h.mono hbW.size);clear u0 u1 u2 uA v0 v1 v2 vA;go_wp2_with fail
           go_ret;exact⟨jf,hx⟩
         .have g2:ar<=4:=by omega
          by_cases g3:rs<1
          ·have HF:=hF qq;clear hF hS;refine z20 W.heap.size yb yb ?_;repeat(go_big_quiet_step (first
            |(rename_i x;go_at_call 24;refine(HL.o _).mono ?_;rintro e w5 ⟨rfl,hb5⟩;exact⟨rfl,⟨w5,x.h.trans (hb5.mono x.h.size)⟩,rfl⟩)
            |(rename_i x;go_at_call 25;refine(HP.o _ (HED.o.below x.h hbeW)).mono ?_;rintro e w6 ⟨rfl,rfl⟩;exact⟨rfl,x,rfl⟩)))
           refine wpQuiet_nil ?_;rintro w5 ⟨x,rfl⟩;all_goals
            have hx:=hbW.trans (x.h.mono hbW.size);clear u0 u1 u2 uA v0 v1 v2 vA;go_wp2_with fail
            go_ret;exact⟨jf,hx⟩
          .have g3:1<=rs:=by omega
           by_cases g4:4<rs
           ·have HF:=hF qq;clear hF hS;refine z20 W.heap.size yb yb ?_;repeat(go_big_quiet_step (first
             |(rename_i x;go_at_call 24;refine(HL.o _).mono ?_;rintro e w5 ⟨rfl,hb5⟩;exact⟨rfl,⟨w5,x.h.trans (hb5.mono x.h.size)⟩,rfl⟩)
             |(rename_i x;go_at_call 25;refine(HP.o _ (HED.o.below x.h hbeW)).mono ?_;rintro e w6 ⟨rfl,rfl⟩;exact⟨rfl,x,rfl⟩)))
            refine wpQuiet_nil ?_;rintro w5 ⟨x,rfl⟩;all_goals
             have hx:=hbW.trans (x.h.mono hbW.size);clear u0 u1 u2 uA v0 v1 v2 vA;go_wp2_with fail
             go_ret;exact⟨jf,hx⟩
           .have g4:rs<=4:=by omega
            have HS:=hS (by rw[decide_eq_true (show 1<=ar/\ar<=4 from⟨g1,g2⟩),decide_eq_true (show 1<=rs/\rs<=4 from⟨g3,g4⟩)];rfl);clear hF hS;refine z20 W.heap.size yb yb ?_;repeat(go_big_quiet_step (first
             |(rename_i x;go_at_call 24;refine(HL.o _).mono ?_;rintro e w5 ⟨rfl,hb5⟩;exact⟨rfl,⟨w5,x.h.trans (hb5.mono x.h.size)⟩,rfl⟩)
             |(rename_i x;go_at_call 25;refine(HP.o _ (HED.o.below x.h hbeW)).mono ?_;rintro e w6 ⟨rfl,rfl⟩;exact⟨rfl,x,rfl⟩)))
            refine wpQuiet_nil ?_;rintro w5 ⟨x,rfl⟩;all_goals
             have hx:=hbW.trans (x.h.mono hbW.size);have kp5:=(x.h.block w.heap.size hAW).trans kpW;clear u0 u1 u2 uA v0 v1 v2 vA;go_wp2_with fail
             have hs:len-(intOf (.int .i64 ((i'+ 1:Nat):Int))).toNat<len-(intOf (.int .i64 (i':Int))).toNat:=yl;try rw[show wrap64 ((i':Int)+1)=((i'+ 1:Nat):Int) by have:=HM.o;unfold wrap64;omega]
             exact⟨⟨i'+ 1,rfl,yf,HS,kp5,hx⟩,hs⟩
    .have e:i'= len:=by omega
     subst e;have HR2:I (ns.all (nodeHas es)=R):=by
      show _=R;rw[<-HRR.o,HI.o,Bool.true_and]
     clear HRR HI hEx;go_wp2_with fail
     clear pA pB;go_loopw [5] (fun j wr=> ∃k:Nat,j=.int .i64 k/\k<=ln/\I ((ns.take k).all (nodeHas es)=true)/\wr.heap[w.heap.size]?=some (.cells #[.slice (some ⟨be,0,none⟩) i' ce,.slice (some ⟨bt,0,none⟩) ln cn] 26)/\Below w.heap.size w wr) (fun j _=>ln-(intOf j).toNat)
     case atStart=>exact⟨0,rfl,Li _,rfl,kp,hbx⟩
     case round=>
      clear kp hbx hAlt;obtain⟨k,rfl,hk,HI,kp,hbx⟩:=hrel;have hAlt:=z12 kp;obtain⟨pA,pB⟩:=fcl2 kp;by_cases hlt:(k:Int)<(ln:Int)
      .have hil:k<ns.length:=by rw[Hlen.o.2];omega
       have hNx:=HN.o.below hbx hbt;obtain⟨c0,c1,c2,c3,c4,c5⟩:=fsx (hNx k hil);obtain⟨nd,hnd⟩:∃nd,ns.getD k default=nd:=⟨_,rfl⟩
       have hF:nodeHas es nd=false->I (R=false):=fun h=>by
        show R=false;rw[<-HR2.o];exact has_false hil zi
       have hS:nodeHas es nd=true->I ((ns.take (k+1)).all (nodeHas es)=true):=fun h=>has_step hil HI.o zi
       rw[hnd]at c0 c1 c2 c3 c4 c5;simp only[Nd.cell,Nat.add_zero,Nat.zero_add]at c0 c1 c2 c3 c4 c5;obtain⟨kd,num,a,bb,cc,kids⟩:=nd;dsimp only at*;have hpl:=effPlace_lt es a 0;have hszx:=hbx.size;have HP:I (∀w',EffsAt w' be 0 es->_):=fun w' h=>l2Eff_calls (some ⟨be,0,none⟩) ce es a w' (by rw[Hlen.o.1];have:=HM.o;omega) (fun _=>⟨be,0,rfl,h⟩)
       rw[Hlen.o.1]at HP;have HEx:I (EffsAt wr be 0 es):=HE.o.below hbx hbe;have hbeR:be<wr.heap.size:=yf;simp only[nodeHas]at hF hS;clear hNx hil hnd HI;generalize effPlace es a 0=pl at*;generalize effIn es a=ein at*;have hq:(kd==22)=true\/((kd==22)=false/\(kd==26)=true)\/((kd==22)=false/\(kd==26)=false):=by
        cases (kd==22)<;>cases (kd==26)<;>simp
       rcases hq with k22|⟨k22,k26⟩|⟨k22,k26⟩
       .by_cases hp:pl<0
        .have hei:ein=false:=hpl.1 hp;have HF:=hF (by rw[hei,k22];rfl);clear hF hS hpl;go_wp2_with fail
         refine(HP.o _ (HEx.o.below (Lb.alloc La _) hbeR)).mono ?_;rintro e w6 ⟨rfl,rfl⟩;go_wp2_with fail
         go_ret;exact⟨jf,hbx.alloc hszx _⟩
        ·have hei:ein=true:=by
          cases hx:ein with
          |true=>rfl
          |false=>exact absurd (hpl.2 hx) hp
         have HS:=hS qr;clear hF hS hpl;go_wp2_with fail
         refine(HP.o _ (HEx.o.below (Lb.alloc La _) hbeR)).mono ?_;rintro e w6 ⟨rfl,rfl⟩;go_wp2_with fail
         have hs:ln-(intOf (.int .i64 ((k+1:Nat):Int))).toNat<ln-(intOf (.int .i64 (k:Int))).toNat:=yl;try rw[show wrap64 ((k:Int)+1)=((k+1:Nat):Int) by have:=HM.o;unfold wrap64;omega]
         exact⟨⟨k+1,rfl,yf,HS,(Below.heap_alloc _ _ _ hAlt).trans kp,hbx.alloc hszx _⟩,hs⟩
       .by_cases hp:pl<0
        .have hei:ein=false:=hpl.1 hp;have HF:=hF (by rw[hei,k26];simp);clear hF hS hpl;go_wp2_with fail
         refine(HP.o _ (HEx.o.below (Lb.alloc La _) hbeR)).mono ?_;rintro e w6 ⟨rfl,rfl⟩;go_wp2_with fail
         go_ret;exact⟨jf,hbx.alloc hszx _⟩
        ·have hei:ein=true:=by
          cases hx:ein with
          |true=>rfl
          |false=>exact absurd (hpl.2 hx) hp
         have HS:=hS qr;clear hF hS hpl;go_wp2_with fail
         refine(HP.o _ (HEx.o.below (Lb.alloc La _) hbeR)).mono ?_;rintro e w6 ⟨rfl,rfl⟩;go_wp2_with fail
         have hs:ln-(intOf (.int .i64 ((k+1:Nat):Int))).toNat<ln-(intOf (.int .i64 (k:Int))).toNat:=yl;try rw[show wrap64 ((k:Int)+1)=((k+1:Nat):Int) by have:=HM.o;unfold wrap64;omega]
         exact⟨⟨k+1,rfl,yf,HS,(Below.heap_alloc _ _ _ hAlt).trans kp,hbx.alloc hszx _⟩,hs⟩
       .have HS:=hS qs;clear hF hS hpl HP;go_wp2_with fail
        have hs:ln-(intOf (.int .i64 ((k+1:Nat):Int))).toNat<ln-(intOf (.int .i64 (k:Int))).toNat:=yl;try rw[show wrap64 ((k:Int)+1)=((k+1:Nat):Int) by have:=HM.o;unfold wrap64;omega]
        exact⟨⟨k+1,rfl,yf,HS,(Below.heap_alloc _ _ _ hAlt).trans kp,hbx.alloc hszx _⟩,hs⟩
      .have e:k=ln:=by omega
       have HT:I (R=true):=by
        show R=true;rw[<-HR2.o];have:=HI.o;rwa[List.take_of_length_le (by rw[Hlen.o.2];omega)]at this
       clear HI;go_wp2_with fail
       go_ret;exact⟨by rw[HT.o];rfl,hbx⟩
end
section
open Go.RowKit
theorem own_some (k num:Int) (a b c:ByteArray) (kids:Int) (w:World) (hK:kidsOk k kids=true) (ar:Int) (har:arityZ k=ar) (h0:0<=ar) (h3:ar<=3) (hne:(kids !=ar)=false) :
 Calls prog 47 #[.agg #[.int .i64 k,.int .i64 num,.string a,.string b,.string c,.int .i64 kids]] w fun e w'=> e=.returned (.bool (ownOk ⟨k,num,a,b,c,kids⟩))/\Below w.heap.size w w':= by
 have HN:I (∀w,_):=names_calls k;have hac:=arity_calls k;rw[har]at hac;have HC:I (∀w,_):=hac;have hm1:(ar== -1)=false:=jh;have hm2:(ar== -2)=false:=jh;clear hac har;go_enter func47,ntmps47
 go_wp2_with (first|(go_at_call 86;refine(HC.o _).mono ?_;rintro e w2 ⟨rfl,rfl⟩))
 go_loopw [5] (fun i wr=> ∃j:Nat,i=.int .i64 j/\j<=3/\I (∀i,i<j->fit (namesZ k) i (Nd.nm ⟨k,num,a,b,c,kids⟩ i)=true)/\wr.heap[w.heap.size]?=some (.cells #[.int .i64 k,.int .i64 num,.string a,.string b,.string c,.int .i64 kids] 60)/\wr.heap[w.heap.size+1]?=some (.cells #[.string a,.string b,.string c] 9)/\Below w.heap.size w wr) (fun i _=>3-(intOf i).toNat)
 case atStart=>
  have e1:=(Ld w (.cells #[.int .i64 k,.int .i64 num,.string a,.string b,.string c,.int .i64 kids] 60)).1;refine⟨0,rfl,yf,fun i hi=>yf,?_,?_,(Lb.alloc La _).alloc yn _⟩
  .rw[Below.heap_alloc _ _ _ yn];exact e1
  .have:=(Ld (w.alloc (.cells #[.int .i64 k,.int .i64 num,.string a,.string b,.string c,.int .i64 kids] 60)) (.cells #[.string a,.string b,.string c] 9)).1;simpa using this
 case round=>
  obtain⟨j,rfl,hj3,HA,eA,eN,hnx⟩:=hrel;have a0:=z8 eA 0;simp at a0;have hltA:=z12 eA;have hltN:=z12 eN;by_cases hj:j<3
  ·have cN:wr.cell? ⟨w.heap.size+1,j,none⟩=some (.string (Nd.nm ⟨k,num,a,b,c,kids⟩ j)):=by
    rw[z8 eN j];match j,hj with
    |0,_=>rfl
    |1,_=>rfl
    |2,_=>rfl
   have step:fit (namesZ k) j (Nd.nm ⟨k,num,a,b,c,kids⟩ j)=true->I (∀i,i<j+1->fit (namesZ k) i (Nd.nm ⟨k,num,a,b,c,kids⟩ i)=true):=fun h i hi=>by
    by_cases e:i=j
    .rw[e];exact h
    .exact HA.o i yf
   have fin:fit (namesZ k) j (Nd.nm ⟨k,num,a,b,c,kids⟩ j)=false->I (ownOk ⟨k,num,a,b,c,kids⟩=false):=fun h=>by
    show ownOk _=false;have:=fit_none (n:=⟨k,num,a,b,c,kids⟩) hj h;simp[ownOk,this]
   have hLn:=specName_calls (Nd.nm ⟨k,num,a,b,c,kids⟩ j);have hem:= @empty_name (Nd.nm ⟨k,num,a,b,c,kids⟩ j);unfold fit at step fin;generalize Nd.nm ⟨k,num,a,b,c,kids⟩ j=s at*;generalize hnm:namesZ k=nm at*;have eA':I (wr.heap[w.heap.size]?=some (.cells #[.int .i64 k,.int .i64 num,.string a,.string b,.string c,.int .i64 kids] 60)):=eA;have eN':I (wr.heap[w.heap.size+1]?=some (.cells #[.string a,.string b,.string c] 9)):=eN;have hi3:(j:Int)<3:=yf;have htf:(true !=false)=true:=rfl;have hft:(false !=true)=true:=rfl;clear HA eA eN hnm;by_cases hjn:(j:Int)<nm
   .rw[if_pos hjn]at step fin
    cases he:(s.toList== []) with
    | true=>
      have HF:=fin (hem he);have HL:I (∀w,_):=hLn;clear hem step fin hLn;go_wp2_with fail
      go_quiet (first|(go_at_call 87;refine Calls.quiet_of_same ((HN.o _).mono (fun _ _ h=>⟨h.1,h.2.symm⟩))))
      go_wp2_with fail
      go_ret;exact⟨jf,z38 hnx _⟩
    | false=>
      cases hn:nameOk s with
      | true=>
        have HS:=step hn;rw[hn]at hLn;have HL:I (∀w,_):=hLn;clear hem step fin hLn hn;go_wp2_with fail
        go_region_held (fun w'=> w'.cell? ⟨w.heap.size,0,none⟩=some (.int .i64 k)/\w'.cell? ⟨w.heap.size+1,j,none⟩=some (.string s)) (go_keep) (first|(go_at_call 87;refine(HN.o _).mono ?_;rintro e w2 ⟨rfl,rfl⟩)|(go_at_call 24;refine(HL.o _).mono ?_;rintro e w2 ⟨rfl,hb2⟩;have a0':= (hb2.cell (p:=⟨w.heap.size,0,none⟩) hltA).trans a0;have cN':= (hb2.cell (p:=⟨w.heap.size+1,j,none⟩) hltN).trans cN))
        all_goals
         have eA2:=(hb2.block w.heap.size hltA).trans eA'.o;have eN2:=(hb2.block (w.heap.size+1) hltN).trans eN'.o;have hnx2:=hnx.drew.trans (hb2.mono hnx.size);clear hb2 a0 cN a0' cN';go_wp2_with fail
         exact⟨⟨j+1,yn,yf,HS,eA2,eN2,hnx2⟩,zl⟩
      | false=>
        have HF:=fin hn;rw[hn]at hLn;have HL:I (∀w,_):=hLn;clear hem step fin hLn hn;go_wp2_with fail
        go_region_held (fun w'=> w'.cell? ⟨w.heap.size,0,none⟩=some (.int .i64 k)/\w'.cell? ⟨w.heap.size+1,j,none⟩=some (.string s)) (go_keep) (first|(go_at_call 87;refine(HN.o _).mono ?_;rintro e w2 ⟨rfl,rfl⟩)|(go_at_call 24;refine(HL.o _).mono ?_;rintro e w2 ⟨rfl,hb2⟩;have a0':= (hb2.cell (p:=⟨w.heap.size,0,none⟩) hltA).trans a0;have cN':= (hb2.cell (p:=⟨w.heap.size+1,j,none⟩) hltN).trans cN))
        all_goals
         have hnx2:=hnx.drew.trans (hb2.mono hnx.size);clear hb2 a0 cN a0' cN';go_wp2_with fail
         go_ret;exact⟨jf,hnx2⟩
   .rw[if_neg hjn]at step fin;have hjd:decide ((j:Int)<nm)=false:=decide_eq_false hjn;have HL:I (∀w,_):=hLn
    cases he:(s.toList== []) with
    | true=>
      have HS:=step he;clear hem step fin hLn;go_wp2_with fail
      go_quiet (first|(go_at_call 87;refine Calls.quiet_of_same ((HN.o _).mono (fun _ _ h=>⟨h.1,h.2.symm⟩))))
      go_wp2_with fail
      exact⟨⟨j+1,yn,yf,HS,eA'.o,eN'.o,z38 hnx _⟩,zl⟩
    | false=>
      have HF:=fin he;clear hem step fin hLn;go_wp2_with fail
      go_quiet (first|(go_at_call 87;refine Calls.quiet_of_same ((HN.o _).mono (fun _ _ h=>⟨h.1,h.2.symm⟩))))
      go_wp2_with fail
      go_ret;exact⟨jf,z38 hnx _⟩
  .have hnames:namesOk ⟨k,num,a,b,c,kids⟩=true:=fit_all (fun i hi=>HA.o i yf);have hO:ownOk ⟨k,num,a,b,c,kids⟩=(!(k==20 && a.toList==b.toList) && numOk k num):=by simp[ownOk,hK,hnames,unlike]
   have a1:=z8 eA 1;have a2:=z8 eA 2;have a3:=z8 eA 3;simp at a1 a2 a3;have hnc:= @names_case k;have hm0:= @most_other k;clear HA eA eN hnames;generalize namesZ k=nm at*;by_cases h20:k=20
   .subst h20;have hnm1:1<nm:=hnc rfl
    cases hab:(a.toList==b.toList) with
    | true=>
      have HO:I (ownOk ⟨20,num,a,b,c,kids⟩=false):=ji;clear hO hnc hm0;go_wp2_with (first|(go_at_call 87;refine(HN.o _).mono ?_;rintro e w2 ⟨rfl,rfl⟩))
      go_ret;exact⟨jd,hnx⟩
    | false=>
      have HO:I (ownOk ⟨20,num,a,b,c,kids⟩=(num==0)):=by
       show _=_;rw[hO,hab,numOk,hm0 yf yf,Bool.eq_iff_iff];simp;omega
      clear hO hnc hm0;go_wp2_with (first|(go_at_call 87;refine(HN.o _).mono ?_;rintro e w2 ⟨rfl,rfl⟩))
      go_ret;exact⟨jd,hnx⟩
   .have h20':(k==20)=false:=by rw[beq_eq_false_iff_ne];exact h20
    rw[h20',Bool.false_and,Bool.not_false,Bool.true_and]at hO;clear hnc h20;by_cases h1:k=1
    .subst h1;by_cases hn0:0<=num
     ·have HO:I (ownOk ⟨1,num,a,b,c,kids⟩=decide (num<=999999999)):=by
       exact hO.trans (num_one hn0)
      clear hO hm0 h20';go_wp2_with (first|(go_at_call 87;refine(HN.o _).mono ?_;rintro e w2 ⟨rfl,rfl⟩))
      all_goals
       go_ret;exact⟨jd,hnx⟩
     ·have HO:I (ownOk ⟨1,num,a,b,c,kids⟩=false):=by
       exact hO.trans (num_one_neg hn0)
      clear hO hm0 h20';go_wp2_with (first|(go_at_call 87;refine(HN.o _).mono ?_;rintro e w2 ⟨rfl,rfl⟩))
      all_goals
       go_ret;exact⟨jd,hnx⟩
    .by_cases h2:k=2
     .subst h2;by_cases hn0:num=0
      .have hn0':(num==0)=true:=by rw[hn0];rfl
       have HO:I (ownOk ⟨2,num,a,b,c,kids⟩=true):=by
        show _=_;rw[hO,numOk,most_two];simp;omega
       clear hO hm0 h20' hn0;go_wp2_with (first|(go_at_call 87;refine(HN.o _).mono ?_;rintro e w2 ⟨rfl,rfl⟩))
       all_goals
        go_ret;exact⟨jd,hnx⟩
      .have hn0':(num==0)=false:=by rw[beq_eq_false_iff_ne];exact hn0
       have HO:I (ownOk ⟨2,num,a,b,c,kids⟩=(num==1)):=by
        show _=_;rw[hO,numOk,most_two,Bool.eq_iff_iff];simp;omega
       clear hO hm0 h20' hn0;go_wp2_with (first|(go_at_call 87;refine(HN.o _).mono ?_;rintro e w2 ⟨rfl,rfl⟩))
       all_goals
        go_ret;exact⟨jd,hnx⟩
     ·have HO:I (ownOk ⟨k,num,a,b,c,kids⟩=(num==0)):=by
       exact hO.trans (num_zero (hm0 h1 h2))
      have h1':(k==1)=false:=by rw[beq_eq_false_iff_ne];exact h1
      have h2':(k==2)=false:=by rw[beq_eq_false_iff_ne];exact h2
      clear hO hm0 h1 h2;go_wp2_with (first|(go_at_call 87;refine(HN.o _).mono ?_;rintro e w2 ⟨rfl,rfl⟩))
      all_goals
       go_ret;exact⟨jd,hnx⟩
theorem own_calls (n:Nd) (w:World) :
 Calls prog 47 #[.agg #[.int .i64 n.kind,.int .i64 n.num,.string n.a,.string n.b,.string n.c,.int .i64 n.kids]] w fun e w'=> e=.returned (.bool (ownOk n))/\Below w.heap.size w w':= by
 obtain⟨k,num,a,b,c,kids⟩:=n;dsimp only;have har:=arity_range k;have hac:=arity_calls k
 cases hK:kidsOk k kids with
 | false=>
   have hO:I (ownOk ⟨k,num,a,b,c,kids⟩=false):=by
    show ownOk _=false;simp[ownOk,hK]
   unfold kidsOk at hK;generalize arityZ k=ar at*;have HC:I (∀w,_):=hac;clear hac;rcases har with rfl|rfl|⟨h0,h3⟩
   .clear hK;go_enter func47,ntmps47
    go_wp2_with (first|(go_at_call 86;refine(HC.o _).mono ?_;rintro e w2 ⟨rfl,rfl⟩))
    go_ret;exact⟨qt,Lb.alloc La _⟩
   .rw[if_neg yf,if_pos rfl]at hK;simp at hK;by_cases h2:kids<2
    .clear hK;go_enter func47,ntmps47
     go_wp2_with (first|(go_at_call 86;refine(HC.o _).mono ?_;rintro e w2 ⟨rfl,rfl⟩))
     go_ret;exact⟨qt,Lb.alloc La _⟩
    .have h6:6<kids:=hK yf;clear hK;go_enter func47,ntmps47
     go_wp2_with (first|(go_at_call 86;refine(HC.o _).mono ?_;rintro e w2 ⟨rfl,rfl⟩))
     go_ret;exact⟨qt,Lb.alloc La _⟩
   .rw[if_neg yf,if_neg yf]at hK;have hne:(kids !=ar)=true:=by simpa using hK
    have hm1:(ar== -1)=false:=jh;clear hK;go_enter func47,ntmps47
    go_wp2_with (first|(go_at_call 86;refine(HC.o _).mono ?_;rintro e w2 ⟨rfl,rfl⟩))
    go_ret;exact⟨qt,Lb.alloc La _⟩
 | true=>
   have hK':= hK;unfold kidsOk at hK';rcases har with har|har|⟨h0,h3⟩
   .rw[if_pos har]at hK'
    cases hK'
   .rw[if_neg yf,if_pos har]at hK';simp at hK';exact own_many k num a b c kids w hK har hK'.1 hK'.2
   .rw[if_neg yf,if_neg yf]at hK';exact own_some k num a b c kids w hK _ rfl h0 h3 (by simpa using hK')
end
section
open Go.RowKit Go.Deep
theorem specTree_calls (b off cap:Nat) (ns:List Nd) (w:World) (R:Bool) (hm:ns.length<=1048576) (hbw:b<w.heap.size) (hn:NodesAt w b off ns) (hA:SpecAns ns R) :
 Calls prog 23 #[.slice (some ⟨b,off,none⟩) ns.length cap] w fun e w'=> e=.returned (.bool R)/\Below w.heap.size w w':= by
 by_cases hl:1<=ns.length/\ns.length<=300
 .have hrest:=hA.rest hl;obtain⟨len,hlen⟩:∃len,ns.length=len:=⟨_,rfl⟩
  have Hlen:I (ns.length=len):=hlen;have HR:I (Rest ns R ownOk (fun n k=>specTree n k 0)):=hrest;have HN:I (NodesAt w b off ns):=hn;have HL:I (1<=len/\len<=300):=ql;have h1:(1:Int)<=(len:Int):=yf;have h2:(len:Int)<=300:=yf;rw[hlen];clear hrest hn hA hl hm hlen;go_enter func23,ntmps23
  go_wp2_with fail
  clear h1 h2;go_loopw [3] (fun i wr=> ∃i':Nat,i=.int .i64 i'/\i'<=len/\I ((ns.take i').all ownOk=true)/\Below w.heap.size w wr) (fun i _=>len-(intOf i).toNat)
  case atStart=>exact⟨0,rfl,Li _,rfl,Lb⟩
  case round=>
   obtain⟨i',rfl,hle,HT,hbx⟩:=hrel;have hnx:=HN.o.below hbx hbw;by_cases hlt:(i':Int)<(len:Int)
   .have hil:i'<ns.length:=by rw[Hlen.o];omega
    obtain⟨c0,c1,c2,c3,c4,c5⟩:=fsx (hnx i' hil);obtain⟨n,hnn⟩:∃n,ns.getD i' default=n:=⟨_,rfl⟩
    have hF:ownOk n=false->I (R=false):=fun h=>HR.o.1 (all_false hil qu)
    have hT:ownOk n=true->I ((ns.take (i'+ 1)).all ownOk=true):=fun h=>all_take_succ hil HT.o qu
    rw[hnn]at c0 c1 c2 c3 c4 c5;simp only[Nd.cell,Nat.add_zero]at c0 c1 c2 c3 c4 c5;have HO:I (∀w,_):=own_calls n;clear hnx hil hnn HT;obtain⟨kd,num,a,bb,cc,kids⟩:=n;dsimp only at*;go_wp2_with fail
    refine(HO.o _).mono ?_;rintro e w2 ⟨rfl,hb2⟩;have hb3:=hbx.trans (hb2.mono hbx.size);clear c0 c1 c2 c3 c4 c5 hb2 HO
    cases ho:ownOk ⟨kd,num,a,bb,cc,kids⟩ with
    | false=>
      have HF:=hF ho;clear hF hT;go_wp2_with fail
      go_ret;exact⟨jf,hb3⟩
    | true=>
      have HT:=hT ho;clear hF hT;go_wp2_with fail
      have hs:=z47 hlt;try rw[z18 zy]
      exact⟨⟨i'+ 1,rfl,yf,HT,hb3⟩,hs⟩
   .have e:i'= len:=by omega
    subst e;have hall:ns.all ownOk=true:=by
     have:=HT.o;rwa[List.take_of_length_le (by rw[Hlen.o];exact La)]at this
    have HX:I (∀w,NodesAt w b off ns->_):=fun w h=>z59 b off cap ns 0 w h qv
    rw[Hlen.o]at HX;rcases HR.o.2 hall with ⟨hne,hR⟩|⟨n,k,g1,g2,g3,g4,hR⟩
    .have hne':(treeEnd ns 0==(i':Int))=false:=by rw[beq_eq_false_iff_ne];rw[Hlen.o]at hne;exact hne
     clear HT hall hne;generalize treeEnd ns 0=te at*;subst hR;go_wp2_with fail
     refine(HX.o wr hnx).mono ?_;rintro e w2 ⟨rfl,rfl⟩;go_wp2_with fail
     go_ret;exact⟨rfl,hbx⟩
    .have hdr:ns.drop 0=n::(k.flat++ []):=by rw[g1];simp
     have HD:I (∀w,NodesAt w b off ns->_):=fun w h=>deep_calls b off cap ns qv (k.flat.length+1) n k [] 0 w h hdr g2 g3 (Nat.lt_succ_self _)
     have HC:I (∀w,b<w.heap.size->NodesAt w b off ns->_):=fun w hb h=>clauses_calls b off cap ns qv (k.flat.length+1) n k [] 0 0 w yf hb h hdr g2 g3 (Nat.lt_succ_self _)
     rw[Hlen.o]at HD HC;rw[g4,Hlen.o]at HX;have HE:I (R=(specTree n k 0 && decide (k.deep+1<=40))):=hR;have hee:(((i':Int))==(i':Int))=true:=yn;clear HT hall g1 g2 g3 g4 hdr hR HR;generalize k.deep+1=dd at*;go_wp2_with fail
     refine(HX.o wr hnx).mono ?_;rintro e w2 ⟨rfl,rfl⟩;go_wp2_with fail
     refine(HD.o wr hnx).mono ?_;rintro e w2 ⟨rfl,rfl⟩;by_cases hdd:(dd:Int)<=40
     .go_wp2_with fail
      refine(HC.o wr qn hnx).mono ?_;rintro e w2 ⟨rfl,hb2⟩;go_wp2_with fail
      go_ret;refine⟨?_,hbx.trans (hb2.mono hbx.size)⟩;rw[HE.o,decide_eq_true (show dd<=40 by omega),Bool.and_true];rfl
     .go_wp2_with fail
      go_ret;refine⟨?_,hbx⟩;rw[HE.o,decide_eq_false (show ¬ dd<=40 by omega),Bool.and_false];rfl
 ·have hR:R=false:=by
   rcases hA with ⟨_,h⟩|⟨h1,h2,_⟩|⟨h1,h2,_⟩
   .exact h
   .exact absurd ⟨h1,h2⟩ hl
   .exact absurd ⟨h1,h2⟩ hl
  subst hR;have hl':(ns.length:Int)<1\/((1:Int)<=(ns.length:Int)/\(300:Int)<(ns.length:Int)):=yf;clear hA hm hn hl;generalize ns.length=len at*;rcases hl' with h|⟨h,h'⟩
  all_goals
   go_enter func23,ntmps23
   go_wp2_with fail
   go_ret;exact⟨rfl,Lb⟩
theorem specProgN_calls (bt cn:Nat) (ns:List Nd) (T:Bool) (w:World) (hbt:bt<w.heap.size) (hN:NodesAt w bt 0 ns) (mn:ns.length<=1048576) (hTT:∀w':World,bt<w'.heap.size->NodesAt w' bt 0 ns->Calls prog 23 #[.slice (some ⟨bt,0,none⟩) ns.length cn] w' fun e w''=> e=.returned (.bool T)/\Below w'.heap.size w' w'') :
 Calls prog 8 #[.agg #[.slice none 0 0,.slice (some ⟨bt,0,none⟩) ns.length cn]] w fun e w'=> e=.returned (.bool (progZ [] ns T))/\Below w.heap.size w w':= by
 have hb1:Below w.heap.size w (w.alloc (.cells #[.slice none 0 0,.slice (some ⟨bt,0,none⟩) ns.length cn] 26)):=Lb.alloc La _;have HT:I (Calls _ _ _ _ _):=hTT (w.alloc (.cells #[.slice none 0 0,.slice (some ⟨bt,0,none⟩) ns.length cn] 26)) (Le hbt hb1.size) (hN.below hb1 hbt);have HB1:I (Below w.heap.size w (w.alloc (.cells #[.slice none 0 0,.slice (some ⟨bt,0,none⟩) ns.length cn] 26))):=hb1;have HK1:I ((w.alloc (.cells #[.slice none 0 0,.slice (some ⟨bt,0,none⟩) ns.length cn] 26)).heap[w.heap.size]?=some (.cells #[.slice none 0 0,.slice (some ⟨bt,0,none⟩) ns.length cn] 26)):=(Ld w _).1
 obtain⟨R,hR⟩:∃R,progZ [] ns T=R:=⟨_,rfl⟩
 have HR8:I ((T && ns.all (nodeHas []))=R):=by
  show _=R;rw[<-hR];simp[progZ]
 have HN:I (NodesAt w bt 0 ns):=hN;rw[hR];obtain⟨ln,hln⟩:∃ln,ns.length=ln:=⟨_,rfl⟩
 have Hlen:I (ns.length=ln):=hln;rw[hln]at HT HB1 HK1 |-;have HM:I (ln<=1048576):=je;clear hb1 hR hN mn hTT hln;go_enter func8,ntmps8
 go_wp2_with fail
 refine HT.o.mono ?_;rintro e w2 ⟨rfl,hb2⟩;have hbw2:=HB1.o.trans (hb2.mono HB1.o.size);have kp2:=(hb2.block w.heap.size yn).trans HK1.o;clear HT HB1 HK1 hb2
 cases T with
 | false=>
   go_wp2_with fail
   go_ret;exact⟨qm,hbw2⟩
 | true=>
   have HR2:I (ns.all (nodeHas [])=R):=HR8.o;clear HR8;obtain⟨pA,pB⟩:=fcl2 kp2;go_wp2_with fail
   refine wp_loop_rounds 1 ?_;rw[rounds_succ];go_wp2_with fail
   clear pA pB;go_loopw [5] (fun j wr=> ∃k:Nat,j=.int .i64 k/\k<=ln/\I ((ns.take k).all (nodeHas [])=true)/\wr.heap[w.heap.size]?=some (.cells #[.slice none 0 0,.slice (some ⟨bt,0,none⟩) ln cn] 26)/\Below w.heap.size w wr) (fun j _=>ln-(intOf j).toNat)
   case atStart=>exact⟨0,rfl,Li _,rfl,kp2,hbw2⟩
   case round=>
    clear kp2 hbw2;obtain⟨k,rfl,hk,HI,kp,hbx⟩:=hrel;have hAlt:=z12 kp;obtain⟨pA,pB⟩:=fcl2 kp;by_cases hlt:(k:Int)<(ln:Int)
    .have hil:k<ns.length:=by rw[Hlen.o];omega
     have hNx:=HN.o.below hbx hbt;obtain⟨c0,c1,c2,c3,c4,c5⟩:=fsx (hNx k hil);obtain⟨nd,hnd⟩:∃nd,ns.getD k default=nd:=⟨_,rfl⟩
     have hF:nodeHas [] nd=false->I (R=false):=fun h=>by
      show R=false;rw[<-HR2.o];exact has_false hil zi
     have hS:nodeHas [] nd=true->I ((ns.take (k+1)).all (nodeHas [])=true):=fun h=>has_step hil HI.o zi
     rw[hnd]at c0 c1 c2 c3 c4 c5;simp only[Nd.cell,Nat.add_zero,Nat.zero_add]at c0 c1 c2 c3 c4 c5;obtain⟨kd,num,a,bb,cc,kids⟩:=nd;dsimp only at*;have hpl:=effPlace_lt [] a 0;have hszx:=hbx.size;have HP:I (∀w',_):=fun w'=> l2Eff_calls none 0 [] a w' yn (fun h=>absurd rfl h)
     simp only[nodeHas]at hF hS;clear hNx hil hnd HI;generalize effPlace [] a 0=pl at*;generalize effIn [] a=ein at*;have hq:(kd==22)=true\/((kd==22)=false/\(kd==26)=true)\/((kd==22)=false/\(kd==26)=false):=by
      cases (kd==22)<;>cases (kd==26)<;>simp
     rcases hq with k22|⟨k22,k26⟩|⟨k22,k26⟩
     .by_cases hp:pl<0
      .have hei:ein=false:=hpl.1 hp;have HF:=hF (by rw[hei,k22];rfl);clear hF hS hpl;go_wp2_with fail
       refine(HP.o _).mono ?_;rintro e w6 ⟨rfl,rfl⟩;go_wp2_with fail
       go_ret;exact⟨jf,hbx.alloc hszx _⟩
      ·have hei:ein=true:=by
        cases hx:ein with
        |true=>rfl
        |false=>exact absurd (hpl.2 hx) hp
       have HS:=hS qr;clear hF hS hpl;go_wp2_with fail
       refine(HP.o _).mono ?_;rintro e w6 ⟨rfl,rfl⟩;go_wp2_with fail
       have hs:ln-(intOf (.int .i64 ((k+1:Nat):Int))).toNat<ln-(intOf (.int .i64 (k:Int))).toNat:=yl;try rw[show wrap64 ((k:Int)+1)=((k+1:Nat):Int) by have:=HM.o;unfold wrap64;omega]
       exact⟨⟨k+1,rfl,yf,HS,(Below.heap_alloc _ _ _ hAlt).trans kp,hbx.alloc hszx _⟩,hs⟩
     .by_cases hp:pl<0
      .have hei:ein=false:=hpl.1 hp;have HF:=hF (by rw[hei,k26];simp);clear hF hS hpl;go_wp2_with fail
       refine(HP.o _).mono ?_;rintro e w6 ⟨rfl,rfl⟩;go_wp2_with fail
       go_ret;exact⟨jf,hbx.alloc hszx _⟩
      ·have hei:ein=true:=by
        cases hx:ein with
        |true=>rfl
        |false=>exact absurd (hpl.2 hx) hp
       have HS:=hS qr;clear hF hS hpl;go_wp2_with fail
       refine(HP.o _).mono ?_;rintro e w6 ⟨rfl,rfl⟩;go_wp2_with fail
       have hs:ln-(intOf (.int .i64 ((k+1:Nat):Int))).toNat<ln-(intOf (.int .i64 (k:Int))).toNat:=yl;try rw[show wrap64 ((k:Int)+1)=((k+1:Nat):Int) by have:=HM.o;unfold wrap64;omega]
       exact⟨⟨k+1,rfl,yf,HS,(Below.heap_alloc _ _ _ hAlt).trans kp,hbx.alloc hszx _⟩,hs⟩
     .have HS:=hS qs;clear hF hS hpl HP;go_wp2_with fail
      have hs:ln-(intOf (.int .i64 ((k+1:Nat):Int))).toNat<ln-(intOf (.int .i64 (k:Int))).toNat:=yl;try rw[show wrap64 ((k:Int)+1)=((k+1:Nat):Int) by have:=HM.o;unfold wrap64;omega]
      exact⟨⟨k+1,rfl,yf,HS,(Below.heap_alloc _ _ _ hAlt).trans kp,hbx.alloc hszx _⟩,hs⟩
    .have e:k=ln:=by omega
     have HT:I (R=true):=by
      show R=true;rw[<-HR2.o];have:=HI.o;rwa[List.take_of_length_le jk]at this
     clear HI;go_wp2_with fail
     go_ret;exact⟨by rw[HT.o];rfl,hbx⟩
def EffW (W:World) (ae:Option Addr) (ce:Nat) (es:List Ef):Prop:=(ae=none/\es= []/\ce=0)\/ ∃be,ae=some ⟨be,0,none⟩/\be<W.heap.size/\EffsAt W be 0 es/\es.length<=ce
theorem progOk_at {ae:Option Addr}{ce bt cn:Nat}{ns:List Nd}{T:Bool}(hE:EffW W ae ce es) (hel:es.length<=1000) (hbt:bt<W.heap.size) (hN:NodesAt W bt 0 ns) (hl:ns.length<=300) (hA:SpecAns ns T) :
 Calls prog 8 #[.agg #[.slice ae es.length ce,.slice (some ⟨bt,0,none⟩) ns.length cn]] W fun e W'=> e=.returned (.bool (progZ es ns T))/\Below W.heap.size W W':= by
 rcases hE with ⟨rfl,rfl,rfl⟩|⟨be,rfl,hbe,hEA,hce⟩
 .exact specProgN_calls bt cn ns T W hbt hN yf (fun w' hb hn=>specTree_calls bt 0 cn ns w' T yf hb hn hA)
 .exact specProgC_calls be bt ce cn es ns T W hce hbe hbt hEA hN yf yf (fun w' hb hn=>specTree_calls bt 0 cn ns w' T yf hb hn hA)
theorem EffW.below {W':World}{ae:Option Addr}{ce:Nat}(h:EffW W ae ce es) (hb:Below W.heap.size W W'):EffW W' ae ce es:=by
 rcases h with h|⟨be,e,hbe,hEA,hce⟩
 .exact Or.inl h
 .exact Or.inr ⟨be,e,Le hbe hb.size,hEA.below hb hbe,hce⟩
end
end Go.Proofs.YtfbojelpdccjaaaGreatDoor
