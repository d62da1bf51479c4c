import Derived.Test.YtfbojelpdccjaaaGreatDoorPkT10
open Go.Proofs.Tryz
set_option maxHeartbeats 8000000
set_option maxRecDepth 100000
namespace Go.Proofs.YtfbojelpdccjaaaGreatDoor
open Go.RowKit Go.Deep
variable {es:List Ef}{i:Nat}
section
open Go.RowKit Go.Deep
def baseT (k:Int):List UInt8:=if k=1 then [105,110,116] else if k=2 then [98,111,111,108] else if k=3 then [117,110,105,116] else [108,105,115,116]
def effT (e:Ef):List UInt8:= [101,102,102,101,99,116,32]++e.name.data.toList++ [32,58,32]++baseT e.arg++ [32,61,62,32]++baseT e.res++ [32,59,32]
def effsT (es:List Ef) (i:Nat):List UInt8:=(es.take i).flatMap effT
def progT (es:List Ef) (n:Nd) (k:Fo):List UInt8:=es.flatMap effT++showZ 400 ⟨n,k,0⟩ 0
theorem base_len (k:Int):(baseT k).length<=4:=by
 unfold baseT;repeat' split
 all_goals simp
theorem base_lenX (k:Int):(tx (baseT k)).size<=4:=by rw[z32];exact base_len k
theorem fit_short {nm:Int}{s:ByteArray}(h:fit nm i s=true):s.size<=8:=by
 unfold fit at h;split at h
 .simp only[nameOk,Bool.and_eq_true,decide_eq_true_eq]at h;exact h.1.1.2
 .have h1:s.toList= []:=by simpa using h
  rw[ByteArray.toList_eq]at h1;have h2:=congrArg List.length h1;simp at h2;show s.data.size<=8;rw[h2];exact Li _
theorem neat_own {m:Nd}(h:ownOk m=true):Neat m:=by
 simp only[ownOk,namesOk,Bool.and_eq_true]at h;obtain⟨-,⟨ha,hb,hc⟩,-,hnum⟩:=h;have h2:=of_decide_eq_true hnum;refine⟨fit_short ha,fit_short hb,fit_short hc,fun e=>?_,fun e=>?_⟩
 .rw[e]at h2;have:mostZ 1=999999999:=yh;omega
 .rw[e]at h2;have:mostZ 2=1:=yh;omega
theorem right_of {ns:List Nd}(hA:SpecAns ns true):∃(n:Nd) (k:Fo),ns=n::k.flat/\n.kids=k.count/\k.wf/\ns.length<=300/\Stands ns ⟨n,k,0⟩/\Ex ⟨n,k,0⟩/\ ∀m∈ns,Neat m:=by
 have hA':= hA;rcases hA with ⟨-,h⟩|⟨-,-,-,h⟩|⟨-,hl,n,k,e1,e2,e3,hR⟩
 .cases h
 .cases h
 have hR':= hR.symm;rw[Bool.and_eq_true,Bool.and_eq_true]at hR';obtain⟨ho,-,hs⟩:=hR';unfold specTree at hs;rw[Bool.and_eq_true]at hs;exact⟨n,k,e1,e2,e3,hl,stands_of hA' e1 e2 e3,⟨hs.2,head_none hs.1⟩,fun m hm=>neat_own (List.all_eq_true.1 ho m hm)⟩
theorem base2_calls (k:Int) (h0:1<=k) (h1:k<=4) (W:World):Calls prog 21 #[.int .i64 k] W fun e W'=> e=.returned (.string (tx (baseT k)))/\Below W.heap.size W W':= by
 have h:k=1\/k=2\/k=3\/k=4:=yf;clear h0 h1;have hb (o:Obj):Below W.heap.size W (W.alloc o):=Lb.alloc La _;rcases h with rfl|rfl|rfl|rfl
 all_goals
  go_enter func21,ntmps21
  go_wp2_with fail
  go_ret;exact⟨rfl,hb _⟩
theorem effs_next (h:i<es.length):effsT es (i+1)=effsT es i++effT (es.getD i default):=by
 unfold effsT;rw[List.take_add_one,List.flatMap_append];simp[List.getD,h]
theorem effs_len {es:List Ef}(h:∀i,i<es.length->(es.getD i default).name.size<=8):∀i,i<=es.length->(effsT es i).length<=40*i
 |0,_=>by simp[effsT]
 | i+1,hi=>by
   have ih:=effs_len h i yf;have h1:=name_len (h i yf);have b1:=base_len (es.getD i default).arg;have b2:=base_len (es.getD i default).res;rw[effs_next yf];simp only[effT,List.length_append,List.length_cons,List.length_nil];omega
theorem eff_right (h:effOk es i=true):(es.getD i default).name.size<=8/\1<=(es.getD i default).arg/\(es.getD i default).arg<=4/\1<=(es.getD i default).res/\(es.getD i default).res<=4:=by
 unfold effOk at h;simp only[nameOk,Bool.and_eq_true,decide_eq_true_eq]at h;exact⟨h.1.1.1.2,h.2.2.1.1,h.2.2.1.2,h.2.2.2.1,h.2.2.2.2⟩
def TextP (W:World) (T:List UInt8) (e:Ending) (W':World):Prop:=e=.returned (.string (tx T))/\Below W.heap.size W W'
theorem progText_calls {W:World}{ae:Option Addr}{ce bt cn:Nat}{ns:List Nd}{T:Bool}(hE:EffW W ae ce es) (hel:es.length<=1000) (hbt:bt<W.heap.size) (hN:NodesAt W bt 0 ns) (hl:ns.length<=300) (hA:SpecAns ns T) :
 (progZ es ns T=false->Calls prog 7 #[.agg #[.slice ae es.length ce,.slice (some ⟨bt,0,none⟩) ns.length cn]] W (TextP W []))/\
 (progZ es ns T=true-> ∀n k,ns=n::k.flat->n.kids=k.count->k.wf->Calls prog 7 #[.agg #[.slice ae es.length ce,.slice (some ⟨bt,0,none⟩) ns.length cn]] W (TextP W (progT es n k))):=by
 have hA1:=(Ld W (.cells #[.slice ae es.length ce,.slice (some ⟨bt,0,none⟩) ns.length cn] 26)).1;refine zb93 ?_;intro hB1 Y hY;rw[hY]at hA1 hB1;have HP:=J (progOk_at (cn:=cn) (hE.below hB1) hel (Le hbt hB1.size) (hN.below hB1 hbt) hl hA);have HY:=J hY;have HA:=J hA1;have HB1:=J hB1;have HE:=J hE;have HN:=J (Lc hbt hN);have HL:=J (Lc hel hl);have HSA:=J hA;obtain⟨e0,e1⟩:=fcl2 HA.o;clear hE hel hbt hN hl hA hA1 hB1 hY;refine⟨fun hR=>?_,fun hR n k g1 g2 g3=>?_⟩
 .rw[hR]at HP;clear hR;go_enter func7,ntmps7
  go_upto_region 1 with fail
  rw[HY.o];clear HY;go_wp2_with fail
  refine HP.o.mono ?_;rintro e X1 ⟨rfl,hb2⟩;have HB2:=J (HB1.o.trans (hb2.mono HB1.o.size));clear hb2;go_wp2_with fail
  go_ret;exact⟨rfl,HB2.o⟩
 ·have hT:T=true:=by
   unfold progZ at hR;simp only[Bool.and_eq_true]at hR;exact hR.2.1
  have hef:∀i,i<es.length->effOk es i=true:=by
   unfold progZ at hR;simp only[Bool.and_eq_true]at hR;exact fun i hi=>List.all_eq_true.1 hR.2.2.1 i (List.mem_range.2 hi)
  have he8:es.length<=8:=by
   unfold progZ at hR;simp only[Bool.and_eq_true,decide_eq_true_eq]at hR;exact hR.1
  subst hT;rw[hR]at HP;have HEf:=J (fun i hi=>eff_right (hef i hi));have HE8:=J he8;have HTl:=J (fun i hi=>effs_len (fun i hi=>(eff_right (hef i hi)).1) i hi);have HG:=J (Lc g1 (Lc g2 g3));obtain⟨n',k',f1,f2,f3,-,hst,hex,hne⟩:=right_of HSA.o;obtain⟨rfl,rfl⟩:=tree_inj g1 g2 g3 f1 f2 f3;have HSh:=J (fun(X:World) (hX:Below W.heap.size W X)=>show_all (cap:=cn) HL.o.2 hne 400 ⟨n',k',0⟩ 0 X qw hst hex (Le HN.o.1 hX.size) (HN.o.2.below hX HN.o.1));have hsl:=(bare_len hne 400).1 ⟨n',k',0⟩ 0 qw hst hex;have hss:=hst.lt.2.2;obtain⟨TS,hTS⟩:∃T,showZ 400 ⟨n',k',0⟩ 0=T:=⟨_,rfl⟩
  rw[hTS]at HSh hsl;have lts:(tx TS).size<=18000:=by rw[z32];have:=HL.o.2;omega
  have HTS:I (progT es n' k'= effsT es es.length++TS):=qx;rw[HTS.o];clear hR hef he8 g1 g2 g3 f1 f2 f3 hst hex hne hsl hss hTS;go_enter func7,ntmps7
  go_upto_region 1 with fail
  rw[HY.o];clear HY;go_wp2_with fail
  refine HP.o.mono ?_;rintro e X1 ⟨rfl,hb2⟩;have HB2:=J (HB1.o.trans (hb2.mono HB1.o.size));have HA2:=J ((hb2.block W.heap.size (z12 HA.o)).trans HA.o);clear hb2 HP e0 e1;go_wp2_with fail
  go_loopw [3,4] (fun out i wr=> ∃j:Nat,j<=es.length/\out=.string (tx (effsT es j))/\i=.int .i64 (j:Int)/\I (Below X1.heap.size X1 wr)) (fun _ i _=>es.length-(intOf i).toNat)
  case atStart=>exact⟨0,Li _,rfl,rfl,Lb⟩
  case round=>
   obtain⟨j,hj,rfl,rfl,HBr⟩:=hrel;have hpb:=(HBr.o.block W.heap.size (z12 HA2.o)).trans HA2.o;obtain⟨e0,e1⟩:=fcl2 hpb;have HPb:=J hpb;clear hpb;have hol:=HTl.o j hj;obtain⟨TO,hTO⟩:∃T,effsT es j=T:=⟨_,rfl⟩
   rw[hTO]at hol |-;have HTO:=J hTO;have lo:(tx TO).size<=400:=by rw[z32];have:=HE8.o;omega
   clear hol hTO;by_cases hlt:(j:Int)<(es.length:Int)
   .have hjl:j<es.length:=by omega
    obtain⟨be,hae,hbe,hEA⟩:∃be,ae=some ⟨be,0,none⟩/\be<W.heap.size/\EffsAt W be 0 es:=by
     rcases HE.o with ⟨-,h,-⟩|⟨be,h1,h2,h3,-⟩
     .rw[h]at hjl;simp at hjl
     .exact⟨be,h1,h2,h3⟩
    subst hae;have hEr:=hEA.below (HB2.o.trans (HBr.o.mono HB2.o.size)) hbe;refine zb5 ?_;unhygienic intros
    have hstep:es.length-(intOf (.int .i64 ((j+1:Nat):Int))).toNat<es.length-(intOf (.int .i64 (j:Int))).toNat:=yl;refine zb37 ?_;unhygienic intros
    have HB5:=J (HBr.o.trans (hB5.mono HBr.o.size));clear hA5 hB5 hV hEr hEA hbe hjl hee hnx r2 r3 r4 r5 hj;go_upto_region 8 with fail
    rw[HV.o];clear HV c0 c1 c2 e0 e1;have hD:Below V.heap.size V V.drew:=Lb.drew;obtain⟨D,hDe⟩:∃D,V.drew=D:=⟨_,rfl⟩
    rw[hDe]at hD;have BD:=J (HB5.o.trans (hD.mono HB5.o.size));have AD:=J ((hD.block wr.heap.size (z12 HA5.o)).trans HA5.o);have hS:(fun w':World=>w'.cell? ⟨wr.heap.size,0,none⟩=some (.string nm)/\w'.cell? ⟨wr.heap.size,1,none⟩=some (.int .i64 ag)/\w'.cell? ⟨wr.heap.size,2,none⟩=some (.int .i64 rs)) D:=⟨z8 AD.o 0,z8 AD.o 1,z8 AD.o 2⟩
    refine z30 (S:=fun w'=> w'.cell? ⟨wr.heap.size,0,none⟩=some (.string nm)/\w'.cell? ⟨wr.heap.size,1,none⟩=some (.int .i64 ag)/\w'.cell? ⟨wr.heap.size,2,none⟩=some (.int .i64 rs)) yb rfl rfl ?_;rw[hDe];clear hDe hD;refine pick_o 0 (.string (tx TO)) hS ?_;refine z10 (i:=1) (v:=.string (tx TO++(⟨#[101,102,102,101,99,116,32]⟩:ByteArray))) yb rfl yb yb rfl rfl (fun w' _=>jv) hS yd ?_;refine pick_o 2 (.pointer (some ⟨wr.heap.size,0,none⟩)) hS ?_;refine pick_o (hy:=fun w' h=>jw) 3 (.string nm) hS ?_
    refine z10 (i:=4) (v:=.string ((tx TO++(⟨#[101,102,102,101,99,116,32]⟩:ByteArray))++nm)) yb rfl yb yb rfl rfl (fun w' _=>jv) hS yd ?_;refine z10 (i:=5) (v:=.string (((tx TO++(⟨#[101,102,102,101,99,116,32]⟩:ByteArray))++nm)++(⟨#[32,58,32]⟩:ByteArray))) yb rfl yb yb rfl rfl (fun w' _=>jv) hS yd ?_;refine pick_o 6 (.pointer (some ⟨wr.heap.size,1,none⟩)) hS ?_;refine pick_o (hy:=fun w' h=>qy) 7 (.int .i64 ag) hS ?_;refine pick_o 11 (.pointer (some ⟨wr.heap.size,2,none⟩)) hS ?_;refine pick_o (hy:=fun w' h=>by simp[go_sem,h.2.2]) 12 (.int .i64 rs) hS ?_
    refine z16 (i:=8) (f:=21) (args:= #[.int .i64 ag]) rfl yb rfl rfl yc ?_;refine(base2_calls ag HRg.o.1 HRg.o.2.1 D).mono ?_;rintro e E1 ⟨rfl,hb6⟩;have BE1:=J (BD.o.trans (hb6.mono BD.o.size));have AE1:=J ((hb6.block wr.heap.size (z12 AD.o)).trans AD.o);clear hb6 hS;have hS:(fun w':World=>w'.cell? ⟨wr.heap.size,0,none⟩=some (.string nm)/\w'.cell? ⟨wr.heap.size,1,none⟩=some (.int .i64 ag)/\w'.cell? ⟨wr.heap.size,2,none⟩=some (.int .i64 rs)) E1:=⟨z8 AE1.o 0,z8 AE1.o 1,z8 AE1.o 2⟩
    have lb1:=base_lenX ag;refine⟨_,rfl,hS,?_⟩;refine z15 yd ?_;refine z10 (i:=9) (v:=.string ((((tx TO++(⟨#[101,102,102,101,99,116,32]⟩:ByteArray))++nm)++(⟨#[32,58,32]⟩:ByteArray))++tx (baseT ag))) yb rfl yb yb rfl rfl (fun w' _=>jv) hS yd ?_;refine z10 (i:=10) (v:=.string (((((tx TO++(⟨#[101,102,102,101,99,116,32]⟩:ByteArray))++nm)++(⟨#[32,58,32]⟩:ByteArray))++tx (baseT ag))++(⟨#[32,61,62,32]⟩:ByteArray))) yb rfl yb yb rfl rfl (fun w' _=>jv) hS yd ?_;refine z16 (i:=13) (f:=21) (args:= #[.int .i64 rs]) rfl yb rfl rfl yc ?_;refine(base2_calls rs HRg.o.2.2.1 HRg.o.2.2.2 E1).mono ?_
    rintro e E2 ⟨rfl,hb7⟩;have BE2:=J (BE1.o.trans (hb7.mono BE1.o.size));have AE2:=J ((hb7.block wr.heap.size (z12 AE1.o)).trans AE1.o);clear hb7 hS;have hS:(fun w':World=>w'.cell? ⟨wr.heap.size,0,none⟩=some (.string nm)/\w'.cell? ⟨wr.heap.size,1,none⟩=some (.int .i64 ag)/\w'.cell? ⟨wr.heap.size,2,none⟩=some (.int .i64 rs)) E2:=⟨z8 AE2.o 0,z8 AE2.o 1,z8 AE2.o 2⟩
    have lb2:=base_lenX rs;refine⟨_,rfl,hS,?_⟩;refine z15 yd ?_;refine z10 (i:=14) (v:=.string ((((((tx TO++(⟨#[101,102,102,101,99,116,32]⟩:ByteArray))++nm)++(⟨#[32,58,32]⟩:ByteArray))++tx (baseT ag))++(⟨#[32,61,62,32]⟩:ByteArray))++tx (baseT rs))) yb rfl yb yb rfl rfl (fun w' _=>jv) hS yd ?_;refine z10 (i:=15) (v:=.string (((((((tx TO++(⟨#[101,102,102,101,99,116,32]⟩:ByteArray))++nm)++(⟨#[32,58,32]⟩:ByteArray))++tx (baseT ag))++(⟨#[32,61,62,32]⟩:ByteArray))++tx (baseT rs))++(⟨#[32,59,32]⟩:ByteArray))) yb rfl yb yb rfl rfl (fun w' _=>jv) hS yd ?_
    refine pick_o 16 (.string (((((((tx TO++(⟨#[101,102,102,101,99,116,32]⟩:ByteArray))++nm)++(⟨#[32,58,32]⟩:ByteArray))++tx (baseT ag))++(⟨#[32,61,62,32]⟩:ByteArray))++tx (baseT rs))++(⟨#[32,59,32]⟩:ByteArray))) hS ?_;refine z34 yb ?_;clear hS;have HFn:I ((((((((tx TO++(⟨#[101,102,102,101,99,116,32]⟩:ByteArray))++nm)++(⟨#[32,58,32]⟩:ByteArray))++tx (baseT ag))++(⟨#[32,61,62,32]⟩:ByteArray))++tx (baseT rs))++(⟨#[32,59,32]⟩:ByteArray))=tx (effsT es (j+1))):=by
     show _=_;rw[HNx.o,HTO.o];simp only[effT,<-z24,tx_name,ByteArray.append_assoc];rfl
    rw[HFn.o];clear lb1 lb2;have hpb:=(BE2.o.block W.heap.size (z12 HA2.o)).trans HA2.o;have hj9:I (j<=8):=by show _<=_;have:=HE8.o;omega
    go_wp2_with fail
    try rw[z18 (by have:=hj9.o;omega)]
    exact⟨⟨j+1,yf,rfl,rfl,BE2⟩,hstep⟩
   .have ej:j=es.length:=by omega
    have HEq:I (effsT es es.length=TO):=by show _=_;rw[<-ej];exact HTO.o
    clear hj ej;go_wp2_with fail
    refine(HSh.o wr (HB2.o.trans (HBr.o.mono HB2.o.size))).mono ?_;rintro e X9 ⟨rfl,hb9⟩;have HB9:=J ((HB2.o.trans (HBr.o.mono HB2.o.size)).trans (hb9.mono (HB2.o.trans (HBr.o.mono HB2.o.size)).size));clear hb9 e0 e1;go_wp2_with fail
    go_ret;refine⟨?_,HB9.o⟩;rw[HEq.o];simp only[<-z24];rfl
theorem implProgC_calls (ae:Option Addr) (be bt ce cn:Nat) (es:List Ef) (ns:List Nd) (T:Bool) (w:World) (hce:es.length<=ce) (hae:es≠ []->ae=some ⟨be,0,none⟩) (hbe:be<w.heap.size) (hbt:bt<w.heap.size) (hE:EffsAt w be 0 es) (hN:NodesAt w bt 0 ns) (me:es.length<=1048576) (mn:ns.length<=1048576) (hsh:∀e∈es,e.name.size<=maxLen) (hTT:∀w':World,bt<w'.heap.size->NodesAt w' bt 0 ns->Calls prog 39 #[.slice (some ⟨bt,0,none⟩) ns.length cn] w' fun e w''=> e=.returned (.bool T)/\Below w'.heap.size w' w'') :
 Calls prog 16 #[.agg #[.slice ae es.length ce,.slice (some ⟨bt,0,none⟩) ns.length cn]] w fun e w'=> e=.returned (.bool (progZ es ns T))/\Below w.heap.size w w':= by
 have hb1:Below w.heap.size w (w.alloc (.cells #[.slice ae es.length ce,.slice (some ⟨bt,0,none⟩) ns.length cn] 26)):=Lb.alloc La _;have HT:I (Calls _ _ _ _ _):=hTT (w.alloc (.cells #[.slice ae es.length ce,.slice (some ⟨bt,0,none⟩) ns.length cn] 26)) (Le hbt hb1.size) (hN.below hb1 hbt);have HB1:I (Below w.heap.size w (w.alloc (.cells #[.slice ae es.length ce,.slice (some ⟨bt,0,none⟩) ns.length cn] 26))):=hb1
 have HK1:I ((w.alloc (.cells #[.slice ae es.length ce,.slice (some ⟨bt,0,none⟩) ns.length cn] 26)).heap[w.heap.size]?=some (.cells #[.slice ae es.length ce,.slice (some ⟨bt,0,none⟩) ns.length cn] 26)):=(Ld w _).1;obtain⟨R,hR⟩:∃R,progZ es ns T=R:=⟨_,rfl⟩
 have HR:I (progZ es ns T=R):=hR;have HE:I (EffsAt w be 0 es):=hE;have HN:I (NodesAt w bt 0 ns):=hN;have HMN:I (ns.length<=1048576):=mn;rw[hR];obtain⟨len,hlen⟩:∃len,es.length=len:=⟨_,rfl⟩
 obtain⟨ln,hln⟩:∃ln,ns.length=ln:=⟨_,rfl⟩
 have Hlen:I (es.length=len/\ns.length=ln):=⟨hlen,hln⟩
 rw[hlen,hln]at HT HB1 HK1 |-;have HM:I (len<=1048576/\ln<=1048576):=ql;have HSH:I (∀e∈es,e.name.size<=maxLen):=hsh;have HAe:I (len<=ce/\(es≠ []->ae=some ⟨be,0,none⟩)):=⟨yf,hae⟩
 clear hce hae hb1 hR hE hN me mn hTT hlen hln hsh;by_cases h8:(8:Int)<(len:Int)
 ·have HF:I (R=false):=by
   show R=false;rw[<-HR.o,progZ,Hlen.o.1,decide_eq_false yf,Bool.false_and]
  clear HT HE HN HK1;go_enter func16,ntmps16
  go_wp2_with fail
  go_ret;exact⟨jf,HB1.o⟩
 have h8':(len:Int)<=8:=yf;have HR8:I ((T && ((List.range len).all (effOk es) && ns.all (nodeHas es)))=R):=by
  show _=R;rw[<-HR.o,progZ,Hlen.o.1,decide_eq_true yf,Bool.true_and]
 clear h8;go_enter func16,ntmps16
 go_wp2_with fail
 refine HT.o.mono ?_;rintro e w2 ⟨rfl,hb2⟩;have hbw2:=HB1.o.trans (hb2.mono HB1.o.size);have kp2:=(hb2.block w.heap.size yn).trans HK1.o;clear HT HB1 HK1 hb2
 cases T with
 | false=>
   go_wp2_with fail
   go_ret;exact⟨qm,hbw2⟩
 | true=>
   have HRR:I (((List.range len).all (effOk es) && ns.all (nodeHas es))=R):=HR8.o;clear HR8 HR;have pA0:=z8 kp2 0;simp at pA0;go_wp2_with fail
   clear pA0;go_loopw [20] (fun i wr=> ∃i':Nat,i=.int .i64 i'/\i'<=len/\I ((List.range i').all (effOk es)=true)/\wr.heap[w.heap.size]?=some (.cells #[.slice ae len ce,.slice (some ⟨bt,0,none⟩) ln cn] 26)/\Below w.heap.size w wr) (fun i _=>len-(intOf i).toNat)
   case atStart=>exact⟨0,rfl,Li _,rfl,kp2,hbw2⟩
   case round=>
    obtain⟨i',rfl,hle,HI,kp,hbx⟩:=hrel;have hAlt:=z12 kp;obtain⟨pA,pB⟩:=fcl2 kp;have hEx:=HE.o.below hbx hbe;by_cases hlt:(i':Int)<(len:Int)
    .have hic:(i':Int)<=(ce:Int):=by have:=HAe.o.1;omega
     have hae:ae=some ⟨be,0,none⟩:=HAe.o.2 (fun e=>by have:=Hlen.o.1;rw[e]at this;simp at this;omega);subst hae;have hil:i'<es.length:=by rw[Hlen.o.1];omega
     have c0:=hEx i' hil 0 yf;have c1:=hEx i' hil 1 yf;have c2:=hEx i' hil 2 yf;obtain⟨ef,hef⟩:∃ef,es.getD i' default=ef:=⟨_,rfl⟩
     have hF:effOk es i'= false->I (R=false):=fun h=>by
      show R=false;have:=range_false hil h;rw[Hlen.o.1]at this;rw[<-HRR.o,this,Bool.false_and]
     have hS:effOk es i'= true->I ((List.range (i'+ 1)).all (effOk es)=true):=fun h=>range_step HI.o h
     have hdef:effOk es i'= (nameOk ef.name && (!effIn (es.take i') ef.name && (decide (1<=ef.arg/\ef.arg<=4) && decide (1<=ef.res/\ef.res<=4)))):=by rw[effOk,hef]
     rw[hdef]at hF hS;rw[hef]at c0 c1 c2;simp only[Ef.cell,Nat.add_zero,Nat.zero_add]at c0 c1 c2;have htl:(es.take i').length=i':= yk;have HP:I (∀w,be<w.heap.size->EffsAt w be 0 es->_):=fun w hb h=>hasEff_calls (some ⟨be,0,none⟩) ce (es.take i') ef.name w (by rw[htl];have:=HM.o;omega) (fun _=>⟨be,0,rfl,hb,effsTake h⟩)
     rw[htl]at HP;have hshe:ef.name.size<=maxLen:=by
      rw[<-hef];exact HSH.o _ (by simp[List.getD,List.getElem?_eq_getElem hil])
     have hLn:∀w,_:=fun w=>implName_calls ef.name hshe w
     have hbW:Below w.heap.size w (wr.alloc (.cells #[.string ef.name,.int .i64 ef.arg,.int .i64 ef.res] 45)):=hbx.alloc qn _;have HEW:I (EffsAt (wr.alloc (.cells #[.string ef.name,.int .i64 ef.arg,.int .i64 ef.res] 45)) be 0 es):=HE.o.below hbW hbe;obtain⟨nm,ar,rs⟩:=ef;dsimp only at*;clear hEx hil hdef hef HI HE htl hshe;generalize effIn (es.take i') nm=ein at*;have hA1:∀w,_:=fun w=>baseOk_calls ar w
     have hA2:∀w,_:=fun w=>baseOk_calls rs w
     generalize decide (1<=ar/\ar<=4)=okA at*;generalize decide (1<=rs/\rs<=4)=okR at*;generalize nameOk nm=okN at*;go_wp2_with fail
     have u0:(wr.alloc (.cells #[.string nm,.int .i64 ar,.int .i64 rs] 45)).cell? ⟨wr.heap.size,0,none⟩=some (.string nm):=yc;have u1:(wr.alloc (.cells #[.string nm,.int .i64 ar,.int .i64 rs] 45)).cell? ⟨wr.heap.size,1,none⟩=some (.int .i64 ar):=yc;have u2:(wr.alloc (.cells #[.string nm,.int .i64 ar,.int .i64 rs] 45)).cell? ⟨wr.heap.size,2,none⟩=some (.int .i64 rs):=yc;have kpW:=(Below.heap_alloc wr (.cells #[.string nm,.int .i64 ar,.int .i64 rs] 45) _ hAlt).trans kp;have uA:=z8 kpW 0;simp at uA
     have hEW:wr.heap.size<(wr.alloc (.cells #[.string nm,.int .i64 ar,.int .i64 rs] 45)).heap.size:=yn;have hAW:w.heap.size<(wr.alloc (.cells #[.string nm,.int .i64 ar,.int .i64 rs] 45)).heap.size:=yk;have hbeW:be<(wr.alloc (.cells #[.string nm,.int .i64 ar,.int .i64 rs] 45)).heap.size:=yk;generalize (wr.alloc (.cells #[.string nm,.int .i64 ar,.int .i64 rs] 45))=W at*;have HED:I (EffsAt W be 0 es):=HEW.o;have v0:∀x:Later W.heap.size W,x.w.cell? ⟨wr.heap.size,0,none⟩=some (.string nm):=fun x=>x.cell hEW u0
     have v1:∀x:Later W.heap.size W,x.w.cell? ⟨wr.heap.size,1,none⟩=some (.int .i64 ar):=fun x=>x.cell hEW u1
     have v2:∀x:Later W.heap.size W,x.w.cell? ⟨wr.heap.size,2,none⟩=some (.int .i64 rs):=fun x=>x.cell hEW u2
     have vA:∀x:Later W.heap.size W,x.w.cell? ⟨w.heap.size,0,none⟩=some (.slice (some ⟨be,0,none⟩) len ce):=fun x=>x.cell hAW uA
     clear c0 c1 c2 pA pB kp HEW;have HL:I (∀w,_):=hLn;have H1:I (∀w,_):=hA1;have H2:I (∀w,_):=hA2;clear hLn hA1 hA2;have HFF:I ((okN && (!ein && (okA && okR)))=false->I (R=false)):=hF;have HSS:I ((okN && (!ein && (okA && okR)))=true->I ((List.range (i'+ 1)).all (effOk es)=true)):=hS;clear hF hS
     cases okN
     ·have HF:=HFF.o rfl;clear HFF HSS;refine z20 W.heap.size yb yb ?_;repeat(go_big_quiet_step (first
       |(rename_i x;go_at_call 40;refine(HL.o _).mono ?_;rintro e w5 ⟨rfl,hb5⟩;exact⟨rfl,⟨w5,x.h.trans (hb5.mono x.h.size)⟩,rfl⟩)
       |(rename_i x;go_at_call 41;refine(H1.o _).mono ?_;rintro e w6 ⟨rfl,rfl⟩;exact⟨rfl,x,rfl⟩)
       |(rename_i x;go_at_call 41;refine(H2.o _).mono ?_;rintro e w6 ⟨rfl,rfl⟩;exact⟨rfl,x,rfl⟩)
       |(rename_i x;go_at_call 42;refine(HP.o _ (Le hbeW x.h.size) (HED.o.below x.h hbeW)).mono ?_;rintro e w5 ⟨rfl,hb5⟩;exact⟨rfl,⟨w5,x.h.trans (hb5.mono x.h.size)⟩,rfl⟩)))
      refine wpQuiet_nil ?_;rintro w5 ⟨x,rfl⟩;have hx:=hbW.trans (x.h.mono hbW.size);clear u0 u1 u2 uA v0 v1 v2 vA;go_wp2_with fail
      go_ret;exact⟨jf,hx⟩
     cases okA
     .have HF:=HFF.o (by cases ein<;>rfl)
      clear HFF HSS;refine z20 W.heap.size yb yb ?_;repeat(go_big_quiet_step (first
       |(rename_i x;go_at_call 40;refine(HL.o _).mono ?_;rintro e w5 ⟨rfl,hb5⟩;exact⟨rfl,⟨w5,x.h.trans (hb5.mono x.h.size)⟩,rfl⟩)
       |(rename_i x;go_at_call 41;refine(H1.o _).mono ?_;rintro e w6 ⟨rfl,rfl⟩;exact⟨rfl,x,rfl⟩)
       |(rename_i x;go_at_call 41;refine(H2.o _).mono ?_;rintro e w6 ⟨rfl,rfl⟩;exact⟨rfl,x,rfl⟩)
       |(rename_i x;go_at_call 42;refine(HP.o _ (Le hbeW x.h.size) (HED.o.below x.h hbeW)).mono ?_;rintro e w5 ⟨rfl,hb5⟩;exact⟨rfl,⟨w5,x.h.trans (hb5.mono x.h.size)⟩,rfl⟩)))
      refine wpQuiet_nil ?_;rintro w5 ⟨x,rfl⟩;have hx:=hbW.trans (x.h.mono hbW.size);clear u0 u1 u2 uA v0 v1 v2 vA;go_wp2_with fail
      go_ret;exact⟨jf,hx⟩
     cases okR
     .have HF:=HFF.o (by cases ein<;>rfl)
      clear HFF HSS;refine z20 W.heap.size yb yb ?_;repeat(go_big_quiet_step (first
       |(rename_i x;go_at_call 40;refine(HL.o _).mono ?_;rintro e w5 ⟨rfl,hb5⟩;exact⟨rfl,⟨w5,x.h.trans (hb5.mono x.h.size)⟩,rfl⟩)
       |(rename_i x;go_at_call 41;refine(H1.o _).mono ?_;rintro e w6 ⟨rfl,rfl⟩;exact⟨rfl,x,rfl⟩)
       |(rename_i x;go_at_call 41;refine(H2.o _).mono ?_;rintro e w6 ⟨rfl,rfl⟩;exact⟨rfl,x,rfl⟩)
       |(rename_i x;go_at_call 42;refine(HP.o _ (Le hbeW x.h.size) (HED.o.below x.h hbeW)).mono ?_;rintro e w5 ⟨rfl,hb5⟩;exact⟨rfl,⟨w5,x.h.trans (hb5.mono x.h.size)⟩,rfl⟩)))
      refine wpQuiet_nil ?_;rintro w5 ⟨x,rfl⟩;have hx:=hbW.trans (x.h.mono hbW.size);clear u0 u1 u2 uA v0 v1 v2 vA;go_wp2_with fail
      go_ret;exact⟨jf,hx⟩
     cases ein
     ·have HS:=HSS.o rfl;clear HFF HSS;refine z20 W.heap.size yb yb ?_;repeat(go_big_quiet_step (first
       |(rename_i x;go_at_call 40;refine(HL.o _).mono ?_;rintro e w5 ⟨rfl,hb5⟩;exact⟨rfl,⟨w5,x.h.trans (hb5.mono x.h.size)⟩,rfl⟩)
       |(rename_i x;go_at_call 41;refine(H1.o _).mono ?_;rintro e w6 ⟨rfl,rfl⟩;exact⟨rfl,x,rfl⟩)
       |(rename_i x;go_at_call 41;refine(H2.o _).mono ?_;rintro e w6 ⟨rfl,rfl⟩;exact⟨rfl,x,rfl⟩)
       |(rename_i x;go_at_call 42;refine(HP.o _ (Le hbeW x.h.size) (HED.o.below x.h hbeW)).mono ?_;rintro e w5 ⟨rfl,hb5⟩;exact⟨rfl,⟨w5,x.h.trans (hb5.mono x.h.size)⟩,rfl⟩)))
      refine wpQuiet_nil ?_;rintro w5 ⟨x,rfl⟩;have hx:=hbW.trans (x.h.mono hbW.size);have kp5:=(x.h.block w.heap.size hAW).trans kpW;clear u0 u1 u2 uA v0 v1 v2 vA;go_wp2_with fail
      have hs:len-(intOf (.int .i64 ((i'+ 1:Nat):Int))).toNat<len-(intOf (.int .i64 (i':Int))).toNat:=yl;try rw[show wrap64 ((i':Int)+1)=((i'+ 1:Nat):Int) by have:=HM.o;unfold wrap64;omega]
      exact⟨⟨i'+ 1,rfl,yf,HS,kp5,hx⟩,hs⟩
     ·have HF:=HFF.o rfl;clear HFF HSS;refine z20 W.heap.size yb yb ?_;repeat(go_big_quiet_step (first
       |(rename_i x;go_at_call 40;refine(HL.o _).mono ?_;rintro e w5 ⟨rfl,hb5⟩;exact⟨rfl,⟨w5,x.h.trans (hb5.mono x.h.size)⟩,rfl⟩)
       |(rename_i x;go_at_call 41;refine(H1.o _).mono ?_;rintro e w6 ⟨rfl,rfl⟩;exact⟨rfl,x,rfl⟩)
       |(rename_i x;go_at_call 41;refine(H2.o _).mono ?_;rintro e w6 ⟨rfl,rfl⟩;exact⟨rfl,x,rfl⟩)
       |(rename_i x;go_at_call 42;refine(HP.o _ (Le hbeW x.h.size) (HED.o.below x.h hbeW)).mono ?_;rintro e w5 ⟨rfl,hb5⟩;exact⟨rfl,⟨w5,x.h.trans (hb5.mono x.h.size)⟩,rfl⟩)))
      refine wpQuiet_nil ?_;rintro w5 ⟨x,rfl⟩;have hx:=hbW.trans (x.h.mono hbW.size);clear u0 u1 u2 uA v0 v1 v2 vA;go_wp2_with fail
      go_ret;exact⟨jf,hx⟩
    .have e:i'= len:=by omega
     subst e;have HR2:I (ns.all (nodeHas es)=R):=by
      show _=R;rw[<-HRR.o,HI.o,Bool.true_and]
     clear HRR HI hEx;go_wp2_with fail
     clear pA pB;go_loopw [54] (fun j wr=> ∃k:Nat,j=.int .i64 k/\k<=ln/\I ((ns.take k).all (nodeHas es)=true)/\wr.heap[w.heap.size]?=some (.cells #[.slice ae i' ce,.slice (some ⟨bt,0,none⟩) ln cn] 26)/\Below w.heap.size w wr) (fun j _=>ln-(intOf j).toNat)
     case atStart=>exact⟨0,rfl,Li _,rfl,kp,hbx⟩
     case round=>
      clear kp hbx hAlt;obtain⟨k,rfl,hk,HI,kp,hbx⟩:=hrel;have hAlt:=z12 kp;obtain⟨pA,pB⟩:=fcl2 kp;by_cases hlt:(k:Int)<(ln:Int)
      .have hil:k<ns.length:=by rw[Hlen.o.2];omega
       have hNx:=HN.o.below hbx hbt;obtain⟨c0,c1,c2,c3,c4,c5⟩:=fsx (hNx k hil);obtain⟨nd,hnd⟩:∃nd,ns.getD k default=nd:=⟨_,rfl⟩
       have hF:nodeHas es nd=false->I (R=false):=fun h=>by
        show R=false;rw[<-HR2.o];exact has_false hil zi
       have hS:nodeHas es nd=true->I ((ns.take (k+1)).all (nodeHas es)=true):=fun h=>has_step hil HI.o zi
       rw[hnd]at c0 c1 c2 c3 c4 c5;simp only[Nd.cell,Nat.add_zero,Nat.zero_add]at c0 c1 c2 c3 c4 c5;obtain⟨kd,num,a,bb,cc,kids⟩:=nd;dsimp only at*;have hszx:=hbx.size;have HP:I (∀w',be<w'.heap.size->EffsAt w' be 0 es->_):=fun w' hb h=>hasEff_calls ae ce es a w' (by rw[Hlen.o.1];have:=HM.o;omega) (fun h0=>⟨be,0,HAe.o.2 h0,hb,h⟩)
       rw[Hlen.o.1]at HP;have HEx:I (EffsAt wr be 0 es):=HE.o.below hbx hbe;have hbeR:be<wr.heap.size:=yf;simp only[nodeHas]at hF hS;clear hNx hil hnd HI;generalize effIn es a=ein at*;have hq:(kd==22)=true\/((kd==22)=false/\(kd==26)=true)\/((kd==22)=false/\(kd==26)=false):=by
        cases (kd==22)<;>cases (kd==26)<;>simp
       rcases hq with k22|⟨k22,k26⟩|⟨k22,k26⟩
       .cases ein
        .have HF:=hF (by rw[k22];simp);clear hF hS;refine zb38 ?_;intro w6 hx6;go_ret;exact⟨jf,hx6⟩
        .have HS:=hS yn;clear hF hS;refine zb14 ?_;intro w6 hx6 kp6 hs;exact⟨⟨k+1,rfl,yf,HS,kp6,hx6⟩,hs⟩
       .cases ein
        .have HF:=hF (by rw[k26];simp);clear hF hS;refine zb38 ?_;intro w6 hx6;go_ret;exact⟨jf,hx6⟩
        .have HS:=hS yn;clear hF hS;refine zb14 ?_;intro w6 hx6 kp6 hs;exact⟨⟨k+1,rfl,yf,HS,kp6,hx6⟩,hs⟩
       .have HS:=hS qs;clear hF hS HP;go_wp2_with fail
        have hs:ln-(intOf (.int .i64 ((k+1:Nat):Int))).toNat<ln-(intOf (.int .i64 (k:Int))).toNat:=yl;try rw[show wrap64 ((k:Int)+1)=((k+1:Nat):Int) by have:=HM.o;unfold wrap64;omega]
        exact⟨⟨k+1,rfl,yf,HS,(Below.heap_alloc _ _ _ hAlt).trans kp,hbx.alloc hszx _⟩,hs⟩
      .have e:k=ln:=by omega
       have HT:I (R=true):=by
        show R=true;rw[<-HR2.o];have:=HI.o;rwa[List.take_of_length_le (by rw[Hlen.o.2];omega)]at this
       clear HI;go_wp2_with fail
       go_ret;exact⟨by rw[HT.o];rfl,hbx⟩
end
end Go.Proofs.YtfbojelpdccjaaaGreatDoor
