import Derived.Test.YtfbojelpdccjaaaGreatDoorPkB15
import Derived.Test.YtfbojelpdccjaaaGreatDoorPkB17
import Derived.Test.YtfbojelpdccjaaaGreatDoorPkB1
import Derived.Test.YtfbojelpdccjaaaGreatDoorPkB8
set_option maxHeartbeats 8000000
set_option maxRecDepth 100000
namespace Go.Proofs.YtfbojelpdccjaaaGreatDoor
open Go.RowKit Go.Deep
variable {es : List Ef} {i : Nat}
section
open Go.RowKit Go.Deep
def baseT (k : Int) : List UInt8:=if k=1 then [105,110,116] else if k=2 then [98,111,111,108] else if k=3 then [117,110,105,116] else [108,105,115,116]
def effT (e : Ef) : List UInt8:= [101,102,102,101,99,116,32]++e.name.data.toList++ [32,58,32]++baseT e.arg++ [32,61,62,32]++baseT e.res++ [32,59,32]
def effsT (es : List Ef) (i : Nat) : List UInt8:=(es.take i).flatMap effT
def progT (es : List Ef) (n : Nd) (k : Fo) : List UInt8:=es.flatMap effT++showZ 400 ⟨n,k,0⟩ 0
theorem base_len (k : Int) : (baseT k).length≤4:=by
 unfold baseT;repeat' split
 all_goals simp
theorem base_lenX (k : Int) : (tx (baseT k)).size≤4:=by rw [z26]; exact base_len k
theorem fit_short {nm : Int} {s : ByteArray} (h : fit nm i s=true) : s.size≤8:=by
 unfold fit at h;split at h
 ·simp only [nameOk,Bool.and_eq_true,decide_eq_true_eq] at h;exact h.1.1.2
 ·have h1 : s.toList= []:=by simpa using h
  rw [ByteArray.toList_eq] at h1;have h2:=congrArg List.length h1;simp at h2;show s.data.size≤8;rw [h2];exact Nat.zero_le _
theorem neat_own {m : Nd} (h : ownOk m=true) : Neat m:=by
 simp only [ownOk,namesOk,Bool.and_eq_true] at h;obtain⟨-,⟨ha,hb,hc⟩,-,hnum⟩:=h;have h2:=of_decide_eq_true hnum;refine⟨fit_short ha,fit_short hb,fit_short hc,fun e=>?_,fun e=>?_⟩
 ·rw [e] at h2;have : mostZ 1=999999999:=by decide
  omega
 ·rw [e] at h2;have : mostZ 2=1:=by decide
  omega
theorem right_of {ns : List Nd} (hA : SpecAns ns true) : ∃ (n : Nd) (k : Fo),ns=n::k.flat∧n.kids=k.count∧k.wf∧ns.length≤300∧Stands ns ⟨n,k,0⟩∧Ex ⟨n,k,0⟩∧ ∀ m∈ns,Neat m:=by
 have hA':= hA;rcases hA with ⟨-,h⟩ | ⟨-,-,-,h⟩ | ⟨-,hl,n,k,e1,e2,e3,hR⟩
 ·cases h
 ·cases h
 have hR':= hR.symm;rw [Bool.and_eq_true,Bool.and_eq_true] at hR';obtain⟨ho,-,hs⟩:=hR';unfold specTree at hs;rw [Bool.and_eq_true] at hs;exact⟨n,k,e1,e2,e3,hl,stands_of hA' e1 e2 e3,⟨hs.2,head_none hs.1⟩,fun m hm=>neat_own (List.all_eq_true.1 ho m hm)⟩
theorem base2_calls (k : Int) (h0 : 1≤k) (h1 : k≤4) (W : World) : Calls Tryz.prog 21 #[.int .i64 k] W fun e W'=> e= .returned (.string (tx (baseT k)))∧Below W.heap.size W W':= by
 have h : k=1∨k=2∨k=3∨k=4:=by omega
 clear h0 h1;have hb (o : Obj) : Below W.heap.size W (W.alloc o):=(Below.refl _ _).alloc (Nat.le_refl _) _;rcases h with rfl | rfl | rfl | rfl
 all_goals
  go_enter Tryz.func21,Tryz.ntmps21
  go_wp2_with fail
  go_ret;exact⟨rfl,hb _⟩
theorem effs_next (h : i < es.length) : effsT es (i+1)=effsT es i++effT (es.getD i default):=by
 unfold effsT;rw [List.take_add_one,List.flatMap_append];simp [List.getD,h]
theorem effs_len {es : List Ef} (h : ∀ i,i < es.length→(es.getD i default).name.size≤8) : ∀ i,i≤es.length→(effsT es i).length≤40*i
 | 0,_=>by simp [effsT]
 | i+1,hi=>by
   have ih:=effs_len h i (by omega);have h1:=name_len (h i (by omega));have b1:=base_len (es.getD i default).arg;have b2:=base_len (es.getD i default).res;rw [effs_next (by omega)];simp only [effT,List.length_append,List.length_cons,List.length_nil];omega
theorem eff_right (h : effOk es i=true) : (es.getD i default).name.size≤8∧1≤(es.getD i default).arg∧(es.getD i default).arg≤4∧1≤(es.getD i default).res∧(es.getD i default).res≤4:=by
 unfold effOk at h;simp only [nameOk,Bool.and_eq_true,decide_eq_true_eq] at h;exact⟨h.1.1.1.2,h.2.2.1.1,h.2.2.1.2,h.2.2.2.1,h.2.2.2.2⟩
def TextP (W : World) (T : List UInt8) (e : Ending) (W' : World) : Prop:=e= .returned (.string (tx T))∧Below W.heap.size W W'
theorem progText_calls {W : World} {ae : Option Addr} {ce bt cn : Nat} {ns : List Nd} {T : Bool} (hE : EffW W ae ce es) (hel : es.length≤1000) (hbt : bt < W.heap.size) (hN : NodesAt W bt 0 ns) (hl : ns.length≤300) (hA : SpecAns ns T) :
 (progZ es ns T=false→Calls Tryz.prog 7 #[.agg #[.slice ae es.length ce,.slice (some ⟨bt,0,none⟩) ns.length cn]] W (TextP W []))∧
 (progZ es ns T=true→ ∀ n k,ns=n::k.flat→n.kids=k.count→k.wf→Calls Tryz.prog 7 #[.agg #[.slice ae es.length ce,.slice (some ⟨bt,0,none⟩) ns.length cn]] W (TextP W (progT es n k))):=by
 have hA1:=(MapKept.heap_alloc W (.cells #[.slice ae es.length ce,.slice (some ⟨bt,0,none⟩) ns.length cn] 26)).1;have hB1:=(Below.refl W.heap.size W).alloc (Nat.le_refl _) (.cells #[.slice ae es.length ce,.slice (some ⟨bt,0,none⟩) ns.length cn] 26);obtain⟨Y,hY⟩ : ∃ Y,W.alloc (.cells #[.slice ae es.length ce,.slice (some ⟨bt,0,none⟩) ns.length cn] 26)=Y:=⟨_,rfl⟩
 rw [hY] at hA1 hB1;have HP:=hid (progOk_at (cn:=cn) (hE.below hB1) hel (Nat.lt_of_lt_of_le hbt hB1.size) (hN.below hB1 hbt) hl hA);have HY:=hid hY;have HA:=hid hA1;have HB1:=hid hB1;have HE:=hid hE;have HN:=hid (And.intro hbt hN);have HL:=hid (And.intro hel hl);have HSA:=hid hA;obtain⟨e0,e1⟩:=fcl2 HA.out;clear hE hel hbt hN hl hA hA1 hB1 hY;refine⟨fun hR=>?_,fun hR n k g1 g2 g3=>?_⟩
 ·rw [hR] at HP;clear hR;go_enter Tryz.func7,Tryz.ntmps7
  go_upto_region 1 with fail
  rw [HY.out];clear HY;go_wp2_with fail
  refine HP.out.mono ?_;rintro e X1 ⟨rfl,hb2⟩;have HB2:=hid (HB1.out.trans (hb2.mono HB1.out.size));clear hb2;go_wp2_with fail
  go_ret;exact⟨rfl,HB2.out⟩
 ·have hT : T=true:=by
   unfold progZ at hR;simp only [Bool.and_eq_true] at hR;exact hR.2.1
  have hef : ∀ i,i < es.length→effOk es i=true:=by
   unfold progZ at hR;simp only [Bool.and_eq_true] at hR;exact fun i hi=>List.all_eq_true.1 hR.2.2.1 i (List.mem_range.2 hi)
  have he8 : es.length≤8:=by
   unfold progZ at hR;simp only [Bool.and_eq_true,decide_eq_true_eq] at hR;exact hR.1
  subst hT;rw [hR] at HP;have HEf:=hid (fun i hi=>eff_right (hef i hi));have HE8:=hid he8;have HTl:=hid (fun i hi=>effs_len (fun i hi=>(eff_right (hef i hi)).1) i hi);have HG:=hid (And.intro g1 (And.intro g2 g3));obtain⟨n',k',f1,f2,f3,-,hst,hex,hne⟩:=right_of HSA.out;obtain⟨rfl,rfl⟩:=tree_inj g1 g2 g3 f1 f2 f3;have HSh:=hid (fun (X : World) (hX : Below W.heap.size W X)=>show_all (cap:=cn) HL.out.2 hne 400 ⟨n',k',0⟩ 0 X (by have:=hst.lt.2.2; have:=HL.out.2; omega) hst hex (Nat.lt_of_lt_of_le HN.out.1 hX.size) (HN.out.2.below hX HN.out.1))
  have hsl:=(z69 hne 400).1 ⟨n',k',0⟩ 0 (by have:=hst.lt.2.2; have:=HL.out.2; omega) hst hex;have hss:=hst.lt.2.2;obtain⟨TS,hTS⟩ : ∃ T,showZ 400 ⟨n',k',0⟩ 0=T:=⟨_,rfl⟩
  rw [hTS] at HSh hsl;have lts : (tx TS).size≤18000:=by rw [z26]; have:=HL.out.2; omega
  have HTS : Hid (progT es n' k'= effsT es es.length++TS):=by show _=_; unfold progT effsT; rw [hTS,List.take_length]
  rw [HTS.out];clear hR hef he8 g1 g2 g3 f1 f2 f3 hst hex hne hsl hss hTS;go_enter Tryz.func7,Tryz.ntmps7
  go_upto_region 1 with fail
  rw [HY.out];clear HY;go_wp2_with fail
  refine HP.out.mono ?_;rintro e X1 ⟨rfl,hb2⟩;have HB2:=hid (HB1.out.trans (hb2.mono HB1.out.size));have HA2:=hid ((hb2.block W.heap.size (z13 HA.out)).trans HA.out);clear hb2 HP e0 e1;go_wp2_with fail
  go_loopw [3,4] (fun out i wr=> ∃ j : Nat,j≤es.length∧out= .string (tx (effsT es j))∧i= .int .i64 (j : Int)∧Hid (Below X1.heap.size X1 wr)) (fun _ i _=>es.length - (intOf i).toNat)
  case atStart=>exact⟨0,Nat.zero_le _,rfl,rfl,Below.refl _ _⟩
  case round=>
   obtain⟨j,hj,rfl,rfl,HBr⟩:=hrel;have hpb:=(HBr.out.block W.heap.size (z13 HA2.out)).trans HA2.out;obtain⟨e0,e1⟩:=fcl2 hpb;have HPb:=hid hpb;clear hpb;have hol:=HTl.out j hj;obtain⟨TO,hTO⟩ : ∃ T,effsT es j=T:=⟨_,rfl⟩
   rw [hTO] at hol ⊢;have HTO:=hid hTO;have lo : (tx TO).size≤400:=by rw [z26]; have:=HE8.out; omega
   clear hol hTO;by_cases hlt : (j : Int) < (es.length : Int)
   ·have hjl : j < es.length:=by omega
    obtain⟨be,hae,hbe,hEA⟩ : ∃ be,ae=some ⟨be,0,none⟩∧be < W.heap.size∧EffsAt W be 0 es:=by
     rcases HE.out with ⟨-,h,-⟩ | ⟨be,h1,h2,h3,-⟩
     ·rw [h] at hjl;simp at hjl
     ·exact⟨be,h1,h2,h3⟩
    subst hae;have hEr:=hEA.below (HB2.out.trans (HBr.out.mono HB2.out.size)) hbe;have c0:=hEr j hjl 0 (by omega);have c1:=hEr j hjl 1 (by omega);have c2:=hEr j hjl 2 (by omega);obtain⟨r1,r2,r3,r4,r5⟩:=HEf.out j hjl;have hnx:=effs_next hjl;obtain⟨⟨nm,ag,rs⟩,hee⟩ : ∃ x,es.getD j default=x:=⟨_,rfl⟩
    rw [hee] at c0 c1 c2 r1 r2 r3 r4 r5 hnx;simp only [Ef.cell,Nat.add_zero,Nat.zero_add] at c0 c1 c2;dsimp only at r1 r2 r3 r4 r5;have HNx:=hid hnx;have HRg:=hid (And.intro r2 (And.intro r3 (And.intro r4 r5)));have hj0 : (0 : Int)≤(j : Int):=by omega
    have hstep : es.length - (intOf (.int .i64 ((j+1 : Nat) : Int))).toNat < es.length - (intOf (.int .i64 (j : Int))).toNat:=by simp only [intOf,Int.toNat_natCast]; omega
    have hA5:=(MapKept.heap_alloc wr (.cells #[.string nm,.int .i64 ag,.int .i64 rs] 45)).1;have hB5:=(Below.refl wr.heap.size wr).alloc (Nat.le_refl _) (.cells #[.string nm,.int .i64 ag,.int .i64 rs] 45);obtain⟨V,hV⟩ : ∃ V,wr.alloc (.cells #[.string nm,.int .i64 ag,.int .i64 rs] 45)=V:=⟨_,rfl⟩
    rw [hV] at hA5 hB5;have HV:=hid hV;have HA5:=hid hA5;have HB5:=hid (HBr.out.trans (hB5.mono HBr.out.size));clear hA5 hB5 hV hEr hEA hbe hjl hee hnx r2 r3 r4 r5 hj;go_upto_region 8 with fail
    rw [HV.out];clear HV c0 c1 c2 e0 e1;have hD : Below V.heap.size V V.drew:=(Below.refl _ _).drew;obtain⟨D,hDe⟩ : ∃ D,V.drew=D:=⟨_,rfl⟩
    rw [hDe] at hD;have BD:=hid (HB5.out.trans (hD.mono HB5.out.size));have AD:=hid ((hD.block wr.heap.size (z13 HA5.out)).trans HA5.out);have hS : (fun w' : World=>w'.cell? ⟨wr.heap.size,0,none⟩=some (.string nm)∧w'.cell? ⟨wr.heap.size,1,none⟩=some (.int .i64 ag)∧w'.cell? ⟨wr.heap.size,2,none⟩=some (.int .i64 rs)) D:=⟨z8 AD.out 0,z8 AD.out 1,z8 AD.out 2⟩
    refine z27 (S:=fun w'=> w'.cell? ⟨wr.heap.size,0,none⟩=some (.string nm)∧w'.cell? ⟨wr.heap.size,1,none⟩=some (.int .i64 ag)∧w'.cell? ⟨wr.heap.size,2,none⟩=some (.int .i64 rs)) (by kernel_rfl) rfl rfl ?_;rw [hDe];clear hDe hD;refine pick_o 0 (.string (tx TO)) hS ?_;refine z10 (i:=1) (v:= .string (tx TO++(⟨#[101,102,102,101,99,116,32]⟩ : ByteArray))) (by kernel_rfl) rfl (by kernel_rfl) (by kernel_rfl) rfl rfl (fun w' _=>by simp [go_sem]; omega) hS (by simp [go_sem]; exact rfl) ?_;refine pick_o 2 (.pointer (some ⟨wr.heap.size,0,none⟩)) hS ?_
    refine pick_o (hy:=fun w' h=>by simp [go_sem,h.1]) 3 (.string nm) hS ?_;refine z10 (i:=4) (v:= .string ((tx TO++(⟨#[101,102,102,101,99,116,32]⟩ : ByteArray))++nm)) (by kernel_rfl) rfl (by kernel_rfl) (by kernel_rfl) rfl rfl (fun w' _=>by simp [go_sem]; omega) hS (by simp [go_sem]; exact rfl) ?_;refine z10 (i:=5) (v:= .string (((tx TO++(⟨#[101,102,102,101,99,116,32]⟩ : ByteArray))++nm)++(⟨#[32,58,32]⟩ : ByteArray))) (by kernel_rfl) rfl (by kernel_rfl) (by kernel_rfl) rfl rfl (fun w' _=>by simp [go_sem]; omega) hS (by simp [go_sem]; exact rfl) ?_
    refine pick_o 6 (.pointer (some ⟨wr.heap.size,1,none⟩)) hS ?_;refine pick_o (hy:=fun w' h=>by simp [go_sem,h.2.1]) 7 (.int .i64 ag) hS ?_;refine pick_o 11 (.pointer (some ⟨wr.heap.size,2,none⟩)) hS ?_;refine pick_o (hy:=fun w' h=>by simp [go_sem,h.2.2]) 12 (.int .i64 rs) hS ?_;refine z16 (i:=8) (f:=21) (args:= #[.int .i64 ag]) rfl (by kernel_rfl) rfl rfl (by simp [go_sem]) ?_;refine (base2_calls ag HRg.out.1 HRg.out.2.1 D).mono ?_;rintro e E1 ⟨rfl,hb6⟩;have BE1:=hid (BD.out.trans (hb6.mono BD.out.size));have AE1:=hid ((hb6.block wr.heap.size (z13 AD.out)).trans AD.out);clear hb6 hS
    have hS : (fun w' : World=>w'.cell? ⟨wr.heap.size,0,none⟩=some (.string nm)∧w'.cell? ⟨wr.heap.size,1,none⟩=some (.int .i64 ag)∧w'.cell? ⟨wr.heap.size,2,none⟩=some (.int .i64 rs)) E1:=⟨z8 AE1.out 0,z8 AE1.out 1,z8 AE1.out 2⟩
    have lb1:=base_lenX ag;refine⟨_,rfl,hS,?_⟩;refine z14 (by simp [go_sem]; exact rfl) ?_;refine z10 (i:=9) (v:= .string ((((tx TO++(⟨#[101,102,102,101,99,116,32]⟩ : ByteArray))++nm)++(⟨#[32,58,32]⟩ : ByteArray))++tx (baseT ag))) (by kernel_rfl) rfl (by kernel_rfl) (by kernel_rfl) rfl rfl (fun w' _=>by simp [go_sem]; omega) hS (by simp [go_sem]; exact rfl) ?_
    refine z10 (i:=10) (v:= .string (((((tx TO++(⟨#[101,102,102,101,99,116,32]⟩ : ByteArray))++nm)++(⟨#[32,58,32]⟩ : ByteArray))++tx (baseT ag))++(⟨#[32,61,62,32]⟩ : ByteArray))) (by kernel_rfl) rfl (by kernel_rfl) (by kernel_rfl) rfl rfl (fun w' _=>by simp [go_sem]; omega) hS (by simp [go_sem]; exact rfl) ?_;refine z16 (i:=13) (f:=21) (args:= #[.int .i64 rs]) rfl (by kernel_rfl) rfl rfl (by simp [go_sem]) ?_;refine (base2_calls rs HRg.out.2.2.1 HRg.out.2.2.2 E1).mono ?_;rintro e E2 ⟨rfl,hb7⟩;have BE2:=hid (BE1.out.trans (hb7.mono BE1.out.size))
    have AE2:=hid ((hb7.block wr.heap.size (z13 AE1.out)).trans AE1.out);clear hb7 hS;have hS : (fun w' : World=>w'.cell? ⟨wr.heap.size,0,none⟩=some (.string nm)∧w'.cell? ⟨wr.heap.size,1,none⟩=some (.int .i64 ag)∧w'.cell? ⟨wr.heap.size,2,none⟩=some (.int .i64 rs)) E2:=⟨z8 AE2.out 0,z8 AE2.out 1,z8 AE2.out 2⟩
    have lb2:=base_lenX rs;refine⟨_,rfl,hS,?_⟩;refine z14 (by simp [go_sem]; exact rfl) ?_;refine z10 (i:=14) (v:= .string ((((((tx TO++(⟨#[101,102,102,101,99,116,32]⟩ : ByteArray))++nm)++(⟨#[32,58,32]⟩ : ByteArray))++tx (baseT ag))++(⟨#[32,61,62,32]⟩ : ByteArray))++tx (baseT rs))) (by kernel_rfl) rfl (by kernel_rfl) (by kernel_rfl) rfl rfl (fun w' _=>by simp [go_sem]; omega) hS (by simp [go_sem]; exact rfl) ?_
    refine z10 (i:=15) (v:= .string (((((((tx TO++(⟨#[101,102,102,101,99,116,32]⟩ : ByteArray))++nm)++(⟨#[32,58,32]⟩ : ByteArray))++tx (baseT ag))++(⟨#[32,61,62,32]⟩ : ByteArray))++tx (baseT rs))++(⟨#[32,59,32]⟩ : ByteArray))) (by kernel_rfl) rfl (by kernel_rfl) (by kernel_rfl) rfl rfl (fun w' _=>by simp [go_sem]; omega) hS (by simp [go_sem]; exact rfl) ?_;refine pick_o 16 (.string (((((((tx TO++(⟨#[101,102,102,101,99,116,32]⟩ : ByteArray))++nm)++(⟨#[32,58,32]⟩ : ByteArray))++tx (baseT ag))++(⟨#[32,61,62,32]⟩ : ByteArray))++tx (baseT rs))++(⟨#[32,59,32]⟩ : ByteArray))) hS ?_
    refine z24 (by kernel_rfl) ?_;clear hS;have HFn : Hid ((((((((tx TO++(⟨#[101,102,102,101,99,116,32]⟩ : ByteArray))++nm)++(⟨#[32,58,32]⟩ : ByteArray))++tx (baseT ag))++(⟨#[32,61,62,32]⟩ : ByteArray))++tx (baseT rs))++(⟨#[32,59,32]⟩ : ByteArray))=tx (effsT es (j+1))):=by
     show _=_;rw [HNx.out,HTO.out];simp only [effT,← z23,z67,ByteArray.append_assoc];rfl
    rw [HFn.out];clear lb1 lb2;have hpb:=(BE2.out.block W.heap.size (z13 HA2.out)).trans HA2.out;have hj9 : Hid (j≤8):=by show _≤_; have:=HE8.out; omega
    go_wp2_with fail
    try rw [z17 (by have:=hj9.out; omega)]
    exact⟨⟨j+1,by omega,rfl,rfl,BE2⟩,hstep⟩
   ·have ej : j=es.length:=by omega
    have HEq : Hid (effsT es es.length=TO):=by show _=_; rw [← ej]; exact HTO.out
    clear hj ej;go_wp2_with fail
    refine (HSh.out wr (HB2.out.trans (HBr.out.mono HB2.out.size))).mono ?_;rintro e X9 ⟨rfl,hb9⟩;have HB9:=hid ((HB2.out.trans (HBr.out.mono HB2.out.size)).trans (hb9.mono (HB2.out.trans (HBr.out.mono HB2.out.size)).size));clear hb9 e0 e1;go_wp2_with fail
    go_ret;refine⟨?_,HB9.out⟩;rw [HEq.out];simp only [← z23];rfl
theorem implProgC_calls (ae : Option Addr) (be bt ce cn : Nat) (es : List Ef) (ns : List Nd) (T : Bool) (w : World) (hce : es.length≤ce) (hae : es≠ []→ae=some ⟨be,0,none⟩) (hbe : be < w.heap.size) (hbt : bt < w.heap.size) (hE : EffsAt w be 0 es) (hN : NodesAt w bt 0 ns) (me : es.length≤1048576) (mn : ns.length≤1048576) (hsh : ∀ e∈es,e.name.size≤maxLen) (hTT : ∀ w' : World,bt < w'.heap.size→NodesAt w' bt 0 ns→Calls Tryz.prog 39 #[.slice (some ⟨bt,0,none⟩) ns.length cn] w' fun e w''=> e= .returned (.bool T)∧Below w'.heap.size w' w'') :
 Calls Tryz.prog 16 #[.agg #[.slice ae es.length ce,.slice (some ⟨bt,0,none⟩) ns.length cn]] w fun e w'=> e= .returned (.bool (progZ es ns T))∧Below w.heap.size w w':= by
 have hb1 : Below w.heap.size w (w.alloc (.cells #[.slice ae es.length ce,.slice (some ⟨bt,0,none⟩) ns.length cn] 26)):=(Below.refl _ _).alloc (Nat.le_refl _) _;have HT : Hid (Calls _ _ _ _ _):=hTT (w.alloc (.cells #[.slice ae es.length ce,.slice (some ⟨bt,0,none⟩) ns.length cn] 26)) (Nat.lt_of_lt_of_le hbt hb1.size) (hN.below hb1 hbt);have HB1 : Hid (Below w.heap.size w (w.alloc (.cells #[.slice ae es.length ce,.slice (some ⟨bt,0,none⟩) ns.length cn] 26))):=hb1
 have HK1 : Hid ((w.alloc (.cells #[.slice ae es.length ce,.slice (some ⟨bt,0,none⟩) ns.length cn] 26)).heap[w.heap.size]? =some (.cells #[.slice ae es.length ce,.slice (some ⟨bt,0,none⟩) ns.length cn] 26)):=(MapKept.heap_alloc w _).1;obtain⟨R,hR⟩ : ∃ R,progZ es ns T=R:=⟨_,rfl⟩
 have HR : Hid (progZ es ns T=R):=hR;have HE : Hid (EffsAt w be 0 es):=hE;have HN : Hid (NodesAt w bt 0 ns):=hN;have HMN : Hid (ns.length≤1048576):=mn;rw [hR];obtain⟨len,hlen⟩ : ∃ len,es.length=len:=⟨_,rfl⟩
 obtain⟨ln,hln⟩ : ∃ ln,ns.length=ln:=⟨_,rfl⟩
 have Hlen : Hid (es.length=len∧ns.length=ln):=⟨hlen,hln⟩
 rw [hlen,hln] at HT HB1 HK1 ⊢;have HM : Hid (len≤1048576∧ln≤1048576):=by show _∧_; omega
 have HSH : Hid (∀ e∈es,e.name.size≤maxLen):=hsh;have HAe : Hid (len≤ce∧(es≠ []→ae=some ⟨be,0,none⟩)):=⟨by omega,hae⟩
 clear hce hae hb1 hR hE hN me mn hTT hlen hln hsh;by_cases h8 : (8 : Int) < (len : Int)
 ·have HF : Hid (R=false):=by
   show R=false;rw [← HR.out,progZ,Hlen.out.1,decide_eq_false (by omega),Bool.false_and]
  clear HT HE HN HK1;go_enter Tryz.func16,Tryz.ntmps16
  go_wp2_with fail
  go_ret;exact⟨by rw [HF.out]; rfl,HB1.out⟩
 have h8' : (len : Int)≤8:=by omega
 have HR8 : Hid ((T && ((List.range len).all (effOk es) && ns.all (nodeHas es)))=R):=by
  show _=R;rw [← HR.out,progZ,Hlen.out.1,decide_eq_true (by omega),Bool.true_and]
 clear h8;go_enter Tryz.func16,Tryz.ntmps16
 go_wp2_with fail
 refine HT.out.mono ?_;rintro e w2 ⟨rfl,hb2⟩;have hbw2:=HB1.out.trans (hb2.mono HB1.out.size);have kp2:=(hb2.block w.heap.size (by simp)).trans HK1.out;clear HT HB1 HK1 hb2
 cases T with
 | false=>
   go_wp2_with fail
   go_ret;exact⟨by rw [← HR8.out]; rfl,hbw2⟩
 | true=>
   have HRR : Hid (((List.range len).all (effOk es) && ns.all (nodeHas es))=R):=HR8.out;clear HR8 HR;have pA0:=z8 kp2 0;simp at pA0;go_wp2_with fail
   clear pA0;go_loopw [20] (fun i wr=> ∃ i' : Nat,i= .int .i64 i'∧i'≤len∧Hid ((List.range i').all (effOk es)=true)∧wr.heap[w.heap.size]? =some (.cells #[.slice ae len ce,.slice (some ⟨bt,0,none⟩) ln cn] 26)∧Below w.heap.size w wr) (fun i _=>len - (intOf i).toNat)
   case atStart=>exact⟨0,rfl,Nat.zero_le _,rfl,kp2,hbw2⟩
   case round=>
    obtain⟨i',rfl,hle,HI,kp,hbx⟩:=hrel;have hAlt:=z13 kp;obtain⟨pA,pB⟩:=fcl2 kp;have hEx:=HE.out.below hbx hbe;by_cases hlt : (i' : Int) < (len : Int)
    ·have hic : (i' : Int)≤(ce : Int):=by have:=HAe.out.1; omega
     have hae : ae=some ⟨be,0,none⟩:=HAe.out.2 (fun e=>by have:=Hlen.out.1; rw [e] at this; simp at this; omega);subst hae;have hil : i' < es.length:=by rw [Hlen.out.1]; omega
     have c0:=hEx i' hil 0 (by omega);have c1:=hEx i' hil 1 (by omega);have c2:=hEx i' hil 2 (by omega);obtain⟨ef,hef⟩ : ∃ ef,es.getD i' default=ef:=⟨_,rfl⟩
     have hF : effOk es i'= false→Hid (R=false):=fun h=>by
      show R=false;have:=range_false hil h;rw [Hlen.out.1] at this;rw [← HRR.out,this,Bool.false_and]
     have hS : effOk es i'= true→Hid ((List.range (i'+ 1)).all (effOk es)=true):=fun h=>range_step HI.out h
     have hdef : effOk es i'= (nameOk ef.name && (!effIn (es.take i') ef.name && (decide (1≤ef.arg∧ef.arg≤4) && decide (1≤ef.res∧ef.res≤4)))):=by rw [effOk,hef]
     rw [hdef] at hF hS;rw [hef] at c0 c1 c2;simp only [Ef.cell,Nat.add_zero,Nat.zero_add] at c0 c1 c2;have htl : (es.take i').length=i':= by simp; omega
     have HP : Hid (∀ w,be < w.heap.size→EffsAt w be 0 es→_):=fun w hb h=>hasEff_calls (some ⟨be,0,none⟩) ce (es.take i') ef.name w (by rw [htl]; have:=HM.out; omega) (fun _=>⟨be,0,rfl,hb,effsTake h⟩)
     rw [htl] at HP;have hshe : ef.name.size≤maxLen:=by
      rw [← hef];exact HSH.out _ (by simp [List.getD,List.getElem?_eq_getElem hil])
     have hLn : ∀ w,_:=fun w=>implName_calls ef.name hshe w
     have hbW : Below w.heap.size w (wr.alloc (.cells #[.string ef.name,.int .i64 ef.arg,.int .i64 ef.res] 45)):=hbx.alloc (by have:=hbx.size; omega) _;have HEW : Hid (EffsAt (wr.alloc (.cells #[.string ef.name,.int .i64 ef.arg,.int .i64 ef.res] 45)) be 0 es):=HE.out.below hbW hbe;obtain⟨nm,ar,rs⟩:=ef;dsimp only at*;clear hEx hil hdef hef HI HE htl hshe;generalize effIn (es.take i') nm=ein at*;have hA1 : ∀ w,_:=fun w=>baseOk_calls ar w
     have hA2 : ∀ w,_:=fun w=>baseOk_calls rs w
     generalize decide (1≤ar∧ar≤4)=okA at*;generalize decide (1≤rs∧rs≤4)=okR at*;generalize nameOk nm=okN at*;go_wp2_with fail
     have u0 : (wr.alloc (.cells #[.string nm,.int .i64 ar,.int .i64 rs] 45)).cell? ⟨wr.heap.size,0,none⟩=some (.string nm):=by simp [go_sem]
     have u1 : (wr.alloc (.cells #[.string nm,.int .i64 ar,.int .i64 rs] 45)).cell? ⟨wr.heap.size,1,none⟩=some (.int .i64 ar):=by simp [go_sem]
     have u2 : (wr.alloc (.cells #[.string nm,.int .i64 ar,.int .i64 rs] 45)).cell? ⟨wr.heap.size,2,none⟩=some (.int .i64 rs):=by simp [go_sem]
     have kpW:=(Below.heap_alloc wr (.cells #[.string nm,.int .i64 ar,.int .i64 rs] 45) _ hAlt).trans kp;have uA:=z8 kpW 0;simp at uA;have hEW : wr.heap.size < (wr.alloc (.cells #[.string nm,.int .i64 ar,.int .i64 rs] 45)).heap.size:=by simp
     have hAW : w.heap.size < (wr.alloc (.cells #[.string nm,.int .i64 ar,.int .i64 rs] 45)).heap.size:=by simp; omega
     have hbeW : be < (wr.alloc (.cells #[.string nm,.int .i64 ar,.int .i64 rs] 45)).heap.size:=by simp; omega
     generalize (wr.alloc (.cells #[.string nm,.int .i64 ar,.int .i64 rs] 45))=W at*;have HED : Hid (EffsAt W be 0 es):=HEW.out;have v0 : ∀ x : Later W.heap.size W,x.w.cell? ⟨wr.heap.size,0,none⟩=some (.string nm):=fun x=>x.cell hEW u0
     have v1 : ∀ x : Later W.heap.size W,x.w.cell? ⟨wr.heap.size,1,none⟩=some (.int .i64 ar):=fun x=>x.cell hEW u1
     have v2 : ∀ x : Later W.heap.size W,x.w.cell? ⟨wr.heap.size,2,none⟩=some (.int .i64 rs):=fun x=>x.cell hEW u2
     have vA : ∀ x : Later W.heap.size W,x.w.cell? ⟨w.heap.size,0,none⟩=some (.slice (some ⟨be,0,none⟩) len ce):=fun x=>x.cell hAW uA
     clear c0 c1 c2 pA pB kp HEW;have HL : Hid (∀ w,_):=hLn;have H1 : Hid (∀ w,_):=hA1;have H2 : Hid (∀ w,_):=hA2;clear hLn hA1 hA2;have HFF : Hid ((okN && (!ein && (okA && okR)))=false→Hid (R=false)):=hF;have HSS : Hid ((okN && (!ein && (okA && okR)))=true→Hid ((List.range (i'+ 1)).all (effOk es)=true)):=hS;clear hF hS
     cases okN
     ·have HF:=HFF.out rfl;clear HFF HSS;refine z18 W.heap.size (by kernel_rfl) (by kernel_rfl) ?_;repeat (go_big_quiet_step (first
       | (rename_i x; go_at_call 40; refine (HL.out _).mono ?_; rintro e w5 ⟨rfl,hb5⟩; exact⟨rfl,⟨w5,x.h.trans (hb5.mono x.h.size)⟩,rfl⟩)
       | (rename_i x; go_at_call 41; refine (H1.out _).mono ?_; rintro e w6 ⟨rfl,rfl⟩; exact⟨rfl,x,rfl⟩)
       | (rename_i x; go_at_call 41; refine (H2.out _).mono ?_; rintro e w6 ⟨rfl,rfl⟩; exact⟨rfl,x,rfl⟩)
       | (rename_i x; go_at_call 42; refine (HP.out _ (Nat.lt_of_lt_of_le hbeW x.h.size) (HED.out.below x.h hbeW)).mono ?_; rintro e w5 ⟨rfl,hb5⟩; exact⟨rfl,⟨w5,x.h.trans (hb5.mono x.h.size)⟩,rfl⟩)))
      refine wpQuiet_nil ?_;rintro w5 ⟨x,rfl⟩;have hx:=hbW.trans (x.h.mono hbW.size);clear u0 u1 u2 uA v0 v1 v2 vA;go_wp2_with fail
      go_ret;exact⟨by rw [HF.out]; rfl,hx⟩
     cases okA
     ·have HF:=HFF.out (by cases ein <;> rfl)
      clear HFF HSS;refine z18 W.heap.size (by kernel_rfl) (by kernel_rfl) ?_;repeat (go_big_quiet_step (first
       | (rename_i x; go_at_call 40; refine (HL.out _).mono ?_; rintro e w5 ⟨rfl,hb5⟩; exact⟨rfl,⟨w5,x.h.trans (hb5.mono x.h.size)⟩,rfl⟩)
       | (rename_i x; go_at_call 41; refine (H1.out _).mono ?_; rintro e w6 ⟨rfl,rfl⟩; exact⟨rfl,x,rfl⟩)
       | (rename_i x; go_at_call 41; refine (H2.out _).mono ?_; rintro e w6 ⟨rfl,rfl⟩; exact⟨rfl,x,rfl⟩)
       | (rename_i x; go_at_call 42; refine (HP.out _ (Nat.lt_of_lt_of_le hbeW x.h.size) (HED.out.below x.h hbeW)).mono ?_; rintro e w5 ⟨rfl,hb5⟩; exact⟨rfl,⟨w5,x.h.trans (hb5.mono x.h.size)⟩,rfl⟩)))
      refine wpQuiet_nil ?_;rintro w5 ⟨x,rfl⟩;have hx:=hbW.trans (x.h.mono hbW.size);clear u0 u1 u2 uA v0 v1 v2 vA;go_wp2_with fail
      go_ret;exact⟨by rw [HF.out]; rfl,hx⟩
     cases okR
     ·have HF:=HFF.out (by cases ein <;> rfl)
      clear HFF HSS;refine z18 W.heap.size (by kernel_rfl) (by kernel_rfl) ?_;repeat (go_big_quiet_step (first
       | (rename_i x; go_at_call 40; refine (HL.out _).mono ?_; rintro e w5 ⟨rfl,hb5⟩; exact⟨rfl,⟨w5,x.h.trans (hb5.mono x.h.size)⟩,rfl⟩)
       | (rename_i x; go_at_call 41; refine (H1.out _).mono ?_; rintro e w6 ⟨rfl,rfl⟩; exact⟨rfl,x,rfl⟩)
       | (rename_i x; go_at_call 41; refine (H2.out _).mono ?_; rintro e w6 ⟨rfl,rfl⟩; exact⟨rfl,x,rfl⟩)
       | (rename_i x; go_at_call 42; refine (HP.out _ (Nat.lt_of_lt_of_le hbeW x.h.size) (HED.out.below x.h hbeW)).mono ?_; rintro e w5 ⟨rfl,hb5⟩; exact⟨rfl,⟨w5,x.h.trans (hb5.mono x.h.size)⟩,rfl⟩)))
      refine wpQuiet_nil ?_;rintro w5 ⟨x,rfl⟩;have hx:=hbW.trans (x.h.mono hbW.size);clear u0 u1 u2 uA v0 v1 v2 vA;go_wp2_with fail
      go_ret;exact⟨by rw [HF.out]; rfl,hx⟩
     cases ein
     ·have HS:=HSS.out rfl;clear HFF HSS;refine z18 W.heap.size (by kernel_rfl) (by kernel_rfl) ?_;repeat (go_big_quiet_step (first
       | (rename_i x; go_at_call 40; refine (HL.out _).mono ?_; rintro e w5 ⟨rfl,hb5⟩; exact⟨rfl,⟨w5,x.h.trans (hb5.mono x.h.size)⟩,rfl⟩)
       | (rename_i x; go_at_call 41; refine (H1.out _).mono ?_; rintro e w6 ⟨rfl,rfl⟩; exact⟨rfl,x,rfl⟩)
       | (rename_i x; go_at_call 41; refine (H2.out _).mono ?_; rintro e w6 ⟨rfl,rfl⟩; exact⟨rfl,x,rfl⟩)
       | (rename_i x; go_at_call 42; refine (HP.out _ (Nat.lt_of_lt_of_le hbeW x.h.size) (HED.out.below x.h hbeW)).mono ?_; rintro e w5 ⟨rfl,hb5⟩; exact⟨rfl,⟨w5,x.h.trans (hb5.mono x.h.size)⟩,rfl⟩)))
      refine wpQuiet_nil ?_;rintro w5 ⟨x,rfl⟩;have hx:=hbW.trans (x.h.mono hbW.size);have kp5:=(x.h.block w.heap.size hAW).trans kpW;clear u0 u1 u2 uA v0 v1 v2 vA;go_wp2_with fail
      have hs : len - (intOf (.int .i64 ((i'+ 1 : Nat) : Int))).toNat < len - (intOf (.int .i64 (i' : Int))).toNat:=by simp only [intOf,Int.toNat_natCast]; omega
      try rw [show wrap64 ((i' : Int)+1)=((i'+ 1 : Nat) : Int) by have:=HM.out; unfold wrap64; omega]
      exact⟨⟨i'+ 1,rfl,by omega,HS,kp5,hx⟩,hs⟩
     ·have HF:=HFF.out rfl;clear HFF HSS;refine z18 W.heap.size (by kernel_rfl) (by kernel_rfl) ?_;repeat (go_big_quiet_step (first
       | (rename_i x; go_at_call 40; refine (HL.out _).mono ?_; rintro e w5 ⟨rfl,hb5⟩; exact⟨rfl,⟨w5,x.h.trans (hb5.mono x.h.size)⟩,rfl⟩)
       | (rename_i x; go_at_call 41; refine (H1.out _).mono ?_; rintro e w6 ⟨rfl,rfl⟩; exact⟨rfl,x,rfl⟩)
       | (rename_i x; go_at_call 41; refine (H2.out _).mono ?_; rintro e w6 ⟨rfl,rfl⟩; exact⟨rfl,x,rfl⟩)
       | (rename_i x; go_at_call 42; refine (HP.out _ (Nat.lt_of_lt_of_le hbeW x.h.size) (HED.out.below x.h hbeW)).mono ?_; rintro e w5 ⟨rfl,hb5⟩; exact⟨rfl,⟨w5,x.h.trans (hb5.mono x.h.size)⟩,rfl⟩)))
      refine wpQuiet_nil ?_;rintro w5 ⟨x,rfl⟩;have hx:=hbW.trans (x.h.mono hbW.size);clear u0 u1 u2 uA v0 v1 v2 vA;go_wp2_with fail
      go_ret;exact⟨by rw [HF.out]; rfl,hx⟩
    ·have e : i'= len:=by omega
     subst e;have HR2 : Hid (ns.all (nodeHas es)=R):=by
      show _=R;rw [← HRR.out,HI.out,Bool.true_and]
     clear HRR HI hEx;go_wp2_with fail
     clear pA pB;go_loopw [54] (fun j wr=> ∃ k : Nat,j= .int .i64 k∧k≤ln∧Hid ((ns.take k).all (nodeHas es)=true)∧wr.heap[w.heap.size]? =some (.cells #[.slice ae i' ce,.slice (some ⟨bt,0,none⟩) ln cn] 26)∧Below w.heap.size w wr) (fun j _=>ln - (intOf j).toNat)
     case atStart=>exact⟨0,rfl,Nat.zero_le _,rfl,kp,hbx⟩
     case round=>
      clear kp hbx hAlt;obtain⟨k,rfl,hk,HI,kp,hbx⟩:=hrel;have hAlt:=z13 kp;obtain⟨pA,pB⟩:=fcl2 kp;by_cases hlt : (k : Int) < (ln : Int)
      ·have hil : k < ns.length:=by rw [Hlen.out.2]; omega
       have hNx:=HN.out.below hbx hbt;obtain⟨c0,c1,c2,c3,c4,c5⟩:=fsx (hNx k hil);obtain⟨nd,hnd⟩ : ∃ nd,ns.getD k default=nd:=⟨_,rfl⟩
       have hF : nodeHas es nd=false→Hid (R=false):=fun h=>by
        show R=false;rw [← HR2.out];exact has_false hil (by rw [hnd]; exact h)
       have hS : nodeHas es nd=true→Hid ((ns.take (k+1)).all (nodeHas es)=true):=fun h=>has_step hil HI.out (by rw [hnd]; exact h)
       rw [hnd] at c0 c1 c2 c3 c4 c5;simp only [Nd.cell,Nat.add_zero,Nat.zero_add] at c0 c1 c2 c3 c4 c5;obtain⟨kd,num,a,bb,cc,kids⟩:=nd;dsimp only at*;have hszx:=hbx.size;have HP : Hid (∀ w',be < w'.heap.size→EffsAt w' be 0 es→_):=fun w' hb h=>hasEff_calls ae ce es a w' (by rw [Hlen.out.1]; have:=HM.out; omega) (fun h0=>⟨be,0,HAe.out.2 h0,hb,h⟩)
       rw [Hlen.out.1] at HP;have HEx : Hid (EffsAt wr be 0 es):=HE.out.below hbx hbe;have hbeR : be < wr.heap.size:=by omega
       simp only [nodeHas] at hF hS;clear hNx hil hnd HI;generalize effIn es a=ein at*;have hq : (kd==22)=true∨((kd==22)=false∧(kd==26)=true)∨((kd==22)=false∧(kd==26)=false):=by
        cases (kd==22) <;> cases (kd==26) <;> simp
       rcases hq with k22 | ⟨k22,k26⟩ | ⟨k22,k26⟩
       ·cases ein
        ·have HF:=hF (by rw [k22]; simp);clear hF hS;go_wp2_with fail
         refine (HP.out _ (by simp; omega) (HEx.out.below ((Below.refl _ _).alloc (Nat.le_refl _) _) hbeR)).mono ?_;rintro e w6 ⟨rfl,hb6⟩;have hx6:=(hbx.alloc hszx _).trans (hb6.mono (by simp; omega));clear hb6;go_wp2_with fail
         go_ret;exact⟨by rw [HF.out]; rfl,hx6⟩
        ·have HS:=hS (by simp);clear hF hS;go_wp2_with fail
         refine (HP.out _ (by simp; omega) (HEx.out.below ((Below.refl _ _).alloc (Nat.le_refl _) _) hbeR)).mono ?_;rintro e w6 ⟨rfl,hb6⟩;have hx6:=(hbx.alloc hszx _).trans (hb6.mono (by simp; omega));have kp6:=(hb6.block w.heap.size (by simp; omega)).trans ((Below.heap_alloc _ _ _ hAlt).trans kp);clear hb6;go_wp2_with fail
         have hs : ln - (intOf (.int .i64 ((k+1 : Nat) : Int))).toNat < ln - (intOf (.int .i64 (k : Int))).toNat:=by simp only [intOf,Int.toNat_natCast]; omega
         try rw [show wrap64 ((k : Int)+1)=((k+1 : Nat) : Int) by have:=HM.out; unfold wrap64; omega]
         exact⟨⟨k+1,rfl,by omega,HS,kp6,hx6⟩,hs⟩
       ·cases ein
        ·have HF:=hF (by rw [k26]; simp);clear hF hS;go_wp2_with fail
         refine (HP.out _ (by simp; omega) (HEx.out.below ((Below.refl _ _).alloc (Nat.le_refl _) _) hbeR)).mono ?_;rintro e w6 ⟨rfl,hb6⟩;have hx6:=(hbx.alloc hszx _).trans (hb6.mono (by simp; omega));clear hb6;go_wp2_with fail
         go_ret;exact⟨by rw [HF.out]; rfl,hx6⟩
        ·have HS:=hS (by simp);clear hF hS;go_wp2_with fail
         refine (HP.out _ (by simp; omega) (HEx.out.below ((Below.refl _ _).alloc (Nat.le_refl _) _) hbeR)).mono ?_;rintro e w6 ⟨rfl,hb6⟩;have hx6:=(hbx.alloc hszx _).trans (hb6.mono (by simp; omega));have kp6:=(hb6.block w.heap.size (by simp; omega)).trans ((Below.heap_alloc _ _ _ hAlt).trans kp);clear hb6;go_wp2_with fail
         have hs : ln - (intOf (.int .i64 ((k+1 : Nat) : Int))).toNat < ln - (intOf (.int .i64 (k : Int))).toNat:=by simp only [intOf,Int.toNat_natCast]; omega
         try rw [show wrap64 ((k : Int)+1)=((k+1 : Nat) : Int) by have:=HM.out; unfold wrap64; omega]
         exact⟨⟨k+1,rfl,by omega,HS,kp6,hx6⟩,hs⟩
       ·have HS:=hS (by rw [k22,k26]; rfl);clear hF hS HP;go_wp2_with fail
        have hs : ln - (intOf (.int .i64 ((k+1 : Nat) : Int))).toNat < ln - (intOf (.int .i64 (k : Int))).toNat:=by simp only [intOf,Int.toNat_natCast]; omega
        try rw [show wrap64 ((k : Int)+1)=((k+1 : Nat) : Int) by have:=HM.out; unfold wrap64; omega]
        exact⟨⟨k+1,rfl,by omega,HS,(Below.heap_alloc _ _ _ hAlt).trans kp,hbx.alloc hszx _⟩,hs⟩
      ·have e : k=ln:=by omega
       have HT : Hid (R=true):=by
        show R=true;rw [← HR2.out];have:=HI.out;rwa [List.take_of_length_le (by rw [Hlen.out.2]; omega)] at this
       clear HI;go_wp2_with fail
       go_ret;exact⟨by rw [HT.out]; rfl,hbx⟩
end
end Go.Proofs.YtfbojelpdccjaaaGreatDoor
