import Derived.Deep.RegionWith
import Derived.Deep.RegionHeld
import Derived.BigQuiet
import Derived.BigRegion
import Derived.Test.YtfbojelpdccjaaaGreatDoorPkB1
import Derived.Test.YtfbojelpdccjaaaGreatDoorPkB3
import Derived.Test.YtfbojelpdccjaaaGreatDoorPkB4
import Derived.Test.YtfbojelpdccjaaaGreatDoorPkB0
set_option maxHeartbeats 4000000
set_option maxRecDepth 100000
namespace Go.Proofs.YtfbojelpdccjaaaGreatDoor
open Go.RowKit
variable {k num : Int} {ns : List Nd} {i : Nat} {n : Nd}
section
open Go.RowKit
def Nd.nm (n : Nd) : Nat→ByteArray
 | 0=>n.a
 | 1=>n.b
 | _=>n.c
def fit (nm : Int) (i : Nat) (s : ByteArray) : Bool:=if (i : Int) < nm then nameOk s else s.toList== []
def kidsOk (k kids : Int) : Bool:=if arityZ k= -1 then false else if arityZ k= -2 then decide (2≤kids∧kids≤6) else decide (kids=arityZ k)
def numOk (k num : Int) : Bool:=decide (0≤num∧num≤mostZ k)
def namesOk (n : Nd) : Bool:=fit (namesZ n.kind) 0 n.a && (fit (namesZ n.kind) 1 n.b && fit (namesZ n.kind) 2 n.c)
def unlike (n : Nd) : Bool:=!(n.kind==20 && n.a.toList==n.b.toList)
def ownOk (n : Nd) : Bool:=kidsOk n.kind n.kids && (namesOk n && (unlike n && numOk n.kind n.num))
theorem arity_range (k : Int) : arityZ k= -1∨arityZ k= -2∨(0≤arityZ k∧arityZ k≤3):=by
 rcases kinds k with rfl | rfl | rfl | rfl | rfl | rfl | rfl | rfl | rfl | rfl | rfl | rfl | rfl | rfl | rfl | rfl | rfl | rfl | rfl | rfl | rfl | rfl | rfl | rfl | rfl | rfl | h
 all_goals try decide
 exact Or.inl (tab_other h)
theorem names_case {k : Int} (h : k=20) : 1 < namesZ k:=by subst h; decide
theorem most_one : mostZ 1=999999999:=rfl
theorem most_two : mostZ 2=1:=rfl
theorem most_other {k : Int} (h1 : k≠1) (h2 : k≠2) : mostZ k=0:=by
 rcases kinds k with rfl | rfl | rfl | rfl | rfl | rfl | rfl | rfl | rfl | rfl | rfl | rfl | rfl | rfl | rfl | rfl | rfl | rfl | rfl | rfl | rfl | rfl | rfl | rfl | rfl | rfl | h
 all_goals try (first | (exact absurd rfl h1) | (exact absurd rfl h2) | rfl)
 exact tab_other h
theorem num_one (h : 0≤num) : numOk 1 num=decide (num≤999999999):=by
 unfold numOk;rw [most_one];exact decide_eq_decide.2 ⟨fun x=>x.2,fun x=>⟨h,x⟩⟩
theorem num_one_neg (h : ¬ 0≤num) : numOk 1 num=false:=decide_eq_false (fun x=>h x.1)
theorem num_zero (h : mostZ k=0) : numOk k num=(num==0):=by
 unfold numOk;rw [h,Bool.eq_iff_iff,decide_eq_true_iff,beq_iff_eq];omega
theorem empty_name {s : ByteArray} (h : (s.toList== [])=true) : nameOk s=false:=by
 refine nameOk_size (fun hh=>?_);have h1 : s.toList= []:=by simpa using h
 rw [ByteArray.toList_eq] at h1;have h2 : s.data.toList.length=0:=by rw [h1]; rfl
 rw [Array.length_toList] at h2;have : s.size=0:=h2;omega
theorem fit_all (h : ∀ i,i < 3→fit (namesZ n.kind) i (n.nm i)=true) : namesOk n=true:=by
 have h0:=h 0 (by omega);have h1:=h 1 (by omega);have h2:=h 2 (by omega);simp only [Nd.nm] at h0 h1 h2;simp [namesOk,h0,h1,h2]
theorem fit_none (hi : i < 3) (h : fit (namesZ n.kind) i (n.nm i)=false) : namesOk n=false:=by
 match i,hi,h with
 | 0,_,h=>simp only [Nd.nm] at h; simp [namesOk,h]
 | 1,_,h=>simp only [Nd.nm] at h; simp [namesOk,h]
 | 2,_,h=>simp only [Nd.nm] at h; simp [namesOk,h]
theorem own_many (k num : Int) (a b c : ByteArray) (kids : Int) (w : World) (hK : kidsOk k kids=true) (h2 : arityZ k= -2) (hk2 : 2≤kids) (hk6 : kids≤6) :
 Calls Tryz.prog 47 #[.agg #[.int .i64 k,.int .i64 num,.string a,.string b,.string c,.int .i64 kids]] w fun e w'=> e= .returned (.bool (ownOk ⟨k,num,a,b,c,kids⟩))∧Below w.heap.size w w':= by
 have HN : Hid (∀ w,_):=names_calls k;have hac:=arity_calls k;rw [h2] at hac;have HC : Hid (∀ w,_):=hac;clear hac h2;go_enter Tryz.func47,Tryz.ntmps47
 go_wp2_with (first | (go_at_call 86; refine (HC.out _).mono ?_; rintro e w2 ⟨rfl,rfl⟩))
 go_loopw [5] (fun i wr=> ∃ j : Nat,i= .int .i64 j∧j≤3∧Hid (∀ i,i < j→fit (namesZ k) i (Nd.nm ⟨k,num,a,b,c,kids⟩ i)=true)∧wr.heap[w.heap.size]? =some (.cells #[.int .i64 k,.int .i64 num,.string a,.string b,.string c,.int .i64 kids] 60)∧wr.heap[w.heap.size+1]? =some (.cells #[.string a,.string b,.string c] 9)∧Below w.heap.size w wr) (fun i _=>3 - (intOf i).toNat)
 case atStart=>
  have e1:=(MapKept.heap_alloc w (.cells #[.int .i64 k,.int .i64 num,.string a,.string b,.string c,.int .i64 kids] 60)).1;refine⟨0,rfl,by omega,fun i hi=>by omega,?_,?_,((Below.refl _ _).alloc (Nat.le_refl _) _).alloc (by simp) _⟩
  ·rw [Below.heap_alloc _ _ _ (by simp)];exact e1
  ·have:=(MapKept.heap_alloc (w.alloc (.cells #[.int .i64 k,.int .i64 num,.string a,.string b,.string c,.int .i64 kids] 60)) (.cells #[.string a,.string b,.string c] 9)).1;simpa using this
 case round=>
  obtain⟨j,rfl,hj3,HA,eA,eN,hnx⟩:=hrel;have a0:=z8 eA 0;simp at a0;have hltA:=z13 eA;have hltN:=z13 eN;by_cases hj : j < 3
  ·have cN : wr.cell? ⟨w.heap.size+1,j,none⟩=some (.string (Nd.nm ⟨k,num,a,b,c,kids⟩ j)):=by
    rw [z8 eN j];match j,hj with
    | 0,_=>rfl
    | 1,_=>rfl
    | 2,_=>rfl
   have step : fit (namesZ k) j (Nd.nm ⟨k,num,a,b,c,kids⟩ j)=true→Hid (∀ i,i < j+1→fit (namesZ k) i (Nd.nm ⟨k,num,a,b,c,kids⟩ i)=true):=fun h i hi=>by
    by_cases e : i=j
    ·rw [e];exact h
    ·exact HA.out i (by omega)
   have fin : fit (namesZ k) j (Nd.nm ⟨k,num,a,b,c,kids⟩ j)=false→Hid (ownOk ⟨k,num,a,b,c,kids⟩=false):=fun h=>by
    show ownOk _=false;have:=fit_none (n:=⟨k,num,a,b,c,kids⟩) hj h;simp [ownOk,this]
   have hLn:=specName_calls (Nd.nm ⟨k,num,a,b,c,kids⟩ j);have hem:= @empty_name (Nd.nm ⟨k,num,a,b,c,kids⟩ j);unfold fit at step fin;generalize Nd.nm ⟨k,num,a,b,c,kids⟩ j=s at*;generalize hnm : namesZ k=nm at*;have eA' : Hid (wr.heap[w.heap.size]? =some (.cells #[.int .i64 k,.int .i64 num,.string a,.string b,.string c,.int .i64 kids] 60)):=eA;have eN' : Hid (wr.heap[w.heap.size+1]? =some (.cells #[.string a,.string b,.string c] 9)):=eN;have hi3 : (j : Int) < 3:=by omega
   have htf : (true !=false)=true:=rfl;have hft : (false !=true)=true:=rfl;clear HA eA eN hnm;by_cases hjn : (j : Int) < nm
   ·rw [if_pos hjn] at step fin
    cases he : (s.toList== []) with
    | true=>
      have HF:=fin (hem he);have HL : Hid (∀ w,_):=hLn;clear hem step fin hLn;go_wp2_with fail
      go_quiet (first | (go_at_call 87; refine Calls.quiet_of_same ((HN.out _).mono (fun _ _ h=>⟨h.1,h.2.symm⟩))))
      go_wp2_with fail
      go_ret;exact⟨by rw [HF.out]; rfl,z42 hnx _⟩
    | false=>
      cases hn : nameOk s with
      | true=>
        have HS:=step hn;rw [hn] at hLn;have HL : Hid (∀ w,_):=hLn;clear hem step fin hLn hn;go_wp2_with fail
        go_region_held (fun w'=> w'.cell? ⟨w.heap.size,0,none⟩=some (.int .i64 k)∧w'.cell? ⟨w.heap.size+1,j,none⟩=some (.string s)) (go_keep) (first | (go_at_call 87; refine (HN.out _).mono ?_; rintro e w2 ⟨rfl,rfl⟩) | (go_at_call 24; refine (HL.out _).mono ?_; rintro e w2 ⟨rfl,hb2⟩; have a0':= (hb2.cell (p:=⟨w.heap.size,0,none⟩) hltA).trans a0; have cN':= (hb2.cell (p:=⟨w.heap.size+1,j,none⟩) hltN).trans cN))
        all_goals
         have eA2:=(hb2.block w.heap.size hltA).trans eA'.out;have eN2:=(hb2.block (w.heap.size+1) hltN).trans eN'.out;have hnx2:=hnx.drew.trans (hb2.mono hnx.size);clear hb2 a0 cN a0' cN';go_wp2_with fail
         exact⟨⟨j+1,by simp,by omega,HS,eA2,eN2,hnx2⟩,by simp [intOf]; omega⟩
      | false=>
        have HF:=fin hn;rw [hn] at hLn;have HL : Hid (∀ w,_):=hLn;clear hem step fin hLn hn;go_wp2_with fail
        go_region_held (fun w'=> w'.cell? ⟨w.heap.size,0,none⟩=some (.int .i64 k)∧w'.cell? ⟨w.heap.size+1,j,none⟩=some (.string s)) (go_keep) (first | (go_at_call 87; refine (HN.out _).mono ?_; rintro e w2 ⟨rfl,rfl⟩) | (go_at_call 24; refine (HL.out _).mono ?_; rintro e w2 ⟨rfl,hb2⟩; have a0':= (hb2.cell (p:=⟨w.heap.size,0,none⟩) hltA).trans a0; have cN':= (hb2.cell (p:=⟨w.heap.size+1,j,none⟩) hltN).trans cN))
        all_goals
         have hnx2:=hnx.drew.trans (hb2.mono hnx.size);clear hb2 a0 cN a0' cN';go_wp2_with fail
         go_ret;exact⟨by rw [HF.out]; rfl,hnx2⟩
   ·rw [if_neg hjn] at step fin;have hjd : decide ((j : Int) < nm)=false:=decide_eq_false hjn;have HL : Hid (∀ w,_):=hLn
    cases he : (s.toList== []) with
    | true=>
      have HS:=step he;clear hem step fin hLn;go_wp2_with fail
      go_quiet (first | (go_at_call 87; refine Calls.quiet_of_same ((HN.out _).mono (fun _ _ h=>⟨h.1,h.2.symm⟩))))
      go_wp2_with fail
      exact⟨⟨j+1,by simp,by omega,HS,eA'.out,eN'.out,z42 hnx _⟩,by simp [intOf]; omega⟩
    | false=>
      have HF:=fin he;clear hem step fin hLn;go_wp2_with fail
      go_quiet (first | (go_at_call 87; refine Calls.quiet_of_same ((HN.out _).mono (fun _ _ h=>⟨h.1,h.2.symm⟩))))
      go_wp2_with fail
      go_ret;exact⟨by rw [HF.out]; rfl,z42 hnx _⟩
  ·have hnames : namesOk ⟨k,num,a,b,c,kids⟩=true:=fit_all (fun i hi=>HA.out i (by omega));have hO : ownOk ⟨k,num,a,b,c,kids⟩=(!(k==20 && a.toList==b.toList) && numOk k num):=by simp [ownOk,hK,hnames,unlike]
   have a1:=z8 eA 1;have a2:=z8 eA 2;have a3:=z8 eA 3;simp at a1 a2 a3;have hnc:= @names_case k;have hm0:= @most_other k;clear HA eA eN hnames;generalize namesZ k=nm at*;by_cases h20 : k=20
   ·subst h20;have hnm1 : 1 < nm:=hnc rfl
    cases hab : (a.toList==b.toList) with
    | true=>
      have HO : Hid (ownOk ⟨20,num,a,b,c,kids⟩=false):=by show _=_; rw [hO,hab]; rfl
      clear hO hnc hm0;go_wp2_with (first | (go_at_call 87; refine (HN.out _).mono ?_; rintro e w2 ⟨rfl,rfl⟩))
      go_ret;exact⟨by rw [HO.out]; rfl,hnx⟩
    | false=>
      have HO : Hid (ownOk ⟨20,num,a,b,c,kids⟩=(num==0)):=by
       show _=_;rw [hO,hab,numOk,hm0 (by omega) (by omega),Bool.eq_iff_iff];simp;omega
      clear hO hnc hm0;go_wp2_with (first | (go_at_call 87; refine (HN.out _).mono ?_; rintro e w2 ⟨rfl,rfl⟩))
      go_ret;exact⟨by rw [HO.out]; rfl,hnx⟩
   ·have h20' : (k==20)=false:=by rw [beq_eq_false_iff_ne]; exact h20
    rw [h20',Bool.false_and,Bool.not_false,Bool.true_and] at hO;clear hnc h20;by_cases h1 : k=1
    ·subst h1;by_cases hn0 : 0≤num
     ·have HO : Hid (ownOk ⟨1,num,a,b,c,kids⟩=decide (num≤999999999)):=by
       exact hO.trans (num_one hn0)
      clear hO hm0 h20';go_wp2_with (first | (go_at_call 87; refine (HN.out _).mono ?_; rintro e w2 ⟨rfl,rfl⟩))
      all_goals
       go_ret;exact⟨by rw [HO.out]; rfl,hnx⟩
     ·have HO : Hid (ownOk ⟨1,num,a,b,c,kids⟩=false):=by
       exact hO.trans (num_one_neg hn0)
      clear hO hm0 h20';go_wp2_with (first | (go_at_call 87; refine (HN.out _).mono ?_; rintro e w2 ⟨rfl,rfl⟩))
      all_goals
       go_ret;exact⟨by rw [HO.out]; rfl,hnx⟩
    ·by_cases h2 : k=2
     ·subst h2;by_cases hn0 : num=0
      ·have hn0' : (num==0)=true:=by rw [hn0]; rfl
       have HO : Hid (ownOk ⟨2,num,a,b,c,kids⟩=true):=by
        show _=_;rw [hO,numOk,most_two];simp;omega
       clear hO hm0 h20' hn0;go_wp2_with (first | (go_at_call 87; refine (HN.out _).mono ?_; rintro e w2 ⟨rfl,rfl⟩))
       all_goals
        go_ret;exact⟨by rw [HO.out]; rfl,hnx⟩
      ·have hn0' : (num==0)=false:=by rw [beq_eq_false_iff_ne]; exact hn0
       have HO : Hid (ownOk ⟨2,num,a,b,c,kids⟩=(num==1)):=by
        show _=_;rw [hO,numOk,most_two,Bool.eq_iff_iff];simp;omega
       clear hO hm0 h20' hn0;go_wp2_with (first | (go_at_call 87; refine (HN.out _).mono ?_; rintro e w2 ⟨rfl,rfl⟩))
       all_goals
        go_ret;exact⟨by rw [HO.out]; rfl,hnx⟩
     ·have HO : Hid (ownOk ⟨k,num,a,b,c,kids⟩=(num==0)):=by
       exact hO.trans (num_zero (hm0 h1 h2))
      have h1' : (k==1)=false:=by rw [beq_eq_false_iff_ne]; exact h1
      have h2' : (k==2)=false:=by rw [beq_eq_false_iff_ne]; exact h2
      clear hO hm0 h1 h2;go_wp2_with (first | (go_at_call 87; refine (HN.out _).mono ?_; rintro e w2 ⟨rfl,rfl⟩))
      all_goals
       go_ret;exact⟨by rw [HO.out]; rfl,hnx⟩
def nodeOkZ (n : Nd) : Bool:=ownOk n && !(n.kind==26 && n.b.toList==n.c.toList)
theorem shape_in (h : ¬ (k < 1∨26 < k)) : shapeVal k= .tuple #[.agg #[.int .i64 (namesZ k),.int .i64 (mostZ k),.int .i64 (leastZ k),.int .i64 (greatZ k)],.bool true]:=by rw [shapeVal,if_neg h]
theorem shape_out (h : k < 1∨26 < k) : shapeVal k= .tuple #[.agg #[.int .i64 0,.int .i64 0,.int .i64 0,.int .i64 0],.bool false]:=by rw [shapeVal,if_pos h]
theorem own_out (h : n.kind < 1∨26 < n.kind) : nodeOkZ n=false:=by
 have : arityZ n.kind= -1:=tab_other h;simp [nodeOkZ,ownOk,kidsOk,this]
theorem arity_in (h : ¬ (k < 1∨26 < k)) : arityZ k≠ -1:=by
 rcases kinds k with rfl | rfl | rfl | rfl | rfl | rfl | rfl | rfl | rfl | rfl | rfl | rfl | rfl | rfl | rfl | rfl | rfl | rfl | rfl | rfl | rfl | rfl | rfl | rfl | rfl | rfl | hh
 all_goals try decide
 exact absurd hh h
theorem kids_in {kids : Int} (h : ¬ (k < 1∨26 < k)) : kidsOk k kids=decide (leastZ k≤kids∧kids≤greatZ k):=by
 unfold kidsOk leastZ greatZ;rw [if_neg (arity_in h)];by_cases h2 : arityZ k= -2
 ·rw [if_pos h2,if_pos h2,if_pos h2]
 ·rw [if_neg h2,if_neg h2,if_neg h2];exact decide_eq_decide.2 ⟨fun x=>by omega,fun x=>by omega⟩
theorem nodeOk_loop (k num : Int) (a b c : ByteArray) (kids : Int) (w : World) (ha : a.size≤maxLen) (hb : b.size≤maxLen) (hc : c.size≤maxLen) (nm mo le gr : Int)
 (hsh : ∀ w,Calls Tryz.prog 113 #[.int .i64 k] w fun e w'=> e= .returned (.tuple #[.agg #[.int .i64 nm,.int .i64 mo,.int .i64 le,.int .i64 gr],.bool true])∧Below w.heap.size w w')
 (h1 : 0≤num) (h2 : num≤mo) (h3 : le≤kids) (h4 : kids≤gr) (hnm : Hid (nm=namesZ k)) (hK : kidsOk k kids=true) (hN : numOk k num=true) :
 Calls Tryz.prog 72 #[.agg #[.int .i64 k,.int .i64 num,.string a,.string b,.string c,.int .i64 kids]] w fun e w'=> e= .returned (.bool (nodeOkZ ⟨k,num,a,b,c,kids⟩))∧Below w.heap.size w w':= by
 have HS : Hid (∀ w,_):=hsh;clear hsh;have HK : Hid (kidsOk k kids=true):=hK;have HM : Hid (numOk k num=true):=hN;clear hK hN;go_enter Tryz.func72,Tryz.ntmps72
 go_wp2_with (first | (go_at_call 113; refine (HS.out _).mono ?_; rintro e w2 ⟨rfl,hb2⟩; obtain⟨eA,hnx⟩:=one_kept hb2; clear hb2; have hltA:=z13 eA; have a0:=z8 eA 0; have a1:=z8 eA 1; have a2:=z8 eA 2; have a3:=z8 eA 3; have a4:=z8 eA 4; have a5:=z8 eA 5; simp at a0 a1 a2 a3 a4 a5))
 clear a0 a1 a2 a3 a4 a5;go_loopw [49] (fun i wr=> ∃ j : Nat,i= .int .i64 j∧j≤3∧Hid (∀ i,i < j→fit nm i (Nd.nm ⟨k,num,a,b,c,kids⟩ i)=true)∧wr.heap[w.heap.size]? =some (.cells #[.int .i64 k,.int .i64 num,.string a,.string b,.string c,.int .i64 kids] 60)∧wr.heap[w2.heap.size]? =some (.cells #[.int .i64 nm,.int .i64 mo,.int .i64 le,.int .i64 gr] 144)∧wr.heap[w2.heap.size+1]? =some (.cells #[.string a,.string b,.string c] 9)∧Below w.heap.size w wr) (fun i _=>3 - (intOf i).toNat)
 case atStart=>
  refine⟨0,rfl,by omega,fun i hi=>by omega,?_,?_,?_,(hnx.alloc (by have:=hnx.size; omega) _).alloc (by have:=hnx.size; simp; omega) _⟩
  ·rw [Below.heap_alloc _ _ _ (by simp; omega),Below.heap_alloc _ _ _ hltA];exact eA
  ·rw [Below.heap_alloc _ _ _ (by simp)];exact (MapKept.heap_alloc w2 _).1
  ·have:=(MapKept.heap_alloc (w2.alloc (.cells #[.int .i64 nm,.int .i64 mo,.int .i64 le,.int .i64 gr] 144)) (.cells #[.string a,.string b,.string c] 9)).1;simpa using this
 case round=>
  obtain⟨j,rfl,hj3,HA,eA,eS,eN,hnx⟩:=hrel;have s0:=z8 eS 0;simp at s0;have hltA:=z13 eA;have hltS:=z13 eS;have hltN:=z13 eN;by_cases hj : j < 3
  ·have hi3 : (j : Int) < 3:=by omega
   have cN : wr.cell? ⟨w2.heap.size+1,j,none⟩=some (.string (Nd.nm ⟨k,num,a,b,c,kids⟩ j)):=by
    rw [z8 eN j];match j,hj with
    | 0,_=>rfl
    | 1,_=>rfl
    | 2,_=>rfl
   have hsj : (Nd.nm ⟨k,num,a,b,c,kids⟩ j).size≤maxLen:=by
    match j,hj with
    | 0,_=>exact ha
    | 1,_=>exact hb
    | 2,_=>exact hc
   have step : fit nm j (Nd.nm ⟨k,num,a,b,c,kids⟩ j)=true→Hid (∀ i,i < j+1→fit nm i (Nd.nm ⟨k,num,a,b,c,kids⟩ i)=true):=fun h i hi=>by
    by_cases e : i=j
    ·rw [e];exact h
    ·exact HA.out i (by omega)
   have fin : fit nm j (Nd.nm ⟨k,num,a,b,c,kids⟩ j)=false→Hid (nodeOkZ ⟨k,num,a,b,c,kids⟩=false):=fun h=>by
    show nodeOkZ _=false;rw [hnm.out] at h;have:=fit_none (n:=⟨k,num,a,b,c,kids⟩) hj h;simp [nodeOkZ,ownOk,this]
   have hLn:=implName_calls (Nd.nm ⟨k,num,a,b,c,kids⟩ j) hsj;unfold fit at step fin;generalize Nd.nm ⟨k,num,a,b,c,kids⟩ j=s at*;have eA' : Hid (wr.heap[w.heap.size]? =some (.cells #[.int .i64 k,.int .i64 num,.string a,.string b,.string c,.int .i64 kids] 60)):=eA;have eS' : Hid (wr.heap[w2.heap.size]? =some (.cells #[.int .i64 nm,.int .i64 mo,.int .i64 le,.int .i64 gr] 144)):=eS;have eN' : Hid (wr.heap[w2.heap.size+1]? =some (.cells #[.string a,.string b,.string c] 9)):=eN;clear HA eA eS eN;have HL : Hid (∀ w,_):=hLn;clear hLn;by_cases hjn : (j : Int) < nm
   ·rw [if_pos hjn] at step fin;have hjd : decide (nm≤(j : Int))=false:=decide_eq_false (by omega)
    cases hn : nameOk s with
    | true=>
      have HT:=step hn;clear step fin;rw [hn] at HL;go_wp2_with (first | (go_at_call 40; refine (HL.out _).mono ?_; rintro e w3 ⟨rfl,hb3⟩; have s0':= (hb3.cell (p:=⟨w2.heap.size,0,none⟩) hltS).trans s0))
      all_goals
       have eA2:=(hb3.block w.heap.size hltA).trans eA'.out;have eS2:=(hb3.block w2.heap.size hltS).trans eS'.out;have eN2:=(hb3.block (w2.heap.size+1) hltN).trans eN'.out;have hnx2:=hnx.trans (hb3.mono hnx.size);exact⟨⟨j+1,by simp,by omega,HT,eA2,eS2,eN2,hnx2⟩,by simp [intOf]; omega⟩
    | false=>
      have HF:=fin hn;clear step fin;rw [hn] at HL;go_wp2_with (first | (go_at_call 40; refine (HL.out _).mono ?_; rintro e w3 ⟨rfl,hb3⟩; have s0':= (hb3.cell (p:=⟨w2.heap.size,0,none⟩) hltS).trans s0))
      all_goals
       have hnx2:=hnx.trans (hb3.mono hnx.size);go_ret;exact⟨by rw [HF.out]; rfl,hnx2⟩
   ·rw [if_neg hjn] at step fin;have hjd : decide (nm≤(j : Int))=true:=decide_eq_true (by omega)
    cases he : (s.toList== []) with
    | true=>
      have HT:=step he;clear step fin;go_wp2_with fail
      all_goals exact⟨⟨j+1,by simp,by omega,HT,eA'.out,eS'.out,eN'.out,hnx⟩,by simp [intOf]; omega⟩
    | false=>
      have HF:=fin he;clear step fin;go_wp2_with fail
      all_goals
       go_ret;exact⟨by rw [HF.out]; rfl,hnx⟩
  ·have hnames : namesOk ⟨k,num,a,b,c,kids⟩=true:=fit_all (fun i hi=>by have:=HA.out i (by omega); rw [hnm.out] at this; exact this);have hO : nodeOkZ ⟨k,num,a,b,c,kids⟩=(!(k==20 && a.toList==b.toList) && !(k==26 && b.toList==c.toList)):=by simp [nodeOkZ,ownOk,HK.out,HM.out,hnames,unlike]
   have a0:=z8 eA 0;have a2:=z8 eA 2;have a3:=z8 eA 3;have a4:=z8 eA 4;simp at a0 a2 a3 a4;clear HA eA eS eN hnames s0 HK HM hnm HS;by_cases h20 : k=20
   ·subst h20
    cases hab : (a.toList==b.toList) with
    | true=>
      have HO : Hid (nodeOkZ ⟨20,num,a,b,c,kids⟩=false):=by show _=_; rw [hO,hab]; rfl
      clear hO;go_wp2_with fail
      all_goals
       go_ret;exact⟨by rw [HO.out]; rfl,hnx⟩
    | false=>
      have HO : Hid (nodeOkZ ⟨20,num,a,b,c,kids⟩=true):=by show _=_; rw [hO,hab]; rfl
      clear hO;go_wp2_with fail
      all_goals
       go_ret;exact⟨by rw [HO.out]; rfl,hnx⟩
   ·have h20' : (k==20)=false:=by rw [beq_eq_false_iff_ne]; exact h20
    by_cases h26 : k=26
    ·subst h26;have HO : Hid (nodeOkZ ⟨26,num,a,b,c,kids⟩=!(b.toList==c.toList)):=by show _=_; rw [hO]; rfl
     clear hO h20 h20';go_wp2_with fail
     all_goals
      go_ret;exact⟨by rw [HO.out]; rfl,hnx⟩
    ·have h26' : (k==26)=false:=by rw [beq_eq_false_iff_ne]; exact h26
     have HO : Hid (nodeOkZ ⟨k,num,a,b,c,kids⟩=true):=by show _=_; rw [hO,h20',h26']; rfl
     clear hO h20 h26;go_wp2_with fail
     all_goals
      go_ret;exact⟨by rw [HO.out]; rfl,hnx⟩
theorem nodeOk_calls (n : Nd) (w : World) (ha : n.a.size≤maxLen) (hb : n.b.size≤maxLen) (hc : n.c.size≤maxLen) :
 Calls Tryz.prog 72 #[.agg #[.int .i64 n.kind,.int .i64 n.num,.string n.a,.string n.b,.string n.c,.int .i64 n.kids]] w fun e w'=> e= .returned (.bool (nodeOkZ n))∧Below w.heap.size w w':= by
 obtain⟨k,num,a,b,c,kids⟩:=n;dsimp only at*;have hsh:=shape_calls k;by_cases hk : k < 1∨26 < k
 ·have HO : Hid (nodeOkZ ⟨k,num,a,b,c,kids⟩=false):=own_out hk;rw [shape_out hk] at hsh;have HS : Hid (∀ w,_):=hsh;clear hsh hk;go_enter Tryz.func72,Tryz.ntmps72
  go_wp2_with (first | (go_at_call 113; refine (HS.out _).mono ?_; rintro e w2 ⟨rfl,hb2⟩; obtain⟨eA,hnx⟩:=one_kept hb2; clear hb2))
  all_goals
   go_ret;exact⟨by rw [HO.out]; rfl,hnx.alloc hnx.size _⟩
 ·rw [shape_in hk] at hsh;have hN : numOk k num=decide (0≤num∧num≤mostZ k):=rfl;have hK:=kids_in (kids:=kids) hk;by_cases h1 : (0≤num∧num≤mostZ k)∧(leastZ k≤kids∧kids≤greatZ k)
  ·exact nodeOk_loop k num a b c kids w ha hb hc _ _ _ _ hsh h1.1.1 h1.1.2 h1.2.1 h1.2.2 rfl (by rw [hK]; exact decide_eq_true h1.2) (by rw [hN]; exact decide_eq_true h1.1)
  ·have HO : Hid (nodeOkZ ⟨k,num,a,b,c,kids⟩=false):=by
    show _=_;rw [nodeOkZ,ownOk,hK,hN];by_cases h2 : 0≤num∧num≤mostZ k
    ·have h3 : ¬ (leastZ k≤kids∧kids≤greatZ k):=fun h=>h1 ⟨h2,h⟩
     simp only [decide_eq_false h3,Bool.false_and]
    ·simp only [decide_eq_false h2,Bool.and_false,Bool.false_and]
   clear hN hK;generalize mostZ k=mo at*;generalize leastZ k=le at*;generalize greatZ k=gr at*;generalize namesZ k=nm at*;have HS : Hid (∀ w,_):=hsh;have h1' : num < 0∨mo < num∨kids < le∨gr < kids:=by omega
   clear hsh h1 hk;have hb1 : (decide (num < 0) || decide (mo < num) || decide (kids < le) || decide (gr < kids))=true:=by
    simp only [Bool.or_eq_true,decide_eq_true_eq];omega
   clear h1';go_enter Tryz.func72,Tryz.ntmps72
   go_wp2_with (first | (go_at_call 113; refine (HS.out _).mono ?_; rintro e w2 ⟨rfl,hb2⟩; obtain⟨eA,hnx⟩:=one_kept hb2; clear hb2; have hltA:=z13 eA; have a1:=z8 eA 1; have a5:=z8 eA 5; simp at a1 a5))
   all_goals
    go_ret;exact⟨by rw [HO.out]; rfl,hnx.alloc hnx.size _⟩
end
section
open Go.RowKit Go.Deep
def SpecAns (ns : List Nd) (R : Bool) : Prop:=
 (¬ (1≤ns.length∧ns.length≤300)∧R=false)∨
 (1≤ns.length∧ns.length≤300∧treeEnd ns 0≠ns.length∧R=false)∨
 (1≤ns.length∧ns.length≤300∧ ∃ n k,ns=n::k.flat∧n.kids=k.count∧k.wf∧R=(ns.all ownOk && (decide (k.deep+1≤40) && specTree n k 0)))
def ImplAns (ns : List Nd) (R : Bool) : Prop:=
 (¬ (1≤ns.length∧ns.length≤300)∧R=false)∨
 (1≤ns.length∧ns.length≤300∧treeEnd ns 0≠ns.length∧R=false)∨
 (1≤ns.length∧ns.length≤300∧ ∃ n k,ns=n::k.flat∧n.kids=k.count∧k.wf∧R=(ns.all nodeOkZ && (implTree n k && decide (k.deep+1≤40))))
theorem all_both {α : Type} (p q : α→Bool) : ∀ l : List α,l.all (fun x=>p x && q x)=(l.all p && l.all q)
 | []=>rfl
 | x::l=>by
   simp only [List.all_cons,all_both p q l]
   cases p x <;> cases q x <;> cases l.all p <;> cases l.all q <;> rfl
theorem answers (ns : List Nd) : ∃ R,SpecAns ns R∧ImplAns ns R:=by
 by_cases hl : 1≤ns.length∧ns.length≤300
 ·by_cases he : treeEnd ns 0=ns.length
  ·obtain⟨n,k,h1,h2,h3⟩:=tree_of he;refine⟨_,Or.inr (Or.inr ⟨hl.1,hl.2,n,k,h1,h2,h3,rfl⟩),Or.inr (Or.inr ⟨hl.1,hl.2,n,k,h1,h2,h3,?_⟩)⟩;have e : ns.all nodeOkZ=(ns.all ownOk && ns.all ok26):=all_both ownOk ok26 ns;rw [e,trees_eq,← h1]
   cases ns.all ownOk <;> cases ns.all ok26 <;> cases implTree n k <;> cases decide (k.deep+1≤40) <;> rfl
  ·exact⟨false,Or.inr (Or.inl ⟨hl.1,hl.2,he,rfl⟩),Or.inr (Or.inl ⟨hl.1,hl.2,he,rfl⟩)⟩
 ·exact⟨false,Or.inl ⟨hl,rfl⟩,Or.inl ⟨hl,rfl⟩⟩
theorem fits_of_own (h : ownOk n=true) : Fits n n.kids.toNat:=by
 have hk : kidsOk n.kind n.kids=true:=by
  simp only [ownOk,Bool.and_eq_true] at h;exact h.1
 have hr : ¬ (n.kind < 1∨26 < n.kind):=by
  intro hx;have : arityZ n.kind= -1:=tab_other hx;simp [kidsOk,this] at hk
 unfold kidsOk at hk;have ha:=arity_range n.kind;split at hk
 ·cases hk
 ·rename_i h1;split at hk
  ·rename_i h2;have hk:=of_decide_eq_true hk;refine⟨?_,?_,by omega,by omega⟩
   ·rw [leastZ,if_pos h2]; omega
   ·rw [greatZ,if_pos h2]; omega
  ·rename_i h2;have hk:=of_decide_eq_true hk;refine⟨?_,?_,by omega,by omega⟩
   ·rw [leastZ,if_neg h2]; omega
   ·rw [greatZ,if_neg h2]; omega
theorem end_of_tree {k : Fo} (h1 : ns=n::k.flat) (h2 : n.kids=k.count) (h3 : k.wf) : treeEnd ns 0=(ns.length : Int):=by
 have:=treeEnd_at (ns:=ns) (p:=0) (n:=n) (k:=k) (suf:= []) (by rw [h1]; simp) h2 h3;rw [show ((0 : Nat) : Int)=0 from rfl] at this;rw [this,h1];simp;omega
theorem all_take_succ {p : Nd→Bool} (hi : i < ns.length) (h : (ns.take i).all p=true) (hn : p (ns.getD i default)=true) : (ns.take (i+1)).all p=true:=by
 rw [List.take_succ_eq_append_getElem hi,List.all_append,h];simp only [List.getD,List.getElem?_eq_getElem hi] at hn;simpa using hn
theorem all_false {p : Nd→Bool} (hi : i < ns.length) (hn : p (ns.getD i default)=false) : ns.all p=false:=by
 rw [List.all_eq_false];simp only [List.getD,List.getElem?_eq_getElem hi] at hn;exact⟨ns[i],List.getElem_mem _,by simpa using hn⟩
def Rest (ns : List Nd) (R : Bool) (own : Nd→Bool) (tr : Nd→Fo→Bool) : Prop:=
 (ns.all own=false→R=false)∧(ns.all own=true→(treeEnd ns 0≠(ns.length : Int)∧R=false)∨ ∃ n k,ns=n::k.flat∧n.kids=k.count∧k.wf∧treeEnd ns 0=(ns.length : Int)∧R=(tr n k && decide (k.deep+1≤40)))
theorem SpecAns.rest {R : Bool} (h : SpecAns ns R) (hl : 1≤ns.length∧ns.length≤300) : Rest ns R ownOk (fun n k=>specTree n k 0):=by
 rcases h with ⟨h,_⟩ | ⟨_,_,he,hR⟩ | ⟨_,_,n,k,h1,h2,h3,hR⟩
 ·exact absurd hl h
 ·exact⟨fun _=>hR,fun _=>Or.inl ⟨he,hR⟩⟩
 ·refine⟨fun h=>by rw [hR,h,Bool.false_and],fun h=>Or.inr ⟨n,k,h1,h2,h3,end_of_tree h1 h2 h3,?_⟩⟩;rw [hR,h,Bool.true_and,Bool.and_comm]
theorem ImplAns.rest {R : Bool} (h : ImplAns ns R) (hl : 1≤ns.length∧ns.length≤300) : Rest ns R nodeOkZ implTree:=by
 rcases h with ⟨h,_⟩ | ⟨_,_,he,hR⟩ | ⟨_,_,n,k,h1,h2,h3,hR⟩
 ·exact absurd hl h
 ·exact⟨fun _=>hR,fun _=>Or.inl ⟨he,hR⟩⟩
 ·refine⟨fun h=>by rw [hR,h,Bool.false_and],fun h=>Or.inr ⟨n,k,h1,h2,h3,end_of_tree h1 h2 h3,?_⟩⟩;rw [hR,h,Bool.true_and]
theorem flat_inj : ∀ (f g : Fo),f.wf→g.wf→f.count=g.count→ ∀ (a b : List Nd),f.flat++a=g.flat++b→f=g∧a=b
 | .none,.none,_,_,_,a,b,h=>⟨rfl,h⟩
 | .none,.tree _ _ _,_,_,hc,_,_,_=>by simp [Fo.count] at hc
 | .tree _ _ _,.none,_,_,hc,_,_,_=>by simp [Fo.count] at hc
 | .tree n k r,.tree n' k' r',hf,hg,hc,a,b,h=>by
   simp only [Fo.flat,List.cons_append,List.cons.injEq,List.append_assoc] at h;obtain⟨rfl,h⟩:=h;have h1:=hf.1;have h2:=hg.1;obtain⟨rfl,h4⟩:=flat_inj k k' hf.2.1 hg.2.1 (by omega) _ _ h;obtain⟨rfl,h5⟩:=flat_inj r r' hf.2.2 hg.2.2 (by simp only [Fo.count] at hc; omega) _ _ h4;exact⟨rfl,h5⟩
theorem tree_inj {n' : Nd} {k k' : Fo} (h1 : ns=n::k.flat) (h2 : n.kids=k.count) (h3 : k.wf) (e1 : ns=n':: k'.flat) (e2 : n'.kids=k'.count) (e3 : k'.wf) : n'= n∧k'= k:=by
 rw [h1] at e1;simp only [List.cons.injEq] at e1;obtain⟨rfl,e1⟩:=e1;obtain⟨rfl,-⟩:=flat_inj k k' h3 e3 (by omega) [] [] (by simpa using e1);exact⟨rfl,rfl⟩
theorem place_of : ∀ (f : Fo) (p : Nat),f.wf→p < f.flat.length→ ∃ (n : Nd) (k : Fo) (suf : List Nd),f.flat.drop p=n::(k.flat++suf)∧n.kids=k.count∧k.wf
 | .none,p,_,h=>by simp [Fo.flat] at h
 | .tree n k r,0,hw,_=>⟨n,k,r.flat,rfl,hw.1,hw.2.1⟩
 | .tree n k r,p+1,hw,h=>by
   simp only [Fo.flat,List.length_cons,List.length_append,List.drop_succ_cons] at h ⊢;by_cases hp : p < k.flat.length
   ·obtain⟨m,kk,suf,e,h1,h2⟩:=place_of k p hw.2.1 hp;refine⟨m,kk,suf++r.flat,?_,h1,h2⟩;rw [List.drop_append_of_le_length (by omega),e];simp
   ·obtain⟨m,kk,suf,e,h1,h2⟩:=place_of r (p - k.flat.length) hw.2.2 (by omega);refine⟨m,kk,suf,?_,h1,h2⟩;rw [List.drop_append,e];simp [List.drop_eq_nil_of_le (by omega : k.flat.length≤p)]
theorem end_in {k : Fo} (h1 : ns=n::k.flat) (h2 : n.kids=k.count) (h3 : k.wf) {p : Nat} (hp : p < ns.length) : ∃ e : Nat,treeEnd ns (p : Int)=(e : Int)∧p < e∧e≤ns.length:=by
 have hf : (Fo.tree n k .none).flat=ns:=by rw [h1]; simp [Fo.flat]
 obtain⟨m,kk,suf,e,g1,g2⟩:=place_of (.tree n k .none) p ⟨h2,h3,trivial⟩ (by rw [hf]; exact hp);rw [hf] at e;refine⟨p+1+kk.flat.length,treeEnd_at e g1 g2,by omega,?_⟩;have:=congrArg List.length e;simp only [List.length_drop,List.length_cons,List.length_append] at this;omega
end
section
open Go.RowKit
theorem info_node : (Tryz.prog.info? 60).map (fun i=>(i.zero,i.size,i.bytes))=some (some (.agg #[.int .i64 0,.int .i64 0,.string ByteArray.empty,.string ByteArray.empty,.string ByteArray.empty,.int .i64 0]),6,72):=by kernel_rfl
end
section
open Go.RowKit Go.Deep Go.ChangeShapes Go.WideShapes
def NodeSlice (w : World) (v : Value) (ns : List Nd) : Prop:=
 ∃ a cap,v= .slice a ns.length cap∧(ns= []∨ ∃ b off,a=some ⟨b,off,none⟩∧b < w.heap.size∧NodesAt w b off ns)
theorem NodeSlice.below {w w' : World} {v : Value} (h : NodeSlice w v ns) (hb : Below w.heap.size w w') : NodeSlice w' v ns:=by
 obtain⟨a,cap,rfl,h⟩:=h;refine⟨a,cap,rfl,h.imp id ?_⟩;rintro⟨b,off,rfl,hlt,hn⟩;exact⟨b,off,rfl,Nat.lt_of_lt_of_le hlt hb.size,hn.below hb hlt⟩
section
variable {H : Type} {enc : TypeId×Value→H} {W : World} {sp : Nat→Bool} {held : Bool}
end
structure Ef where
 name : ByteArray
 arg : Int
 res : Int
instance : Inhabited Ef:=⟨⟨ByteArray.empty,0,0⟩⟩
def Ef.cell (n : Ef) : Nat→Value
 | 0=> .string n.name
 | 1=> .int .i64 n.arg
 | _=> .int .i64 n.res
def EffsAt (w : World) (b off : Nat) (es : List Ef) : Prop:=
 ∀ k,k < es.length→ ∀ c,c < 3→w.cell? ⟨b,off+k*3+c,none⟩=some ((es.getD k default).cell c)
theorem EffsAt.below {w w' : World} {b off B : Nat} {es : List Ef} (h : EffsAt w b off es) (hb : Below B w w') (hB : b < B) : EffsAt w' b off es:=
 fun k hk c hc=>(hb.cell hB).trans (h k hk c hc)
theorem info_eff : (Tryz.prog.info? 45).map (fun i=>(i.zero,i.size,i.bytes))=some (some (.agg #[.string ByteArray.empty,.int .i64 0,.int .i64 0]),3,32):=by kernel_rfl
end
end Go.Proofs.YtfbojelpdccjaaaGreatDoor
