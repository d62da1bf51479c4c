import Derived.Test.YtfbojelpdccjaaaGreatDoorPkB41
set_option maxHeartbeats 1000000
set_option maxRecDepth 100000
namespace Go.Proofs.YtfbojelpdccjaaaGreatDoor
section
open Go.RowKit
def isShort (n : Nat) : Bool:= [40,41,44,43,45,42,61,60,124,58,59].contains n
theorem short_index : ∀ n : Nat,n < 128→decide (0≤Lib.indexByte [40,41,44,43,45,42,61,60,124,58,59] (n : Int).toNat.toUInt8)=isShort n:=by
 decide
def FirstRune (t : ByteArray) (r : Nat) : Prop:= ∃ h : 0 < t.size,((t[0]'h).toNat < 128∧r=(t[0]'h).toNat)∨(128≤(t[0]'h).toNat∧128≤r)
theorem containsR_calls (r : Nat) (w : World) :
 Calls Tryz.prog 121 #[.string ⟨#[40,41,44,43,45,42,61,60,124,58,59]⟩,.int .i32 r] w fun e w'=> e= .returned (.bool (decide (r < 128) && isShort r))∧Below w.heap.size w w':= by
 by_cases h : r < 128
 ·refine (Tryz.strings_ContainsRune_ascii _ (r : Int) w (by omega) (by omega)).mono ?_;rintro e w' ⟨rfl,rfl⟩;refine⟨?_,Below.refl _ _⟩;rw [short_index r h,decide_eq_true h];rfl
 ·have e : (decide (r < 128) && isShort r)=false:=by simp [h]
  rw [e];have hc:=high_calls r (by omega);have HC : Hid (∀ w,_):=hc;clear hc e;go_enter Tryz.func121,Tryz.ntmps121
  go_wp2_with fail
  refine (HC.out _).mono ?_;rintro e w2 ⟨rfl,hb⟩;go_wp2_with fail
  go_ret;exact⟨rfl,hb⟩
theorem hit_one (t : ByteArray) (h : 0 < t.size) (c : UInt8) : signHit t ⟨#[c]⟩=(t[0]'h==c):=by
 have h1 : (⟨#[c]⟩ : ByteArray).size=1:=rfl;have e : (t.extract 0 1).toList= [t[0]'h]:=by
  rw [ByteArray.toList_eq,ByteArray.data_extract];have hd : 0 < t.data.toList.length:=by rw [Array.length_toList]; exact h
  rw [Array.toList_extract]
  cases hl : t.data.toList with
  | nil=>rw [hl] at hd; simp at hd
  | cons x r=>
    have hx : t[0]'h=x:=by
     have : t.data.toList[0]'hd=x:=by simp [hl]
     rw [← this];rfl
    simp [hx,List.extract]
 have e2 : (⟨#[c]⟩ : ByteArray).toList= [c]:=by rw [ByteArray.toList_eq]
 unfold signHit;rw [h1,e,e2];simp [show 1≤t.size from h]
theorem short_of (b : UInt8) : ((([[40],[41],[44],[43],[45],[42],[61],[60],[124],[58],[59]] : List (List UInt8)).find? (fun g=>g== [b])).getD []).length=if isShort b.toNat then 1 else 0:=by
 have h : ∀ n : Nat,n < 256→((([[40],[41],[44],[43],[45],[42],[61],[60],[124],[58],[59]] : List (List UInt8)).find? (fun g=>g== [UInt8.ofNat n])).getD []).length=if isShort (UInt8.ofNat n).toNat then 1 else 0:=by decide
 have:=h b.toNat b.toNat_lt;simpa using this
theorem sign_short (t : ByteArray) (h : 0 < t.size) (hno : ∀ j,j < 3→signHit t (signStrs.getD j ByteArray.empty)=false) : (signOf t).size=if isShort (t[0]'h).toNat then 1 else 0:=by
 have n0:=hno 0 (by omega);have n1:=hno 1 (by omega);have n2:=hno 2 (by omega);rw [← short_of];unfold signOf;have e : signStrs= [signStrs.getD 0 ByteArray.empty,signStrs.getD 1 ByteArray.empty,signStrs.getD 2 ByteArray.empty]++([[40],[41],[44],[43],[45],[42],[61],[60],[124],[58],[59]] : List (List UInt8)).map (fun l=>⟨l.toArray⟩):=rfl;have hf : ∀ (l : List UInt8),(l.map fun c=>([c] : List UInt8)).find? (fun g=>signHit t ⟨g.toArray⟩)=(l.map fun c=>([c] : List UInt8)).find? (fun g=>g== [t[0]'h]):=by
  intro l;induction l with
  | nil=>rfl
  | cons c r ih=>
    have hc : signHit t ⟨([c] : List UInt8).toArray⟩=(t[0]'h==c):=hit_one t h c;have hc2 : (([c] : List UInt8)== [t[0]'h])=(t[0]'h==c):=by
     rw [Bool.eq_iff_iff];simp;exact eq_comm
    rw [List.map_cons,List.find?_cons,List.find?_cons,hc,hc2,ih]
 have hl : ([[40],[41],[44],[43],[45],[42],[61],[60],[124],[58],[59]] : List (List UInt8))=([40,41,44,43,45,42,61,60,124,58,59] : List UInt8).map fun c=> [c]:=rfl
 rw [e,List.find?_append];have hn : [signStrs.getD 0 ByteArray.empty,signStrs.getD 1 ByteArray.empty,signStrs.getD 2 ByteArray.empty].find? (signHit t)=none:=by
  rw [List.find?_eq_none];intro x hx;simp only [List.mem_cons,List.not_mem_nil,or_false] at hx;rcases hx with rfl | rfl | rfl
  ·rw [n0]; simp
  ·rw [n1]; simp
  ·rw [n2]; simp
 rw [hn,Option.none_or,List.find?_map];have hcomp : (signHit t ∘ fun l : List UInt8=>(⟨l.toArray⟩ : ByteArray))=fun g=>signHit t ⟨g.toArray⟩:=rfl
 rw [hcomp,hl,hf]
 cases hfind : (([40,41,44,43,45,42,61,60,124,58,59] : List UInt8).map fun c=>([c] : List UInt8)).find? (fun g=>g== [t[0]'h]) with
 | none=>rfl
 | some g=>rfl
theorem signSize_calls (t : ByteArray) (r : Nat) (hr : FirstRune t r) (w : World) :
 Calls Tryz.prog 92 #[.string t,.int .i32 r] w fun e w'=> e= .returned (.int .i64 (signOf t).size)∧Below w.heap.size w w':= by
 obtain⟨h0,hr⟩:=hr;obtain⟨Z,hZ⟩ : ∃ Z,(signOf t).size=Z:=⟨_,rfl⟩
 rw [hZ];have HZ : Hid ((signOf t).size=Z):=hZ;have Hr : Hid (((t[0]'h0).toNat < 128∧r=(t[0]'h0).toNat)∨(128≤(t[0]'h0).toNat∧128≤r)):=hr;clear hZ hr;go_enter Tryz.func92,Tryz.ntmps92
 go_wp2_with fail
 have hblk : (w.alloc (.cells #[.string ⟨#[45,62]⟩,.string ⟨#[61,62]⟩,.string ⟨#[58,58]⟩] 9)).heap[w.heap.size]? =some (.cells #[.string ⟨#[45,62]⟩,.string ⟨#[61,62]⟩,.string ⟨#[58,58]⟩] 9):=(MapKept.heap_alloc w _).1;have hb1 : Below w.heap.size w (w.alloc (.cells #[.string ⟨#[45,62]⟩,.string ⟨#[61,62]⟩,.string ⟨#[58,58]⟩] 9)):=(Below.refl _ _).alloc (Nat.le_refl _) _;generalize w.alloc (.cells #[.string ⟨#[45,62]⟩,.string ⟨#[61,62]⟩,.string ⟨#[58,58]⟩] 9)=W at*;have hcell : ∀ k,k < 3→W.cell? ⟨w.heap.size,k,none⟩=some (.string (signStrs.getD k ByteArray.empty)):=by
  intro k hk;rw [z8 hblk k];match k,hk with
  | 0,_=>rfl
  | 1,_=>rfl
  | 2,_=>rfl
 have hsz : ∀ k,k < 3→(signStrs.getD k ByteArray.empty).size=2:=by decide
 clear hblk;go_loop [9] (fun i=> ∃ k : Nat,i= .int .i64 k∧k≤3∧Hid (∀ j,j < k→signHit t (signStrs.getD j ByteArray.empty)=false)) (fun i=>3 - (intOf i).toNat)
 case atStart=>exact⟨0,rfl,by omega,fun j hj=>by omega⟩
 case round=>
  obtain⟨k,rfl,hk,HA⟩:=hrel;by_cases hlt : k < 3
  ·have c:=hcell k hlt;have hs2:=hsz k hlt;obtain⟨g,hg⟩ : ∃ g,signStrs.getD k ByteArray.empty=g:=⟨_,rfl⟩
   rw [hg] at c hs2;have HG : Hid (signStrs.getD k ByteArray.empty=g):=hg;clear hcell hsz hg
   cases hh : signHit t g with
   | true=>
     have HF : Hid (Z=2):=by
      rw [← HZ.out,signOf_hit (by omega) HG.out hh HA.out,hs2];rfl
     have hs3 : Hid (g.size=2):=hs2;clear HA HG HZ Hr hs2;go_wp2_with (first | (go_at_call 120; refine (prefix_calls _ _ _).mono ?_; rintro e w2 ⟨rfl,rfl⟩))
     go_ret;exact⟨by rw [HF.out,← hs3.out]; rfl,hb1⟩
   | false=>
     have HS : Hid (∀ j,j < k+1→signHit t (signStrs.getD j ByteArray.empty)=false):=fun j hj=>by
      by_cases e : j=k
      ·rw [e,HG.out];exact hh
      ·exact HA.out j (by omega)
     clear HA HG HZ Hr hs2;go_wp2_with (first | (go_at_call 120; refine (prefix_calls _ _ _).mono ?_; rintro e w2 ⟨rfl,rfl⟩))
     exact⟨⟨k+1,by simp,by omega,HS⟩,by simp [intOf]; omega⟩
  ·have hk3 : k=3:=by omega
   have hz:=sign_short t h0 (hk3 ▸ HA.out);rw [HZ.out] at hz
   cases hc : (decide (r < 128) && isShort r) with
   | true=>
     have HF : Hid (Z=1):=by
      show Z=1;rw [hz];simp at hc;rcases Hr.out with ⟨_,e⟩ | ⟨_,e⟩
      ·rw [← e,if_pos hc.2]
      ·omega
     have hcc:=containsR_calls r;rw [hc] at hcc;have HC : Hid (∀ w,_):=hcc;clear hcc hz HZ Hr HA hc hcell hsz;go_wp2_with fail
     refine (HC.out _).mono ?_;rintro e w2 ⟨rfl,hb2⟩;go_wp2_with fail
     go_ret;exact⟨by rw [HF.out]; rfl,hb1.trans (hb2.mono hb1.size)⟩
   | false=>
     have HF : Hid (Z=0):=by
      show Z=0;rw [hz];rcases Hr.out with ⟨h1,e⟩ | ⟨h1,e⟩
      ·rw [← e];simp at hc;rw [if_neg (by rw [hc (by omega)]; simp)]
      ·have : ∀ n,128≤n→isShort n=false:=by
        intro n hn;simp [isShort];omega
       rw [if_neg (by rw [this _ h1]; simp)]
     have hcc:=containsR_calls r;rw [hc] at hcc;have HC : Hid (∀ w,_):=hcc;clear hcc hz HZ Hr HA hc hcell hsz;go_wp2_with fail
     refine (HC.out _).mono ?_;rintro e w2 ⟨rfl,hb2⟩;go_wp2_with fail
     go_ret;exact⟨by rw [HF.out]; rfl,hb1.trans (hb2.mono hb1.size)⟩
def restVal : Except Int (Wd×Nat)→Value
 | .error c=> .tuple #[.agg #[.int .i64 0,.string ⟨#[]⟩,.int .i64 0],.int .i64 c]
 | .ok (d,_)=> .tuple #[.agg #[.int .i64 d.kind,.string d.text,.int .i64 0],.int .i64 0]
theorem signOf_fit (t : ByteArray) : (signOf t).size≤t.size∧t.extract 0 (signOf t).size=signOf t:=by
 unfold signOf
 cases h : signStrs.find? (signHit t) with
 | none=>
   refine⟨Nat.zero_le _,?_⟩;show t.extract 0 0=ByteArray.empty;simp
 | some g=>
   have hh:=List.find?_some h;simp only [signHit,Bool.and_eq_true,decide_eq_true_eq,beq_iff_eq] at hh;refine⟨hh.1,?_⟩;show t.extract 0 g.size=g;have:=hh.2;rw [ByteArray.toList_eq,ByteArray.toList_eq] at this;exact WideShapes.bytes_inj this
theorem number_calls (t : ByteArray) (hs : t.size≤1500) (h0 : 0 < t.size) (hd : digitZ ((t[0]'h0).toNat : Int)=true) (w : World) :
 Calls Tryz.prog 90 #[.string t,.int .i32 ((t[0]'h0).toNat : Int)] w fun e w'=> e= .returned (restVal (wordAt t 0))∧Below w.heap.size w w':= by
 obtain⟨V,hV⟩ : ∃ V,wordAt t 0=V:=⟨_,rfl⟩
 rw [hV];unfold wordAt at hV;rw [bz_at t h0,if_pos hd] at hV;dsimp only at hV;obtain⟨h1,h2,h3,h4⟩:=z36 t false (p:=0) (by omega);have hrun:=runDigits_calls t hs;obtain⟨R,hR⟩ : ∃ R,runTo t false 0=R:=⟨_,rfl⟩
 rw [hR] at h1 h2 h3 h4 hrun hV;have HR : Hid (∀ w,_):=hrun;clear hrun hR h3 h4;generalize ((t[0]'h0).toNat : Int)=x at*;by_cases h9 : 9 < R
 ·rw [if_pos (Or.inl (by omega))] at hV;subst hV;go_enter Tryz.func90,Tryz.ntmps90
  go_wp2_with fail
  refine (HR.out _).mono ?_;rintro e w2 ⟨rfl,hb⟩;obtain⟨eA,hbw⟩:=one_kept hb;clear hb;have a0:=z8 eA 0;have a1:=z8 eA 1;have a2:=z8 eA 2;have z0:=z12 eA 0;have z1:=z12 eA 1;have z2:=z12 eA 2;simp at a0 a1 a2;clear eA;go_wp2_with fail
  refine bodyPost_ret (v:=restVal (.error 3)) (by simp [restVal,results,Tryz.results90,go_sem,a0,a1,a2]) rfl ⟨rfl,?_⟩;repeat (first | exact hbw | refine Below.setCell ?_ (by simp) _)
 by_cases h1' : 1 < R
 ·by_cases h48 : x=48
  ·have hb48 : (x==48)=true:=by rw [h48]; rfl
   rw [if_pos (Or.inr ⟨h48,by omega⟩)] at hV;subst hV;clear h48 hd;go_enter Tryz.func90,Tryz.ntmps90
   go_wp2_with fail
   refine (HR.out _).mono ?_;rintro e w2 ⟨rfl,hb⟩;obtain⟨eA,hbw⟩:=one_kept hb;clear hb;have a0:=z8 eA 0;have a1:=z8 eA 1;have a2:=z8 eA 2;have z0:=z12 eA 0;have z1:=z12 eA 1;have z2:=z12 eA 2;simp at a0 a1 a2;clear eA;go_wp2_with fail
   refine bodyPost_ret (v:=restVal (.error 3)) (by simp [restVal,results,Tryz.results90,go_sem,a0,a1,a2]) rfl ⟨rfl,?_⟩;repeat (first | exact hbw | refine Below.setCell ?_ (by simp) _)
  ·have hb48 : (x==48)=false:=by rw [beq_eq_false_iff_ne]; exact h48
   rw [if_neg (by omega)] at hV;subst hV;clear h48 hd;go_enter Tryz.func90,Tryz.ntmps90
   go_wp2_with fail
   refine (HR.out _).mono ?_;rintro e w2 ⟨rfl,hb⟩;obtain⟨eA,hbw⟩:=one_kept hb;clear hb;go_wp2_with fail
   refine (wordOf_calls _ _ _ h2 hs _).mono ?_;rintro e w3 ⟨rfl,hb3⟩;replace eA:=(hb3.block w.heap.size (Array.getElem?_eq_some_iff.1 eA).1).trans eA
   replace hbw:=hbw.trans (hb3.mono hbw.size)
   clear hb3;have a0:=z8 eA 0;have a1:=z8 eA 1;have a2:=z8 eA 2;have z0:=z12 eA 0;have z1:=z12 eA 1;have z2:=z12 eA 2;simp at a0 a1 a2;clear eA;go_wp2_with fail
   refine bodyPost_ret (v:=restVal (.ok (⟨1,t.extract 0 R,0⟩,R))) (by simp [restVal,results,Tryz.results90,go_sem,a0,a1,a2]) rfl ⟨rfl,?_⟩;repeat (first | exact hbw | refine Below.setCell ?_ (by simp) _)
 ·rw [if_neg (by omega)] at hV;subst hV;clear hd;go_enter Tryz.func90,Tryz.ntmps90
  go_wp2_with fail
  refine (HR.out _).mono ?_;rintro e w2 ⟨rfl,hb⟩;obtain⟨eA,hbw⟩:=one_kept hb;clear hb;go_wp2_with fail
  refine (wordOf_calls _ _ _ h2 hs _).mono ?_;rintro e w3 ⟨rfl,hb3⟩;replace eA:=(hb3.block w.heap.size (Array.getElem?_eq_some_iff.1 eA).1).trans eA
  replace hbw:=hbw.trans (hb3.mono hbw.size)
  clear hb3;have a0:=z8 eA 0;have a1:=z8 eA 1;have a2:=z8 eA 2;have z0:=z12 eA 0;have z1:=z12 eA 1;have z2:=z12 eA 2;simp at a0 a1 a2;clear eA;go_wp2_with fail
  refine bodyPost_ret (v:=restVal (.ok (⟨1,t.extract 0 R,0⟩,R))) (by simp [restVal,results,Tryz.results90,go_sem,a0,a1,a2]) rfl ⟨rfl,?_⟩;repeat (first | exact hbw | refine Below.setCell ?_ (by simp) _)
theorem nameAt_calls (t : ByteArray) (hs : t.size≤1500) (h0 : 0 < t.size) (hd : digitZ ((t[0]'h0).toNat : Int)=false) (hL : letterZ ((t[0]'h0).toNat : Int)=true) (w : World) :
 Calls Tryz.prog 91 #[.string t] w fun e w'=> e= .returned (restVal (wordAt t 0))∧Below w.heap.size w w':= by
 obtain⟨V,hV⟩ : ∃ V,wordAt t 0=V:=⟨_,rfl⟩
 rw [hV];unfold wordAt at hV;rw [bz_at t h0,if_neg (by rw [hd]; simp),if_pos hL] at hV;dsimp only at hV;obtain⟨h1,h2,h3,h4⟩:=z36 t true (p:=0) (by omega);have hrun:=runParts_calls t hs;obtain⟨R,hR⟩ : ∃ R,runTo t true 0=R:=⟨_,rfl⟩
 rw [hR] at h1 h2 h3 h4 hrun hV;have HR : Hid (∀ w,_):=hrun;clear hrun hR h3 h4 hd hL;by_cases h8 : 8 < R
 ·rw [if_pos (by omega)] at hV;subst hV;go_enter Tryz.func91,Tryz.ntmps91
  go_wp2_with fail
  refine (HR.out _).mono ?_;rintro e w2 ⟨rfl,hb⟩;obtain⟨eA,hbw⟩:=one_kept hb;clear hb;have a0:=z8 eA 0;have a1:=z8 eA 1;have a2:=z8 eA 2;have z0:=z12 eA 0;have z1:=z12 eA 1;have z2:=z12 eA 2;simp at a0 a1 a2;clear eA;go_wp2_with fail
  refine bodyPost_ret (v:=restVal (.error 4)) (by simp [restVal,results,Tryz.results91,go_sem,a0,a1,a2]) rfl ⟨rfl,?_⟩;repeat (first | exact hbw | refine Below.setCell ?_ (by simp) _)
 rw [if_neg (by omega)] at hV;go_enter Tryz.func91,Tryz.ntmps91
 go_wp2_with fail
 refine (HR.out _).mono ?_;rintro e w2 ⟨rfl,hb⟩;obtain⟨eA,hbw⟩:=one_kept hb;clear hb;have hsx : (t.extract 0 R).size≤maxLen:=by
  rw [ByteArray.size_extract];unfold maxLen;omega
 go_wp2_with fail
 refine (implKey_calls _ hsx _).mono ?_;rintro e w3 ⟨rfl,hb3⟩;replace eA:=(hb3.block w.heap.size (Array.getElem?_eq_some_iff.1 eA).1).trans eA
 replace hbw:=hbw.trans (hb3.mono hbw.size)
 clear hb3 hsx
 cases hK : isKey (t.extract 0 R) with
 | true=>
   rw [hK,if_pos rfl] at hV;subst hV;go_wp2_with fail
   refine (wordOf_calls _ _ _ h2 hs _).mono ?_;rintro e w4 ⟨rfl,hb4⟩;replace eA:=(hb4.block w.heap.size (Array.getElem?_eq_some_iff.1 eA).1).trans eA
   replace hbw:=hbw.trans (hb4.mono hbw.size)
   clear hb4;have a0:=z8 eA 0;have a1:=z8 eA 1;have a2:=z8 eA 2;have z0:=z12 eA 0;have z1:=z12 eA 1;have z2:=z12 eA 2;simp at a0 a1 a2;clear eA;go_wp2_with fail
   refine bodyPost_ret (v:=restVal (.ok (⟨3,t.extract 0 R,0⟩,R))) (by simp [restVal,results,Tryz.results91,go_sem,a0,a1,a2]) rfl ⟨rfl,?_⟩;repeat (first | exact hbw | refine Below.setCell ?_ (by simp) _)
 | false=>
   rw [hK,if_neg (by simp)] at hV;subst hV;go_wp2_with fail
   refine (wordOf_calls _ _ _ h2 hs _).mono ?_;rintro e w4 ⟨rfl,hb4⟩;replace eA:=(hb4.block w.heap.size (Array.getElem?_eq_some_iff.1 eA).1).trans eA
   replace hbw:=hbw.trans (hb4.mono hbw.size)
   clear hb4;have a0:=z8 eA 0;have a1:=z8 eA 1;have a2:=z8 eA 2;have z0:=z12 eA 0;have z1:=z12 eA 1;have z2:=z12 eA 2;simp at a0 a1 a2;clear eA;go_wp2_with fail
   refine bodyPost_ret (v:=restVal (.ok (⟨2,t.extract 0 R,0⟩,R))) (by simp [restVal,results,Tryz.results91,go_sem,a0,a1,a2]) rfl ⟨rfl,?_⟩;repeat (first | exact hbw | refine Below.setCell ?_ (by simp) _)
theorem first_calls (t : ByteArray) (r : Nat) (hs : t.size≤1500) (hr : FirstRune t r) (w : World) :
 Calls Tryz.prog 53 #[.string t,.int .i32 r] w fun e w'=> e= .returned (restVal (wordAt t 0))∧Below w.heap.size w w':= by
 have hr':= hr;obtain⟨h0,hr⟩:=hr
 cases hd : digitZ (r : Int) with
 | true=>
   have e : r=(t[0]'h0).toNat:=by
    rcases hr with ⟨_,e⟩ | ⟨_,e⟩
    ·exact e
    ·have : digitZ (r : Int)=false:=by simp [digitZ]; omega
     rw [this] at hd
     cases hd
   have hn:=number_calls t hs h0 (by rw [← e]; exact hd);rw [← e] at hn;have HR : Hid (∀ w,_):=hn;clear hn hr hr' e;generalize wordAt t 0=V at*;go_enter Tryz.func53,Tryz.ntmps53
   go_wp2_with (first | (go_at_call 76; refine (digit20 _ _).mono ?_; rintro e w2 ⟨rfl,rfl⟩))
   refine (HR.out _).mono ?_;rintro e w2 ⟨rfl,hb⟩;obtain⟨eA,hbw⟩:=one_kept hb;clear hb;have a0:=z8 eA 0;have a1:=z8 eA 1;have a2:=z8 eA 2;have z0:=z12 eA 0;have z1:=z12 eA 1;have z2:=z12 eA 2;simp at a0 a1 a2;clear eA
   cases V with
   | error c=>
     simp only [restVal];go_wp2_with fail
     refine bodyPost_ret (v:=restVal (.error c)) (by simp [restVal,results,Tryz.results53,go_sem,a0,a1,a2]) rfl ⟨rfl,?_⟩;repeat (first | exact hbw | refine Below.setCell ?_ (by simp) _)
   | ok de=>
     obtain⟨d,e⟩:=de;simp only [restVal];go_wp2_with fail
     refine bodyPost_ret (v:=restVal (.ok (d,e))) (by simp [restVal,results,Tryz.results53,go_sem,a0,a1,a2]) rfl ⟨rfl,?_⟩;repeat (first | exact hbw | refine Below.setCell ?_ (by simp) _)
 | false=>
   have hdb : digitZ ((t[0]'h0).toNat : Int)=false:=by
    rcases hr with ⟨_,e⟩ | ⟨e,_⟩
    ·rw [← e]; exact hd
    ·simp [digitZ]; omega
   cases hL : letterZ (r : Int) with
   | true=>
     have e : r=(t[0]'h0).toNat:=by
      rcases hr with ⟨_,e⟩ | ⟨_,e⟩
      ·exact e
      ·have : letterZ (r : Int)=false:=by simp [letterZ]; omega
       rw [this] at hL
       cases hL
     have hn:=nameAt_calls t hs h0 hdb (by rw [← e]; exact hL);have HR : Hid (∀ w,_):=hn;clear hn hr hr' hdb e;generalize wordAt t 0=V at*;go_enter Tryz.func53,Tryz.ntmps53
     go_wp2_with (first | (go_at_call 76; refine (digit20 _ _).mono ?_; rintro e w2 ⟨rfl,rfl⟩) | (go_at_call 75; refine (letter19 _ _).mono ?_; rintro e w2 ⟨rfl,rfl⟩))
     refine (HR.out _).mono ?_;rintro e w2 ⟨rfl,hb⟩;obtain⟨eA,hbw⟩:=one_kept hb;clear hb;have a0:=z8 eA 0;have a1:=z8 eA 1;have a2:=z8 eA 2;have z0:=z12 eA 0;have z1:=z12 eA 1;have z2:=z12 eA 2;simp at a0 a1 a2;clear eA
     cases V with
     | error c=>
       simp only [restVal];go_wp2_with fail
       refine bodyPost_ret (v:=restVal (.error c)) (by simp [restVal,results,Tryz.results53,go_sem,a0,a1,a2]) rfl ⟨rfl,?_⟩;repeat (first | exact hbw | refine Below.setCell ?_ (by simp) _)
     | ok de=>
       obtain⟨d,e⟩:=de;simp only [restVal];go_wp2_with fail
       refine bodyPost_ret (v:=restVal (.ok (d,e))) (by simp [restVal,results,Tryz.results53,go_sem,a0,a1,a2]) rfl ⟨rfl,?_⟩;repeat (first | exact hbw | refine Below.setCell ?_ (by simp) _)
   | false=>
     have hLb : letterZ ((t[0]'h0).toNat : Int)=false:=by
      rcases hr with ⟨_,e⟩ | ⟨e,_⟩
      ·rw [← e]; exact hL
      ·simp [letterZ]; omega
     have hn:=signSize_calls t r hr';obtain⟨V,hV⟩ : ∃ V,wordAt t 0=V:=⟨_,rfl⟩
     rw [hV];unfold wordAt at hV;rw [bz_at t h0,if_neg (by rw [hdb]; simp),if_neg (by rw [hLb]; simp)] at hV;dsimp only at hV;have hext : t.extract 0 t.size=t:=by simp
     rw [hext] at hV;have hfit:=signOf_fit t;have hgs:=signOf_size t;generalize signOf t=g at*;have HR : Hid (∀ w,_):=hn;have HF : Hid (g.size≤t.size∧t.extract 0 g.size=g):=hfit;clear hn hr hr' hdb hLb hfit;go_enter Tryz.func53,Tryz.ntmps53
     go_wp2_with (first | (go_at_call 76; refine (digit20 _ _).mono ?_; rintro e w2 ⟨rfl,rfl⟩) | (go_at_call 75; refine (letter19 _ _).mono ?_; rintro e w2 ⟨rfl,rfl⟩))
     refine (HR.out _).mono ?_;rintro e w2 ⟨rfl,hb⟩;obtain⟨eA,hbw⟩:=one_kept hb;clear hb;by_cases hg : g.size=0
     ·rw [if_pos hg] at hV;subst hV;have hgb : ((g.size : Int)==0)=true:=by rw [hg]; rfl
      clear hg;have a0:=z8 eA 0;have a1:=z8 eA 1;have a2:=z8 eA 2;have z0:=z12 eA 0;have z1:=z12 eA 1;have z2:=z12 eA 2;simp at a0 a1 a2;clear eA;go_wp2_with fail
      refine bodyPost_ret (v:=restVal (.error 2)) (by simp [restVal,results,Tryz.results53,go_sem,a0,a1,a2]) rfl ⟨rfl,?_⟩;repeat (first | exact hbw | refine Below.setCell ?_ (by simp) _)
     ·rw [if_neg hg] at hV;subst hV;have hgb : ((g.size : Int)==0)=false:=by rw [beq_eq_false_iff_ne]; omega
      clear hg;go_wp2_with fail
      refine (wordOf_calls _ _ _ HF.out.1 hs _).mono ?_;rintro e w3 ⟨rfl,hb3⟩;replace eA:=(hb3.block w.heap.size (Array.getElem?_eq_some_iff.1 eA).1).trans eA
      replace hbw:=hbw.trans (hb3.mono hbw.size)
      rw [HF.out.2];clear hb3;have a0:=z8 eA 0;have a1:=z8 eA 1;have a2:=z8 eA 2;have z0:=z12 eA 0;have z1:=z12 eA 1;have z2:=z12 eA 2;simp at a0 a1 a2;clear eA;go_wp2_with fail
      refine bodyPost_ret (v:=restVal (.ok (⟨4,g,0⟩,0+g.size))) (by simp [restVal,results,Tryz.results53,go_sem,a0,a1,a2]) rfl ⟨rfl,?_⟩;repeat (first | exact hbw | refine Below.setCell ?_ (by simp) _)
end
end Go.Proofs.YtfbojelpdccjaaaGreatDoor
