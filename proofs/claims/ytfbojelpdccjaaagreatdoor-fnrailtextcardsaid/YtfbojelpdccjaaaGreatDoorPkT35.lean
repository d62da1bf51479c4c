import Derived.Test.YtfbojelpdccjaaaGreatDoorPkT34
open Go.Proofs.Tryz
set_option maxHeartbeats 2000000
set_option maxRecDepth 100000
namespace Go.Proofs.YtfbojelpdccjaaaGreatDoor
open Go.RowKit
variable {s:ByteArray}{e p:Nat}
section
open Go.RowKit
def isShort (n:Nat):Bool:= [40,41,44,43,45,42,61,60,124,58,59].contains n
theorem short_index:∀n:Nat,n<128->decide (0<=Lib.indexByte [40,41,44,43,45,42,61,60,124,58,59] (n:Int).toNat.toUInt8)=isShort n:=by
 decide
def FirstRune (t:ByteArray) (r:Nat):Prop:= ∃h:0<t.size,((t[0]'h).toNat<128/\r=(t[0]'h).toNat)\/(128<=(t[0]'h).toNat/\128<=r)
theorem containsR_calls (r:Nat) (w:World) :
 Calls prog 121 #[.string ⟨#[40,41,44,43,45,42,61,60,124,58,59]⟩,.int .i32 r] w fun e w'=> e=.returned (.bool (decide (r<128) && isShort r))/\Below w.heap.size w w':= by
 by_cases h:r<128
 .refine(Tryz.strings_ContainsRune_ascii _ (r:Int) w yf yf).mono ?_;rintro e w' ⟨rfl,rfl⟩;refine⟨?_,Lb⟩;rw[short_index r h,decide_eq_true h];rfl
 .have e:(decide (r<128) && isShort r)=false:=by simp[h]
  rw[e];have hc:=high_calls r yf;have HC:I (∀w,_):=hc;clear hc e;go_enter func121,ntmps121
  go_wp2_with fail
  refine(HC.o _).mono ?_;rintro e w2 ⟨rfl,hb⟩;go_wp2_with fail
  go_ret;exact⟨rfl,hb⟩
theorem hit_one (t:ByteArray) (h:0<t.size) (c:UInt8):signHit t ⟨#[c]⟩=(t[0]'h==c):=by
 have h1:(⟨#[c]⟩:ByteArray).size=1:=rfl;have e:(t.extract 0 1).toList= [t[0]'h]:=by
  rw[ByteArray.toList_eq,ByteArray.data_extract];have hd:0<t.data.toList.length:=by rw[Array.length_toList];exact h
  rw[Array.toList_extract]
  cases hl:t.data.toList with
  |nil=>rw[hl]at hd;simp at hd
  | cons x r=>
    have hx:t[0]'h=x:=by
     have:t.data.toList[0]'hd=x:=by simp[hl]
     rw[<-this];rfl
    simp[hx,List.extract]
 have e2:(⟨#[c]⟩:ByteArray).toList= [c]:=by rw[ByteArray.toList_eq]
 unfold signHit;rw[h1,e,e2];simp[show 1<=t.size from h]
theorem short_of (b:UInt8):((([[40],[41],[44],[43],[45],[42],[61],[60],[124],[58],[59]]:List (List UInt8)).find? (fun g=>g== [b])).getD []).length=if isShort b.toNat then 1 else 0:=by
 have h:∀n:Nat,n<256->((([[40],[41],[44],[43],[45],[42],[61],[60],[124],[58],[59]]:List (List UInt8)).find? (fun g=>g== [UInt8.ofNat n])).getD []).length=if isShort (UInt8.ofNat n).toNat then 1 else 0:=yh
 have:=h b.toNat b.toNat_lt;simpa using this
theorem sign_short (t:ByteArray) (h:0<t.size) (hno:∀j,j<3->signHit t (signStrs.getD j ByteArray.empty)=false):(signOf t).size=if isShort (t[0]'h).toNat then 1 else 0:=by
 have n0:=hno 0 yf;have n1:=hno 1 yf;have n2:=hno 2 yf;rw[<-short_of];unfold signOf;have e:signStrs= [signStrs.getD 0 ByteArray.empty,signStrs.getD 1 ByteArray.empty,signStrs.getD 2 ByteArray.empty]++([[40],[41],[44],[43],[45],[42],[61],[60],[124],[58],[59]]:List (List UInt8)).map (fun l=>⟨l.toArray⟩):=rfl;have hf:∀(l:List UInt8),(l.map fun c=>([c]:List UInt8)).find? (fun g=>signHit t ⟨g.toArray⟩)=(l.map fun c=>([c]:List UInt8)).find? (fun g=>g== [t[0]'h]):=by
  intro l;induction l with
  |nil=>rfl
  | cons c r ih=>
    have hc:signHit t ⟨([c]:List UInt8).toArray⟩=(t[0]'h==c):=hit_one t h c;have hc2:(([c]:List UInt8)== [t[0]'h])=(t[0]'h==c):=by
     rw[Bool.eq_iff_iff];simp;exact eq_comm
    rw[List.map_cons,List.find?_cons,List.find?_cons,hc,hc2,ih]
 have hl:([[40],[41],[44],[43],[45],[42],[61],[60],[124],[58],[59]]:List (List UInt8))=([40,41,44,43,45,42,61,60,124,58,59]:List UInt8).map fun c=> [c]:=rfl
 rw[e,List.find?_append];have hn:[signStrs.getD 0 ByteArray.empty,signStrs.getD 1 ByteArray.empty,signStrs.getD 2 ByteArray.empty].find? (signHit t)=none:=by
  rw[List.find?_eq_none];intro x hx;simp only[List.mem_cons,List.not_mem_nil,or_false]at hx;rcases hx with rfl|rfl|rfl
  .rw[n0];simp
  .rw[n1];simp
  .rw[n2];simp
 rw[hn,Option.none_or,List.find?_map];have hcomp:(signHit t ∘ fun l:List UInt8=>(⟨l.toArray⟩:ByteArray))=fun g=>signHit t ⟨g.toArray⟩:=rfl
 rw[hcomp,hl,hf]
 cases hfind:(([40,41,44,43,45,42,61,60,124,58,59]:List UInt8).map fun c=>([c]:List UInt8)).find? (fun g=>g== [t[0]'h]) with
 |none=>rfl
 |some g=>rfl
theorem signSize_calls (t:ByteArray) (r:Nat) (hr:FirstRune t r) (w:World) :
 Calls prog 92 #[.string t,.int .i32 r] w fun e w'=> e=.returned (.int .i64 (signOf t).size)/\Below w.heap.size w w':= by
 obtain⟨h0,hr⟩:=hr;obtain⟨Z,hZ⟩:∃Z,(signOf t).size=Z:=⟨_,rfl⟩
 rw[hZ];have HZ:I ((signOf t).size=Z):=hZ;have Hr:I (((t[0]'h0).toNat<128/\r=(t[0]'h0).toNat)\/(128<=(t[0]'h0).toNat/\128<=r)):=hr;clear hZ hr;go_enter func92,ntmps92
 go_wp2_with fail
 have hblk:(w.alloc (.cells #[.string ⟨#[45,62]⟩,.string ⟨#[61,62]⟩,.string ⟨#[58,58]⟩] 9)).heap[w.heap.size]?=some (.cells #[.string ⟨#[45,62]⟩,.string ⟨#[61,62]⟩,.string ⟨#[58,58]⟩] 9):=(Ld w _).1;have hb1:Below w.heap.size w (w.alloc (.cells #[.string ⟨#[45,62]⟩,.string ⟨#[61,62]⟩,.string ⟨#[58,58]⟩] 9)):=Lb.alloc La _;generalize w.alloc (.cells #[.string ⟨#[45,62]⟩,.string ⟨#[61,62]⟩,.string ⟨#[58,58]⟩] 9)=W at*;have hcell:∀k,k<3->W.cell? ⟨w.heap.size,k,none⟩=some (.string (signStrs.getD k ByteArray.empty)):=by
  intro k hk;rw[z8 hblk k];match k,hk with
  |0,_=>rfl
  |1,_=>rfl
  |2,_=>rfl
 have hsz:∀k,k<3->(signStrs.getD k ByteArray.empty).size=2:=yh;clear hblk;go_loop [9] (fun i=> ∃k:Nat,i=.int .i64 k/\k<=3/\I (∀j,j<k->signHit t (signStrs.getD j ByteArray.empty)=false)) (fun i=>3-(intOf i).toNat)
 case atStart=>exact⟨0,rfl,yf,fun j hj=>yf⟩
 case round=>
  obtain⟨k,rfl,hk,HA⟩:=hrel;by_cases hlt:k<3
  .have c:=hcell k hlt;have hs2:=hsz k hlt;obtain⟨g,hg⟩:∃g,signStrs.getD k ByteArray.empty=g:=⟨_,rfl⟩
   rw[hg]at c hs2;have HG:I (signStrs.getD k ByteArray.empty=g):=hg;clear hcell hsz hg
   cases hh:signHit t g with
   | true=>
     have HF:I (Z=2):=by
      rw[<-HZ.o,signOf_hit yf HG.o hh HA.o,hs2];rfl
     have hs3:I (g.size=2):=hs2;clear HA HG HZ Hr hs2;go_wp2_with (first|(go_at_call 120;refine(prefix_calls _ _ _).mono ?_;rintro e w2 ⟨rfl,rfl⟩))
     go_ret;exact⟨by rw[HF.o,<-hs3.o];rfl,hb1⟩
   | false=>
     have HS:I (∀j,j<k+1->signHit t (signStrs.getD j ByteArray.empty)=false):=fun j hj=>by
      by_cases e:j=k
      .rw[e,HG.o];exact hh
      .exact HA.o j yf
     clear HA HG HZ Hr hs2;go_wp2_with (first|(go_at_call 120;refine(prefix_calls _ _ _).mono ?_;rintro e w2 ⟨rfl,rfl⟩))
     exact⟨⟨k+1,yn,yf,HS⟩,zl⟩
  .have hk3:k=3:=by omega
   have hz:=sign_short t h0 (hk3 ▸ HA.o);rw[HZ.o]at hz
   cases hc:(decide (r<128) && isShort r) with
   | true=>
     have HF:I (Z=1):=by
      show Z=1;rw[hz];simp at hc;rcases Hr.o with ⟨_,e⟩|⟨_,e⟩
      .rw[<-e,if_pos hc.2]
      .omega
     have hcc:=containsR_calls r;rw[hc]at hcc;have HC:I (∀w,_):=hcc;clear hcc hz HZ Hr HA hc hcell hsz;go_wp2_with fail
     refine(HC.o _).mono ?_;rintro e w2 ⟨rfl,hb2⟩;go_wp2_with fail
     go_ret;exact⟨jf,hb1.trans (hb2.mono hb1.size)⟩
   | false=>
     have HF:I (Z=0):=by
      show Z=0;rw[hz];rcases Hr.o with ⟨h1,e⟩|⟨h1,e⟩
      .rw[<-e];simp at hc;rw[if_neg (by rw[hc yf];simp)]
      ·have:∀n,128<=n->isShort n=false:=by
        intro n hn;simp[isShort];omega
       rw[if_neg (by rw[this _ h1];simp)]
     have hcc:=containsR_calls r;rw[hc]at hcc;have HC:I (∀w,_):=hcc;clear hcc hz HZ Hr HA hc hcell hsz;go_wp2_with fail
     refine(HC.o _).mono ?_;rintro e w2 ⟨rfl,hb2⟩;go_wp2_with fail
     go_ret;exact⟨jf,hb1.trans (hb2.mono hb1.size)⟩
def restVal:Except Int (Wd×Nat)->Value
 |.error c=> .tuple #[.agg #[.int .i64 0,.string ⟨#[]⟩,.int .i64 0],.int .i64 c]
 |.ok (d,_)=> .tuple #[.agg #[.int .i64 d.kind,.string d.text,.int .i64 0],.int .i64 0]
theorem signOf_fit (t:ByteArray):(signOf t).size<=t.size/\t.extract 0 (signOf t).size=signOf t:=by
 unfold signOf
 cases h:signStrs.find? (signHit t) with
 | none=>
   refine⟨Li _,?_⟩;show t.extract 0 0=ByteArray.empty;simp
 | some g=>
   have hh:=List.find?_some h;simp only[signHit,Bool.and_eq_true,decide_eq_true_eq,beq_iff_eq]at hh;refine⟨hh.1,?_⟩;show t.extract 0 g.size=g;have:=hh.2;rw[ByteArray.toList_eq,ByteArray.toList_eq]at this;exact WideShapes.bytes_inj this
theorem number_calls (t:ByteArray) (hs:t.size<=1500) (h0:0<t.size) (hd:digitZ ((t[0]'h0).toNat:Int)=true) (w:World) :
 Calls prog 90 #[.string t,.int .i32 ((t[0]'h0).toNat:Int)] w fun e w'=> e=.returned (restVal (wordAt t 0))/\Below w.heap.size w w':= by
 obtain⟨V,hV⟩:∃V,wordAt t 0=V:=⟨_,rfl⟩
 rw[hV];unfold wordAt at hV;rw[bz_at t h0,if_pos hd]at hV;dsimp only at hV;obtain⟨h1,h2,h3,h4⟩:=z36 t false (p:=0) yf;have hrun:=runDigits_calls t hs;obtain⟨R,hR⟩:∃R,runTo t false 0=R:=⟨_,rfl⟩
 rw[hR]at h1 h2 h3 h4 hrun hV;have HR:I (∀w,_):=hrun;clear hrun hR h3 h4;generalize ((t[0]'h0).toNat:Int)=x at*;by_cases h9:9<R
 .rw[if_pos (Or.inl yf)]at hV;subst hV;go_enter func90,ntmps90
  refine zb2 ?_;unhygienic intros
  refine bodyPost_ret (v:=restVal (.error 3)) ybi rfl ⟨rfl,?_⟩;repeat(first|exact hbw|refine Below.setCell ?_ yn _)
 by_cases h1':1<R
 .by_cases h48:x=48
  .have hb48:(x==48)=true:=by rw[h48];rfl
   rw[if_pos (Or.inr ⟨h48,yf⟩)]at hV;subst hV;clear h48 hd;go_enter func90,ntmps90
   go_wp2_with fail
   refine zb11 ?_;intro w2 eA hbw a0 a1 a2 z0 z1 z2;simp at a0 a1 a2;clear eA;go_wp2_with fail
   refine bodyPost_ret (v:=restVal (.error 3)) ybi rfl ⟨rfl,?_⟩;repeat(first|exact hbw|refine Below.setCell ?_ yn _)
  .have hb48:(x==48)=false:=by rw[beq_eq_false_iff_ne];exact h48
   rw[if_neg yf]at hV;subst hV;clear h48 hd;go_enter func90,ntmps90
   go_wp2_with fail
   refine(HR.o _).mono ?_;rintro e w2 ⟨rfl,hb⟩;obtain⟨eA,hbw⟩:=one_kept hb;clear hb;go_wp2_with fail
   refine(wordOf_calls _ _ _ h2 hs _).mono ?_;rintro e w3 ⟨rfl,hb3⟩;replace eA:=(hb3.block w.heap.size (Array.getElem?_eq_some_iff.1 eA).1).trans eA
   replace hbw:=hbw.trans (hb3.mono hbw.size)
   refine zb28 ?_;intro a0 a1 a2 z0 z1 z2;clear hb3;simp at a0 a1 a2;clear eA;go_wp2_with fail
   refine bodyPost_ret (v:=restVal (.ok (⟨1,t.extract 0 R,0⟩,R))) ybi rfl ⟨rfl,?_⟩;repeat(first|exact hbw|refine Below.setCell ?_ yn _)
 .rw[if_neg yf]at hV;subst hV;clear hd;go_enter func90,ntmps90
  go_wp2_with fail
  refine(HR.o _).mono ?_;rintro e w2 ⟨rfl,hb⟩;obtain⟨eA,hbw⟩:=one_kept hb;clear hb;go_wp2_with fail
  refine(wordOf_calls _ _ _ h2 hs _).mono ?_;rintro e w3 ⟨rfl,hb3⟩;replace eA:=(hb3.block w.heap.size (Array.getElem?_eq_some_iff.1 eA).1).trans eA
  replace hbw:=hbw.trans (hb3.mono hbw.size)
  refine zb28 ?_;intro a0 a1 a2 z0 z1 z2;clear hb3;simp at a0 a1 a2;clear eA;go_wp2_with fail
  refine bodyPost_ret (v:=restVal (.ok (⟨1,t.extract 0 R,0⟩,R))) ybi rfl ⟨rfl,?_⟩;repeat(first|exact hbw|refine Below.setCell ?_ yn _)
theorem nameAt_calls (t:ByteArray) (hs:t.size<=1500) (h0:0<t.size) (hd:digitZ ((t[0]'h0).toNat:Int)=false) (hL:letterZ ((t[0]'h0).toNat:Int)=true) (w:World) :
 Calls prog 91 #[.string t] w fun e w'=> e=.returned (restVal (wordAt t 0))/\Below w.heap.size w w':= by
 obtain⟨V,hV⟩:∃V,wordAt t 0=V:=⟨_,rfl⟩
 rw[hV];unfold wordAt at hV;rw[bz_at t h0,if_neg (by rw[hd];simp),if_pos hL]at hV;dsimp only at hV;obtain⟨h1,h2,h3,h4⟩:=z36 t true (p:=0) yf;have hrun:=runParts_calls t hs;obtain⟨R,hR⟩:∃R,runTo t true 0=R:=⟨_,rfl⟩
 rw[hR]at h1 h2 h3 h4 hrun hV;have HR:I (∀w,_):=hrun;clear hrun hR h3 h4 hd hL;by_cases h8:8<R
 .rw[if_pos yf]at hV;subst hV;go_enter func91,ntmps91
  refine zb2 ?_;unhygienic intros
  refine bodyPost_ret (v:=restVal (.error 4)) ybj rfl ⟨rfl,?_⟩;repeat(first|exact hbw|refine Below.setCell ?_ yn _)
 rw[if_neg yf]at hV;go_enter func91,ntmps91
 go_wp2_with fail
 refine(HR.o _).mono ?_;rintro e w2 ⟨rfl,hb⟩;obtain⟨eA,hbw⟩:=one_kept hb;clear hb;have hsx:(t.extract 0 R).size<=maxLen:=by
  rw[ByteArray.size_extract];unfold maxLen;omega
 go_wp2_with fail
 refine(implKey_calls _ hsx _).mono ?_;rintro e w3 ⟨rfl,hb3⟩;replace eA:=(hb3.block w.heap.size (Array.getElem?_eq_some_iff.1 eA).1).trans eA
 replace hbw:=hbw.trans (hb3.mono hbw.size)
 clear hb3 hsx
 cases hK:isKey (t.extract 0 R) with
 | true=>
   rw[hK,if_pos rfl]at hV;subst hV;go_wp2_with fail
   refine(wordOf_calls _ _ _ h2 hs _).mono ?_;rintro e w4 ⟨rfl,hb4⟩;replace eA:=(hb4.block w.heap.size (Array.getElem?_eq_some_iff.1 eA).1).trans eA
   replace hbw:=hbw.trans (hb4.mono hbw.size)
   clear hb4;have a0:=z8 eA 0;have a1:=z8 eA 1;have a2:=z8 eA 2;have z0:=z11 eA 0;have z1:=z11 eA 1;have z2:=z11 eA 2;simp at a0 a1 a2;clear eA;go_wp2_with fail
   refine bodyPost_ret (v:=restVal (.ok (⟨3,t.extract 0 R,0⟩,R))) ybj rfl ⟨rfl,?_⟩;repeat(first|exact hbw|refine Below.setCell ?_ yn _)
 | false=>
   rw[hK,if_neg yn]at hV;subst hV;go_wp2_with fail
   refine(wordOf_calls _ _ _ h2 hs _).mono ?_;rintro e w4 ⟨rfl,hb4⟩;replace eA:=(hb4.block w.heap.size (Array.getElem?_eq_some_iff.1 eA).1).trans eA
   replace hbw:=hbw.trans (hb4.mono hbw.size)
   clear hb4;have a0:=z8 eA 0;have a1:=z8 eA 1;have a2:=z8 eA 2;have z0:=z11 eA 0;have z1:=z11 eA 1;have z2:=z11 eA 2;simp at a0 a1 a2;clear eA;go_wp2_with fail
   refine bodyPost_ret (v:=restVal (.ok (⟨2,t.extract 0 R,0⟩,R))) ybj rfl ⟨rfl,?_⟩;repeat(first|exact hbw|refine Below.setCell ?_ yn _)
theorem first_calls (t:ByteArray) (r:Nat) (hs:t.size<=1500) (hr:FirstRune t r) (w:World) :
 Calls prog 53 #[.string t,.int .i32 r] w fun e w'=> e=.returned (restVal (wordAt t 0))/\Below w.heap.size w w':= by
 have hr':= hr;obtain⟨h0,hr⟩:=hr
 cases hd:digitZ (r:Int) with
 | true=>
   have e:r=(t[0]'h0).toNat:=by
    rcases hr with ⟨_,e⟩|⟨_,e⟩
    .exact e
    .have:digitZ (r:Int)=false:=by simp[digitZ];omega
     rw[this]at hd
     cases hd
   have hn:=number_calls t hs h0 (by rw[<-e];exact hd);rw[<-e]at hn;have HR:I (∀w,_):=hn;clear hn hr hr' e;generalize wordAt t 0=V at*;go_enter func53,ntmps53
   go_wp2_with (first|(go_at_call 76;refine(digit20 _ _).mono ?_;rintro e w2 ⟨rfl,rfl⟩))
   refine zb11 ?_;intro w2 eA hbw a0 a1 a2 z0 z1 z2;simp at a0 a1 a2;clear eA
   cases V with
   | error c=>
     simp only[restVal];go_wp2_with fail
     refine bodyPost_ret (v:=restVal (.error c)) ybk rfl ⟨rfl,?_⟩;repeat(first|exact hbw|refine Below.setCell ?_ yn _)
   | ok de=>
     obtain⟨d,e⟩:=de;simp only[restVal];go_wp2_with fail
     refine bodyPost_ret (v:=restVal (.ok (d,e))) ybk rfl ⟨rfl,?_⟩;repeat(first|exact hbw|refine Below.setCell ?_ yn _)
 | false=>
   have hdb:digitZ ((t[0]'h0).toNat:Int)=false:=by
    rcases hr with ⟨_,e⟩|⟨e,_⟩
    .rw[<-e];exact hd
    .simp[digitZ];omega
   cases hL:letterZ (r:Int) with
   | true=>
     have e:r=(t[0]'h0).toNat:=by
      rcases hr with ⟨_,e⟩|⟨_,e⟩
      .exact e
      .have:letterZ (r:Int)=false:=by simp[letterZ];omega
       rw[this]at hL
       cases hL
     have hn:=nameAt_calls t hs h0 hdb (by rw[<-e];exact hL);have HR:I (∀w,_):=hn;clear hn hr hr' hdb e;generalize wordAt t 0=V at*;go_enter func53,ntmps53
     go_wp2_with (first|(go_at_call 76;refine(digit20 _ _).mono ?_;rintro e w2 ⟨rfl,rfl⟩)|(go_at_call 75;refine(letter19 _ _).mono ?_;rintro e w2 ⟨rfl,rfl⟩))
     refine zb11 ?_;intro w2 eA hbw a0 a1 a2 z0 z1 z2;simp at a0 a1 a2;clear eA
     cases V with
     | error c=>
       simp only[restVal];go_wp2_with fail
       refine bodyPost_ret (v:=restVal (.error c)) ybk rfl ⟨rfl,?_⟩;repeat(first|exact hbw|refine Below.setCell ?_ yn _)
     | ok de=>
       obtain⟨d,e⟩:=de;simp only[restVal];go_wp2_with fail
       refine bodyPost_ret (v:=restVal (.ok (d,e))) ybk rfl ⟨rfl,?_⟩;repeat(first|exact hbw|refine Below.setCell ?_ yn _)
   | false=>
     have hLb:letterZ ((t[0]'h0).toNat:Int)=false:=by
      rcases hr with ⟨_,e⟩|⟨e,_⟩
      .rw[<-e];exact hL
      .simp[letterZ];omega
     have hn:=signSize_calls t r hr';obtain⟨V,hV⟩:∃V,wordAt t 0=V:=⟨_,rfl⟩
     rw[hV];unfold wordAt at hV;rw[bz_at t h0,if_neg (by rw[hdb];simp),if_neg (by rw[hLb];simp)]at hV;dsimp only at hV;have hext:t.extract 0 t.size=t:=yn;rw[hext]at hV;have hfit:=signOf_fit t;have hgs:=signOf_size t;generalize signOf t=g at*;have HR:I (∀w,_):=hn;have HF:I (g.size<=t.size/\t.extract 0 g.size=g):=hfit;clear hn hr hr' hdb hLb hfit;go_enter func53,ntmps53
     go_wp2_with (first|(go_at_call 76;refine(digit20 _ _).mono ?_;rintro e w2 ⟨rfl,rfl⟩)|(go_at_call 75;refine(letter19 _ _).mono ?_;rintro e w2 ⟨rfl,rfl⟩))
     refine(HR.o _).mono ?_;rintro e w2 ⟨rfl,hb⟩;obtain⟨eA,hbw⟩:=one_kept hb;clear hb;by_cases hg:g.size=0
     .rw[if_pos hg]at hV;subst hV;have hgb:((g.size:Int)==0)=true:=by rw[hg];rfl
      clear hg;have a0:=z8 eA 0;have a1:=z8 eA 1;have a2:=z8 eA 2;have z0:=z11 eA 0;have z1:=z11 eA 1;have z2:=z11 eA 2;simp at a0 a1 a2;clear eA;go_wp2_with fail
      refine bodyPost_ret (v:=restVal (.error 2)) ybk rfl ⟨rfl,?_⟩;repeat(first|exact hbw|refine Below.setCell ?_ yn _)
     .rw[if_neg hg]at hV;subst hV;have hgb:((g.size:Int)==0)=false:=jh;clear hg;go_wp2_with fail
      refine(wordOf_calls _ _ _ HF.o.1 hs _).mono ?_;rintro e w3 ⟨rfl,hb3⟩;replace eA:=(hb3.block w.heap.size (Array.getElem?_eq_some_iff.1 eA).1).trans eA
      replace hbw:=hbw.trans (hb3.mono hbw.size)
      rw[HF.o.2];refine zb28 ?_;intro a0 a1 a2 z0 z1 z2;clear hb3;simp at a0 a1 a2;clear eA;go_wp2_with fail
      refine bodyPost_ret (v:=restVal (.ok (⟨4,g,0⟩,0+g.size))) ybk rfl ⟨rfl,?_⟩;repeat(first|exact hbw|refine Below.setCell ?_ yn _)
theorem rest_size:(s.extract p s.size).size=s.size-p:=by
 rw[ByteArray.size_extract];omega
theorem bz_rest {j:Nat}:bz (s.extract p s.size) j=bz s (p+j):=by
 unfold bz;by_cases h:p+j<s.size
 .rw[dif_pos h,dif_pos ybl,ByteArray.getElem_extract]
 .rw[dif_neg h,dif_neg ybl]
theorem run_rest {l:Bool}(hp:p<=s.size):p+runTo (s.extract p s.size) l 0=runTo s l p:=by
 obtain⟨h1,h2,h3,h4⟩:=z36 (s.extract p s.size) l (p:=0) yf;refine IsRun.eq ⟨yf,by rw[rest_size]at h2;omega,fun j hj1 hj2=>?_,fun h=>?_⟩
 .have:=h3 (j-p) yf yf;rw[bz_rest,show p+(j-p)=j by omega]at this;exact this
 .have:=h4 ybl;rwa[bz_rest]at this
theorem cut_rest (h:p+e<=s.size):(s.extract p s.size).extract 0 e=s.extract p (p+e):=by
 rw[ByteArray.extract_extract,Nat.add_zero,Nat.min_eq_left h]
def unplaced (p:Nat):Except Int (Wd×Nat)->Except Int (Wd×Nat)
 |.error c=> .error c
 |.ok (d,e)=> .ok (⟨d.kind,d.text,0⟩,e-p)
theorem wordAt_rest (hp:p<s.size):wordAt (s.extract p s.size) 0=unplaced p (wordAt s p):=by
 unfold wordAt;have hb:bz (s.extract p s.size) 0=bz s p:=by rw[bz_rest,Nat.add_zero]
 have hself:(s.extract p s.size).extract 0 (s.extract p s.size).size=s.extract p s.size:=by
  rw[rest_size,cut_rest yf,show p+(s.size-p)=s.size by omega]
 rw[hb,hself];by_cases hd:digitZ (bz s p)=true
 .have hr:=run_rest (s:=s) (l:=false) (p:=p) yf;obtain⟨h1,h2,_,_⟩:=z36 s false (p:=p) yf;rw[if_pos hd,if_pos hd];dsimp only;have e:runTo (s.extract p s.size) false 0=runTo s false p-p:=yf;rw[e,Nat.sub_zero];split
  .rfl
  .show _=Except.ok _;rw[cut_rest yf,show p+(runTo s false p-p)=runTo s false p by omega]
 .rw[if_neg hd,if_neg hd];by_cases hL:letterZ (bz s p)=true
  .have hr:=run_rest (s:=s) (l:=true) (p:=p) yf;obtain⟨h1,h2,_,_⟩:=z36 s true (p:=p) yf;rw[if_pos hL,if_pos hL];dsimp only;have e:runTo (s.extract p s.size) true 0=runTo s true p-p:=yf;rw[e,Nat.sub_zero];split
   .rfl
   .show _=Except.ok _;rw[cut_rest yf,show p+(runTo s true p-p)=runTo s true p by omega]
  .rw[if_neg hL,if_neg hL];dsimp only;split
   .rfl
   .show _=Except.ok _;rw[show p+(signOf (s.extract p s.size)).size-p=0+(signOf (s.extract p s.size)).size by omega]
theorem restVal_unplaced (p:Nat):∀x:Except Int (Wd×Nat),restVal (unplaced p x)=restVal x
 |.error _=>rfl
 |.ok (_,_)=>rfl
theorem wordAt_text {d:Wd}(hp:p<s.size) (h:wordAt s p=.ok (d,e)):e=p+d.text.size/\d.at_=p/\e<=s.size:=by
 unfold wordAt at h;by_cases hd:digitZ (bz s p)=true
 .obtain⟨h1,h2,_,_⟩:=z36 s false (p:=p) yf;rw[if_pos hd]at h;dsimp only at h;split at h
  .cases h
  .cases h;refine⟨?_,rfl,h2⟩;rw[ByteArray.size_extract];omega
 .rw[if_neg hd]at h;by_cases hL:letterZ (bz s p)=true
  .obtain⟨h1,h2,_,_⟩:=z36 s true (p:=p) yf;rw[if_pos hL]at h;dsimp only at h;split at h
   .cases h
   .cases h;refine⟨?_,rfl,h2⟩;rw[ByteArray.size_extract];omega
  .rw[if_neg hL]at h;dsimp only at h;have hf:=(signOf_fit (s.extract p s.size)).1;rw[rest_size]at hf;split at h
   .cases h
   .cases h;exact⟨rfl,rfl,yf⟩
theorem okb_ascii {l:Bool}{x:Int}(h:okb l x=true):x<128:=by
 cases l<;>simp[okb,digitZ,letterZ]at h<;>omega
theorem sign_ascii:∀x∈signStrs,∀i,i<2-> ∀h:i<x.size,(x[i]'h).toNat<128:=yh
theorem at_eq {t:ByteArray}{a b:Nat}(h:a=b) (ha:a<t.size) (hb:b<t.size):t[a]'ha=t[b]'hb:=by
 subst h;rfl
theorem wordAt_ascii {d:Wd}(hp:p<s.size) (h:wordAt s p=.ok (d,e)):∀j,p<=j->j<e->bz s j<128:=by
 unfold wordAt at h;by_cases hd:digitZ (bz s p)=true
 .obtain⟨h1,h2,h3,_⟩:=z36 s false (p:=p) yf;rw[if_pos hd]at h;dsimp only at h;split at h
  .cases h
  .cases h;exact fun j hj1 hj2=>okb_ascii (h3 j hj1 hj2)
 .rw[if_neg hd]at h;by_cases hL:letterZ (bz s p)=true
  .obtain⟨h1,h2,h3,_⟩:=z36 s true (p:=p) yf;rw[if_pos hL]at h;dsimp only at h;split at h
   .cases h
   .cases h;exact fun j hj1 hj2=>okb_ascii (h3 j hj1 hj2)
  .rw[if_neg hL]at h;dsimp only at h;split at h
   .cases h
   .rename_i hg
    cases h;intro j hj1 hj2;obtain⟨hf1,hf2⟩:=signOf_fit (s.extract p s.size);have hmem:signOf (s.extract p s.size)∈signStrs:=by
     unfold signOf at hg |-
     cases hfi:signStrs.find? (signHit (s.extract p s.size)) with
     |none=>rw[hfi]at hg;exact absurd rfl hg
     |some g=>exact List.mem_of_find?_eq_some hfi
    have hs2:=signOf_size (s.extract p s.size);generalize hG:signOf (s.extract p s.size)=g at*;have hi:j-p<g.size:=yf;have ha:=sign_ascii g hmem (j-p) yf hi;have e1:bz s j=bz (s.extract p s.size) (j-p):=by rw[bz_rest,show p+(j-p)=j by omega]
    rw[e1];clear e1;generalize s.extract p s.size=t at*;have hi2:j-p<t.size:=yf;have e3:g[j-p]'hi=(t.extract 0 g.size)[j-p]'(by rw[hf2];exact hi):=by
     congr 1
     exact hf2.symm
    have e4:(t.extract 0 g.size)[j-p]'(by rw[hf2];exact hi)=t[j-p]'hi2:=by
     rw[ByteArray.getElem_extract];exact at_eq yf _ _
    rw[bz_at t hi2,<-e4,<-e3];omega
theorem owns_iterAt {w:World}{base:Nat}{e:TypeId}{size:Nat}{v:Value}{n:Nat}{xs:List Value}(h:w.ownsRow base e size v n xs) {k:Nat}(hk:k<base) (s:ByteArray) (p:Nat):(w.iterAt k s p).ownsRow base e size v n xs:=by
 refine h.kept (row:=some k) ⟨rfl,rfl,rfl,by rw[Lib.iterAt_size];exact La,fun j _ hj=>Lib.iterAt_other _ _ _ _ _ (fun e=>hj (by rw[e]))⟩ (Or.inr (fun e=>?_));have:=(h.lt _ e).1;omega
theorem blank_high {x:Int}(h:128<=x):(x==32)=false/\(x==10)=false:=by
 constructor<;>rw[beq_eq_false_iff_ne]<;>omega
theorem implWords_calls (s:ByteArray) (w:World) :
 Calls prog 26 #[.string s] w fun e w'=> (∃v,Told (w.heap.size+2) (lexAll s) v e w')/\Below w.heap.size w w':= by
 obtain⟨R,hR⟩:∃R,lexAll s=R:=⟨_,rfl⟩
 rw[hR];unfold lexAll at hR;by_cases hbig:(1500:Int)<s.size
 .rw[if_pos yf]at hR;subst hR;go_enter func26,ntmps26
  go_wp2_with fail
  refine bodyPost_ret (v:=.tuple #[.slice none 0 0,.agg #[.int .i64 1,.int .i64 0]]) (by simp[results,results26,go_sem]) rfl ⟨⟨.slice none 0 0,rfl,World.ownsRow_nil _ _ _ _⟩,?_⟩;repeat(first|exact Lb|refine Below.alloc ?_ zw _)
 rw[if_neg yf]at hR;have HR:I (lexGo s s.size 0 []=R):=hR;clear hR;obtain⟨i0,hi,hz0,hz1,hz2⟩:=info_parts info_word;go_enter func26,ntmps26
 go_wp2_with fail
 go_loopg [4,5] s.size (fun g o b wx=> ∃(pos bh f:Nat) (ws:List Wd),b=.int .i64 bh/\wx.heap[w.heap.size+1]?=some (.stringIter s pos)/\pos<=s.size/\bh<=s.size/\s.size<=pos+g/\s.size<=max pos bh+f/\ws.length<=max pos bh/\
  I (∀j,pos<=j->j<bh->bz s j<128)/\I (lexGo s f (max pos bh) ws=R)/\wx.ownsRow (w.heap.size+2) 76 3 o ws.length (flatW ws)/\
  wx.heap[w.heap.size]?=some (.cells #[.int .i64 0,.int .i64 0] 31)/\Below w.heap.size w wx)
 case atStart=>
  refine⟨0,0,s.size,[],rfl,?_,yf,yf,yf,yf,yn,fun j h1 h2=>yf,HR,World.ownsRow_nil _ _ _ _,?_,?_⟩
  .have:=World.iter_heap (w.alloc (.cells #[.int .i64 0,.int .i64 0] 31)) s 0;simpa using this
  .rw[World.iter,Below.heap_alloc _ _ _ yn];exact(Ld w _).1
  .exact(Lb.alloc La _).alloc yn _
 case round=>
  obtain⟨pos,bh,f,ws,rfl,hit,hps,hbs,hfu,hfl,hwl,HA,HE,hown,hfault,hnx⟩:=hrel;clear HR;have hBlt:w.heap.size+1<wr.heap.size:=(Array.getElem?_eq_some_iff.1 hit).1;by_cases hp:pos<s.size
  .obtain⟨g,rfl⟩:∃g,gk=g+1:=⟨gk-1,yf⟩
   have hb:=bz_at s hp;by_cases ha:(s[pos]'hp).toNat<128
   .have hnxt:∀ty,(Instr.next (.pointer (some ⟨w.heap.size+1,0,none⟩)) true ty).run prog wr=_:=fun ty=>Lib.run_next_ascii_at wr (w.heap.size+1) s pos ty hit hp ha
    have hit2:=Lib.iterAt_heap wr (w.heap.size+1) s pos (pos+1) hit;have hbw2:=Lib.below_iterAt hnx (k:=w.heap.size+1) yf s (pos+1);have hown2:=owns_iterAt hown (k:=w.heap.size+1) yf s (pos+1);have hf2:=(Lib.iterAt_other wr (w.heap.size+1) w.heap.size s (pos+1) yf).trans hfault;have hsz2:w.heap.size+1<(wr.iterAt (w.heap.size+1) s (pos+1)).heap.size:=by rw[Lib.iterAt_size];exact hBlt
    obtain⟨W,hWd⟩:∃W,wr.iterAt (w.heap.size+1) s (pos+1)=W:=⟨_,rfl⟩
    rw[hWd]at hnxt hit2 hbw2 hown2 hf2 hsz2;have hit3:I (W.heap[w.heap.size+1]?=some (.stringIter s (pos+1))):=hit2;have hf3:I (W.heap[w.heap.size]?=some (.cells #[.int .i64 0,.int .i64 0] 31)):=hf2;clear hWd hit hit2 hnx hown hfault hf2 hBlt;by_cases hlt:pos<bh
    .have HA':I (∀j,pos+1<=j->j<bh->bz s j<128):=fun j h1 h2=>HA.o j yf h2
     have HE':I (lexGo s f (max (pos+1) bh) ws=R):=by
      rw[show max (pos+1) bh=max pos bh by omega];exact HE
     clear HA HE hb;go_wp2_with fail
     go_roundg g
     case measure=>omega
     case rel=>exact⟨pos+1,bh,f,ws,rfl,hit3.o,yf,hbs,yf,yf,yf,HA',HE',hown2,hf3.o,hbw2⟩
    .have em:max pos bh=pos:=by omega
     obtain⟨f,rfl⟩:∃f',f=f'+ 1:=⟨f-1,yf⟩
     have hE:=HE.o;rw[em]at hE hwl hfl;clear HA HE em;have hnlt:decide ((pos:Int)<(bh:Int))=false:=decide_eq_false yf
     cases hbl:blankZ ((s[pos]'hp).toNat:Int) with
     | true=>
       rw[lexGo_blank hp (by rw[hb];exact hbl)]at hE;have HE':I (lexGo s f (max (pos+1) bh) ws=R):=by
        rw[show max (pos+1) bh=pos+1 by omega];exact hE
       have HA':I (∀j,pos+1<=j->j<bh->bz s j<128):=fun j h1 h2=>yf
       clear hE hb ha
       cases h32:(((s[pos]'hp).toNat:Int)==32) with
       | true=>
         clear hbl;go_wp2_with fail
         go_roundg g
         case measure=>omega
         case rel=>exact⟨pos+1,bh,f,ws,rfl,hit3.o,yf,hbs,yf,yf,yf,HA',HE',hown2,hf3.o,hbw2⟩
       | false=>
         have h10:(((s[pos]'hp).toNat:Int)==10)=true:=by simpa[blankZ,h32]using hbl
         clear hbl;go_wp2_with fail
         go_roundg g
         case measure=>omega
         case rel=>exact⟨pos+1,bh,f,ws,rfl,hit3.o,yf,hbs,yf,yf,yf,HA',HE',hown2,hf3.o,hbw2⟩
     | false=>
       have h32:(((s[pos]'hp).toNat:Int)==32)=false:=by
        cases h:(((s[pos]'hp).toNat:Int)==32) with
        |false=>rfl
        |true=>simp[blankZ,h]at hbl
       have h10:(((s[pos]'hp).toNat:Int)==10)=false:=by
        cases h:(((s[pos]'hp).toNat:Int)==10) with
        |false=>rfl
        |true=>simp[blankZ,h]at hbl
       have hnb:¬ blankZ (bz s pos)=true:=by rw[hb,hbl];simp
       have hfr:FirstRune (s.extract pos s.size) (s[pos]'hp).toNat:=by
        have h0:0<(s.extract pos s.size).size:=ybl;have e0:(s.extract pos s.size)[0]'h0=s[pos]'hp:=by
         rw[ByteArray.getElem_extract];congr 1
        exact⟨h0,Or.inl ⟨by rw[e0];exact ha,by rw[e0]⟩⟩
       have hword:=first_calls (s.extract pos s.size) (s[pos]'hp).toNat ybl hfr;rw[wordAt_rest hp,restVal_unplaced]at hword;clear hbl hb ha hfr
       cases hw:wordAt s pos with
       | error c=>
         rw[lexGo_bad hp hnb hw]at hE;rw[hw]at hword;have HW:I (∀w,_):=hword;have hc:=wordAt_code hw;clear hw hnb hword hown2 hit3;subst hE;generalize ((s[pos]'hp).toNat)=x at*;go_wp2_with fail
         refine(HW.o _).mono ?_;rintro e W1 ⟨rfl,hb1⟩;have hf4:=(hb1.block w.heap.size yf).trans hf3.o;have q0:=z8 hf4 0;have q1:=z8 hf4 1;obtain⟨z0,z1⟩:=ffz2 hf4;simp at q0 q1;have hnx1:=hbw2.trans (hb1.mono hbw2.size);have hBlt1:w.heap.size<W1.heap.size:=World.block_lt_of_cell? W1 _ q0;clear HW hb1 hf3 hbw2 hf4;simp only[restVal];have hcc:(c !=0)=true:=gn;go_wp2_with fail
         refine bodyPost_ret (v:=.tuple #[.slice none 0 0,.agg #[.int .i64 c,.int .i64 pos]]) ybm rfl ⟨⟨.slice none 0 0,rfl,World.ownsRow_nil _ _ _ _⟩,?_⟩;exact((hnx1.setCell yn _).setCell yn _).alloc yk _
       | ok de=>
         obtain⟨d,e⟩:=de;rw[lexGo_word hp hnb hw]at hE;rw[hw]at hword;have HW:I (∀w,_):=hword;have hend:=wordAt_end hp hw;have htx:=wordAt_text hp hw;have has:=wordAt_ascii hp hw;have HE':I (lexGo s f (max (pos+1) e) (ws++ [d])=R):=by
          rw[show max (pos+1) e=e by omega];exact hE
         have HA':I (∀j,pos+1<=j->j<e->bz s j<128):=fun j h1 h2=>has j yf h2
         have Htx:I (e=pos+d.text.size/\d.at_=pos/\e<=s.size):=htx;have hts:d.text.size<=1500:=yf;clear hw hnb hword hE has htx;generalize ((s[pos]'hp).toNat)=x at*;go_wp2_with fail
         refine(HW.o _).mono ?_;rintro e' W1 ⟨rfl,hb1⟩;have hf4:=(hb1.block w.heap.size yf).trans hf3.o;have hit4:=(hb1.block (w.heap.size+1) hsz2).trans hit3.o;have hown1:=z33 hown2 hb1;have hnx1:=hbw2.trans (hb1.mono hbw2.size);have hBlt1:w.heap.size+1<W1.heap.size:=(Array.getElem?_eq_some_iff.1 hit4).1;have Hf4:I (W1.heap[w.heap.size]?=some (.cells #[.int .i64 0,.int .i64 0] 31)):=hf4;have Hit4:I (W1.heap[w.heap.size+1]?=some (.stringIter s (pos+1))):=hit4;clear HW hb1 hf3 hit3 hbw2 hown2 hf4 hit4 hsz2;simp only[restVal];go_wp2_with (first
          | (at_builtin;refine wpList_append_own _ rfl _ _ 61 rfl (w.heap.size+2) 76 i0 (.agg #[.int .i64 0,.string ⟨#[]⟩,.int .i64 0]) 3 32 underlying61 hi hz0 hz1 hz2 rfl yh _ _ _ rfl ((hown1.alloc _).alloc _) ⟨W1.heap.size+1,0,none⟩ 1 1 [.int .i64 d.kind,.string d.text,.int .i64 pos] rfl rfl (cell_three_new _ _ yn _ _ _ _) (fun x hx=>gp) zp yf yk ?_
             intro v' w3 hown' hgrow3 hnil3;have hf5:I (w3.heap[w.heap.size]?=some (.cells #[.int .i64 0,.int .i64 0] 31)):=by
              show w3.heap[w.heap.size]?=_;rw[hgrow3.block w.heap.size yk (fun h=>gq),Below.heap_alloc _ _ _ yk,Below.heap_alloc _ _ _ yf];exact Hf4.o
             have hit5:I (w3.heap[w.heap.size+1]?=some (.stringIter s (pos+1))):=by
              show w3.heap[w.heap.size+1]?=_;rw[hgrow3.block (w.heap.size+1) yk (fun h=>gq),Below.heap_alloc _ _ _ yk,Below.heap_alloc _ _ _ yf];exact Hit4.o
             have hbw3:Below w.heap.size w w3:=Below.grown ((hnx1.alloc yf _).alloc yk _) hgrow3 yk (fun j hj=>by have:=(hown1.lt _ hj).1;omega);have hwb:I (w3.heap[W1.heap.size]?=some (.cells #[.int .i64 d.kind,.string d.text,.int .i64 pos] 76)):=by
              show w3.heap[W1.heap.size]?=_;rw[hgrow3.block W1.heap.size yk (fun h=>by have:=(hown1.lt _ h.symm).2;omega),Below.heap_alloc _ _ _ yn];exact(Ld W1 _).1
             have k1:=z8 hwb.o 1;simp at k1;clear hgrow3 hnil3 Hf4 Hit4 hown1 hnx1 hwb))
         go_roundg g
         case measure=>omega
         case rel=>
          have htx:=Htx.o;refine⟨pos+1,e,f,ws++ [d],?_,hit5.o,yf,yf,yf,yf,yk,HA',HE',?_,hf5.o,hbw3⟩
          .rw[htx.1];simp
          ·rw [flatW_append,List.length_append];have ed:flatW [d]= [.int .i64 d.kind,.string d.text,.int .i64 pos]:=by
            rw[<-htx.2.1];rfl
           rw[ed];exact hown'
   .have hnxt:∀ty,(Instr.next (.pointer (some ⟨w.heap.size+1,0,none⟩)) true ty).run prog wr=_:=fun ty=>Lib.run_next_any_at wr (w.heap.size+1) s pos ty hit hp
    have hhi:=(decode_high s pos hp yf).1;have hbw2:=Lib.below_iterAt hnx (k:=w.heap.size+1) yf s (pos+(Utf8.decode s pos).2);have hf2:=(Lib.iterAt_other wr (w.heap.size+1) w.heap.size s (pos+(Utf8.decode s pos).2) yf).trans hfault;have hsz2:w.heap.size+1<(wr.iterAt (w.heap.size+1) s (pos+(Utf8.decode s pos).2)).heap.size:=by rw[Lib.iterAt_size];exact hBlt
    obtain⟨X,hX⟩:∃X,(Utf8.decode s pos).1=X:=⟨_,rfl⟩
    rw[hX]at hnxt hhi;obtain⟨W,hWd⟩:∃W,wr.iterAt (w.heap.size+1) s (pos+(Utf8.decode s pos).2)=W:=⟨_,rfl⟩
    rw[hWd]at hnxt hbw2 hf2 hsz2;have hf3:I (W.heap[w.heap.size]?=some (.cells #[.int .i64 0,.int .i64 0] 31)):=hf2;have hlt:¬ pos<bh:=fun h=>by
     have:=HA.o pos yf h;rw[hb]at this;omega
    have em:max pos bh=pos:=yf;obtain⟨f,rfl⟩:∃f',f=f'+ 1:=⟨f-1,yf⟩
    have hE:=HE.o;rw[em]at hE;have hnlt:decide ((pos:Int)<(bh:Int))=false:=decide_eq_false yf;obtain⟨h32,h10⟩:=blank_high (x:=(X:Int)) yf;obtain⟨b32,b10⟩:=blank_high (x:=((s[pos]'hp).toNat:Int)) yf;have hnb:¬ blankZ (bz s pos)=true:=by rw[hb,blankZ,b32,b10];simp
    have hfr:FirstRune (s.extract pos s.size) X:=by
     have h0:0<(s.extract pos s.size).size:=ybl;have e0:(s.extract pos s.size)[0]'h0=s[pos]'hp:=by
      rw[ByteArray.getElem_extract];congr 1
     exact⟨h0,Or.inr ⟨by rw[e0];omega,hhi⟩⟩
    have hword:=first_calls (s.extract pos s.size) X ybl hfr;rw[wordAt_rest hp,restVal_unplaced]at hword
    cases hw:wordAt s pos with
    | ok de=>
      obtain⟨d,e⟩:=de;have:=wordAt_ascii hp hw pos yf (wordAt_end hp hw).1;rw[hb]at this;omega
    | error c=>
      rw[lexGo_bad hp hnb hw]at hE;rw[hw]at hword;have HW:I (∀w,_):=hword;have hc:=wordAt_code hw;clear hw hnb hword hown hit hfault hf2 hnx HA HE hWd hX hfr b32 b10 em hb ha hhi;subst hE;go_wp2_with fail
      refine(HW.o _).mono ?_;rintro e W1 ⟨rfl,hb1⟩;have hf4:=(hb1.block w.heap.size yf).trans hf3.o;have q0:=z8 hf4 0;have q1:=z8 hf4 1;obtain⟨z0,z1⟩:=ffz2 hf4;simp at q0 q1;have hnx1:=hbw2.trans (hb1.mono hbw2.size);have hBlt1:w.heap.size<W1.heap.size:=World.block_lt_of_cell? W1 _ q0;clear HW hb1 hf3 hbw2 hf4;simp only[restVal];have hcc:(c !=0)=true:=gn;go_wp2_with fail
      refine bodyPost_ret (v:=.tuple #[.slice none 0 0,.agg #[.int .i64 c,.int .i64 pos]]) ybm rfl ⟨⟨.slice none 0 0,rfl,World.ownsRow_nil _ _ _ _⟩,?_⟩;exact((hnx1.setCell yn _).setCell yn _).alloc yk _
  .have hnxt:∀ty,(Instr.next (.pointer (some ⟨w.heap.size+1,0,none⟩)) true ty).run prog wr=_:=fun ty=>Lib.run_next_end_at wr (w.heap.size+1) s pos ty hit hp
   have hE:=HE.o;rw[lexGo_end yf]at hE;have q0:=z8 hfault 0;have q1:=z8 hfault 1;obtain⟨z0,z1⟩:=ffz2 hfault;simp at q0 q1;subst hE;clear HE HA hfault hit;go_wp2_with fail
   refine bodyPost_ret (v:=.tuple #[_,.agg #[.int .i64 0,.int .i64 0]]) (by simp[results,results26,go_sem,q0,q1];rfl) rfl ⟨⟨_,rfl,?_⟩,(hnx.setCell yn _).setCell yn _⟩;exact owns_setCell (owns_setCell hown yn _) yn _
end
end Go.Proofs.YtfbojelpdccjaaaGreatDoor
