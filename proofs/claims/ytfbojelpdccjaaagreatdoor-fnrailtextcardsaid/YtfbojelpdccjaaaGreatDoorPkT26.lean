import Derived.Test.YtfbojelpdccjaaaGreatDoorPkT25
open Go.Proofs.Tryz
set_option maxHeartbeats 8000000
set_option maxRecDepth 100000
namespace Go.Proofs.YtfbojelpdccjaaaGreatDoor
open Go.RowKit
variable {d:Dr}{B n sz:Nat}{u v x y:Value}{X w:World}
section
open Go.RowKit
theorem run_calls (s:ByteArray) (p:Nat) (l:Bool) (hp:p<=s.size) (hs:s.size<=1500) (w:World) :
 Calls prog 103 #[.string s,.int .i64 p,.bool l] w fun e w'=> e=.returned (.int .i64 (runTo s l p))/\w=w':= by
 obtain⟨R,hR⟩:∃R,runTo s l p=R:=⟨_,rfl⟩
 have HR:I (runTo s l p=R):=hR;rw[hR];clear hR;go_enter func103,ntmps103
 go_wp2_with fail
 go_loop [1] (fun a=> ∃k:Nat,a=.int .i64 k/\p<=k/\k<=s.size/\I (∀j,p<=j->j<k->okb l (bz s j)=true)) (fun a=>s.size-(intOf a).toNat)
 case atStart=>exact⟨p,rfl,La,hp,fun j h1 h2=>yf⟩
 case round=>
  obtain⟨k,rfl,hpk,hks,HA⟩:=hrel;have fin:¬ (k<s.size/\okb l (bz s k)=true)->I (R=k):=fun h=>by
   rw[<-HR.o];refine(IsRun.eq ⟨hpk,hks,HA.o,fun hlt=>?_⟩).symm
   cases hk:okb l (bz s k) with
   |false=>rfl
   |true=>exact absurd ⟨hlt,hk⟩ h
  have step:okb l (bz s k)=true->I (∀j,p<=j->j<k+1->okb l (bz s j)=true):=fun h j h1 h2=>by
   by_cases e:j=k
   .rw[e];exact h
   .exact HA.o j h1 yf
  clear HR HA;by_cases hlt:k<s.size
  .have hb:=bz_at s hlt
   cases hd:digitZ ((s[k]'hlt).toNat:Int) with
   | true=>
     have HS:=step (by rw[hb,okb,hd];rfl);clear fin step hb;go_wp2_with (first|(go_at_call 52;refine(digit18 _ _).mono ?_;rintro e w2 ⟨rfl,rfl⟩)|(go_at_call 50;refine(z63 _ _).mono ?_;rintro e w2 ⟨rfl,rfl⟩))
     exact⟨⟨k+1,yn,yf,yf,HS⟩,zl⟩
   | false=>
     cases l with
     | false=>
       have HF:=fin (fun h=>by rw[hb,okb,hd]at h;simp at h);clear fin step hb;go_wp2_with (first|(go_at_call 52;refine(digit18 _ _).mono ?_;rintro e w2 ⟨rfl,rfl⟩)|(go_at_call 50;refine(z63 _ _).mono ?_;rintro e w2 ⟨rfl,rfl⟩))
       go_ret;exact⟨jf,rfl⟩
     | true=>
       cases hL:letterZ ((s[k]'hlt).toNat:Int) with
       | true=>
         have HS:=step (by rw[hb,okb,hd,hL];rfl);clear fin step hb;go_wp2_with (first|(go_at_call 52;refine(digit18 _ _).mono ?_;rintro e w2 ⟨rfl,rfl⟩)|(go_at_call 50;refine(z63 _ _).mono ?_;rintro e w2 ⟨rfl,rfl⟩))
         exact⟨⟨k+1,yn,yf,yf,HS⟩,zl⟩
       | false=>
         have HF:=fin (fun h=>by rw[hb,okb,hd,hL]at h;simp at h);clear fin step hb;go_wp2_with (first|(go_at_call 52;refine(digit18 _ _).mono ?_;rintro e w2 ⟨rfl,rfl⟩)|(go_at_call 50;refine(z63 _ _).mono ?_;rintro e w2 ⟨rfl,rfl⟩))
         go_ret;exact⟨jf,rfl⟩
  .have HF:=fin (fun h=>hlt h.1);clear fin step;go_wp2_with fail
   go_ret;exact⟨jf,rfl⟩
theorem signs_calls (w:World) :
 Calls prog 125 #[] w fun e w'=> e=.returned (.slice (some ⟨w.heap.size,0,none⟩) 14 14)/\w'= w.alloc (.cells (signStrs.map Value.string).toArray 9):=by
 go_enter func125,ntmps125
 go_wp2
 go_ret;exact⟨rfl,rfl⟩
theorem signCells (w:World) (j:Nat) (hj:j<signStrs.length):(w.alloc (.cells (signStrs.map Value.string).toArray 9)).cell? ⟨w.heap.size,j,none⟩=some (.string (signStrs.getD j ByteArray.empty)):=by
 have h1:(w.alloc (.cells (signStrs.map Value.string).toArray 9)).heap[w.heap.size]?=some (.cells (signStrs.map Value.string).toArray 9):=(Ld w _).1;have e:signStrs.getD j ByteArray.empty=signStrs[j]:=by simp[List.getD,List.getElem?_eq_getElem hj]
 rw[e];unfold World.cell?;dsimp only;rw[h1];simp[hj]
theorem sign_calls (s:ByteArray) (w:World) :
 Calls prog 104 #[.string s] w fun e w'=> e=.returned (.string (signOf s))/\Below w.heap.size w w':= by
 go_enter func104,ntmps104
 go_wp2_with fail
 refine(signs_calls _).mono ?_;rintro e w1 ⟨rfl,hw1⟩;have hcell:=signCells w;rw[<-hw1]at hcell;have hb1:Below w.heap.size w w1:=by rw[hw1];exact Lb.alloc La _
 clear hw1;go_wp2_with fail
 go_loopw [4] (fun i wr=> ∃k d:Nat,i=.int .i64 k/\k<=14/\wr=w1.drewN d/\I (∀j,j<k->signHit s (signStrs.getD j ByteArray.empty)=false)) (fun i _=>14-(intOf i).toNat)
 case atStart=>exact⟨0,0,rfl,yf,rfl,fun j hj=>yf⟩
 case round=>
  obtain⟨k,d,rfl,hk,rfl,HA⟩:=hrel;by_cases hlt:k<14
  .have c:=hcell k hlt;obtain⟨g,hg⟩:∃g,signStrs.getD k ByteArray.empty=g:=⟨_,rfl⟩
   have HG:I (signStrs.getD k ByteArray.empty=g):=hg;rw[hg]at c;clear hcell hg;have hi:(k:Int)<14:=yf;have step:signHit s g=false->I (∀j,j<k+1->signHit s (signStrs.getD j ByteArray.empty)=false):=fun h j hj=>by
    by_cases e:j=k
    .rw[e,HG.o];exact h
    .exact HA.o j yf
   have fin:signHit s g=true->I (signOf s=g):=fun h=>signOf_hit hlt HG.o h HA.o
   clear HA HG;by_cases hge:g.size<=s.size
   .cases hm:((s.extract 0 g.size).toList==g.toList) with
    | true=>
      have HF:=fin (by simp only[signHit,hm,hge,decide_true,Bool.and_self]);clear fin step;go_wp2_with fail
      go_quiet (fail)
      go_wp2_with fail
      go_ret;exact⟨jf,z38 hb1 _⟩
    | false=>
      have HS:=step (by simp only[signHit,hm,Bool.and_false]);clear fin step;go_wp2_with fail
      go_quiet (fail)
      go_wp2_with fail
      exact⟨⟨k+1,_,yn,yf,rfl,HS⟩,zl⟩
   .have HS:=step (by simp only[signHit,hge,decide_false,Bool.false_and]);clear fin step;have hge':decide (g.size<=s.size)=false:=decide_eq_false hge;go_wp2_with fail
    go_quiet (fail)
    go_wp2_with fail
    exact⟨⟨k+1,_,yn,yf,rfl,HS⟩,zl⟩
  .have hk14:k=14:=by omega
   have HF:I (signOf s=ByteArray.empty):=signOf_none (hk14 ▸ HA.o);clear HA;go_wp2_with fail
   go_ret;exact⟨jf,z38 hb1 _⟩
theorem word_digit (s:ByteArray) (p:Nat) (hp:p<s.size) (hs:s.size<=1500) (hd:digitZ ((s[p]'hp).toNat:Int)=true) (w:World) :
 Calls prog 61 #[.string s,.int .i64 p] w fun e w'=> e=.returned (wordVal (wordAt s p))/\Below w.heap.size w w':= by
 have hb:=bz_at s hp;obtain⟨V,hV⟩:∃V,wordAt s p=V:=⟨_,rfl⟩
 rw[hV];unfold wordAt at hV;rw[hb]at hV;obtain⟨h1,h2,h3,h4⟩:=z36 s false (p:=p) yf;have hrun:=run_calls s p false yf hs;obtain⟨R,hR⟩:∃R,runTo s false p=R:=⟨_,rfl⟩
 rw[hR]at h1 h2 h3 h4 hrun;rw[if_pos hd,hR]at hV;dsimp only at hV;have HR:I (∀w,_):=hrun;clear hrun hR h3 h4 hb;by_cases h9:9<R-p
 .rw[if_pos (Or.inl h9)]at hV;subst hV;go_enter func61,ntmps61
  go_wp2_with (first|(go_at_call 52;refine(digit18 _ _).mono ?_;rintro e w2 ⟨rfl,rfl⟩)|(go_at_call 50;refine(z63 _ _).mono ?_;rintro e w2 ⟨rfl,rfl⟩)|(go_at_call 103;refine(HR.o _).mono ?_;rintro e w2 ⟨rfl,rfl⟩))
  refine bodyPost_ret (v:=wordVal (.error 3)) gl rfl ⟨rfl,?_⟩;repeat(first|exact Lb|refine Below.alloc ?_ zw _)
 by_cases h48:((s[p]'hp).toNat:Int)=48
 .have hb48:(((s[p]'hp).toNat:Int)==48)=true:=by rw[h48];rfl
  by_cases h1':1<R-p
  .rw[if_pos (Or.inr ⟨h48,h1'⟩)]at hV;subst hV;clear h48;go_enter func61,ntmps61
   go_wp2_with (first|(go_at_call 52;refine(digit18 _ _).mono ?_;rintro e w2 ⟨rfl,rfl⟩)|(go_at_call 50;refine(z63 _ _).mono ?_;rintro e w2 ⟨rfl,rfl⟩)|(go_at_call 103;refine(HR.o _).mono ?_;rintro e w2 ⟨rfl,rfl⟩))
   refine bodyPost_ret (v:=wordVal (.error 3)) gl rfl ⟨rfl,?_⟩;repeat(first|exact Lb|refine Below.alloc ?_ zw _)
  .rw[if_neg yf]at hV;subst hV;clear h48;go_enter func61,ntmps61
   go_wp2_with (first|(go_at_call 52;refine(digit18 _ _).mono ?_;rintro e w2 ⟨rfl,rfl⟩)|(go_at_call 50;refine(z63 _ _).mono ?_;rintro e w2 ⟨rfl,rfl⟩)|(go_at_call 103;refine(HR.o _).mono ?_;rintro e w2 ⟨rfl,rfl⟩))
   refine bodyPost_ret (v:=wordVal (.ok (⟨1,s.extract p R,p⟩,R))) gl rfl ⟨rfl,?_⟩;repeat(first|exact Lb|refine Below.alloc ?_ zw _)
 .have hb48:(((s[p]'hp).toNat:Int)==48)=false:=by rw[beq_eq_false_iff_ne];exact h48
  rw[if_neg yf]at hV;subst hV;clear h48;go_enter func61,ntmps61
  go_wp2_with (first|(go_at_call 52;refine(digit18 _ _).mono ?_;rintro e w2 ⟨rfl,rfl⟩)|(go_at_call 50;refine(z63 _ _).mono ?_;rintro e w2 ⟨rfl,rfl⟩)|(go_at_call 103;refine(HR.o _).mono ?_;rintro e w2 ⟨rfl,rfl⟩))
  refine bodyPost_ret (v:=wordVal (.ok (⟨1,s.extract p R,p⟩,R))) gl rfl ⟨rfl,?_⟩;repeat(first|exact Lb|refine Below.alloc ?_ zw _)
theorem two_kept {w2:World}{a b:Array Value}{t:TypeId}(h:Below ((w.alloc (.cells a t)).alloc (.cells b t)).heap.size ((w.alloc (.cells a t)).alloc (.cells b t)) w2) :
 w2.heap[w.heap.size]?=some (.cells a t)/\w2.heap[w.heap.size+1]?=some (.cells b t)/\Below w.heap.size w w2:=by
 have e1:(w.alloc (.cells a t)).heap[w.heap.size]?=some (.cells a t):=(Ld w _).1;have s1:(w.alloc (.cells a t)).heap.size=w.heap.size+1:=yn;have e2:((w.alloc (.cells a t)).alloc (.cells b t)).heap[w.heap.size+1]?=some (.cells b t):=by
  have:=(Ld (w.alloc (.cells a t)) (.cells b t)).1;rwa[s1]at this
 have s2:((w.alloc (.cells a t)).alloc (.cells b t)).heap.size=w.heap.size+1+1:=yn;refine⟨?_,?_,?_⟩
 .rw[h.block _ (by rw[s2];omega),Below.heap_alloc _ _ _ zx,e1]
 .rw[h.block _ (by rw[s2];omega),e2]
 .exact(Lb.alloc La _ |>.alloc zx _).trans (h.mono (by rw[s2];omega))
theorem word_letter (s:ByteArray) (p:Nat) (hp:p<s.size) (hs:s.size<=1500) (hd:digitZ ((s[p]'hp).toNat:Int)=false) (hL:letterZ ((s[p]'hp).toNat:Int)=true) (w:World) :
 Calls prog 61 #[.string s,.int .i64 p] w fun e w'=> e=.returned (wordVal (wordAt s p))/\Below w.heap.size w w':= by
 have hb:=bz_at s hp;obtain⟨V,hV⟩:∃V,wordAt s p=V:=⟨_,rfl⟩
 rw[hV];unfold wordAt at hV;rw[hb,if_neg (by rw[hd];simp)]at hV;obtain⟨h1,h2,h3,h4⟩:=z36 s true (p:=p) yf;have hrun:=run_calls s p true yf hs;obtain⟨R,hR⟩:∃R,runTo s true p=R:=⟨_,rfl⟩
 rw[hR]at h1 h2 h3 h4 hrun;rw[if_pos hL,hR]at hV;dsimp only at hV;have HR:I (∀w,_):=hrun;clear hrun hR h3 h4 hb;by_cases h8:8<R-p
 .rw[if_pos h8]at hV;subst hV;go_enter func61,ntmps61
  go_wp2_with (first|(go_at_call 52;refine(digit18 _ _).mono ?_;rintro e w2 ⟨rfl,rfl⟩)|(go_at_call 50;refine(z63 _ _).mono ?_;rintro e w2 ⟨rfl,rfl⟩)|(go_at_call 103;refine(HR.o _).mono ?_;rintro e w2 ⟨rfl,rfl⟩))
  refine bodyPost_ret (v:=wordVal (.error 4)) gl rfl ⟨rfl,?_⟩;repeat(first|exact Lb|refine Below.alloc ?_ zw _)
 rw[if_neg h8]at hV;go_enter func61,ntmps61
 go_wp2_with (first|(go_at_call 52;refine(digit18 _ _).mono ?_;rintro e w2 ⟨rfl,rfl⟩)|(go_at_call 50;refine(z63 _ _).mono ?_;rintro e w2 ⟨rfl,rfl⟩)|(go_at_call 103;refine(HR.o _).mono ?_;rintro e w2 ⟨rfl,rfl⟩))
 refine(specKey_calls _ _).mono ?_;rintro e w2 ⟨rfl,hbk⟩;obtain⟨eA,eB,hbw⟩:=two_kept hbk;have a0:=z8 eA 0;have a1:=z8 eA 1;have a2:=z8 eA 2;have b0:=z8 eB 0;have b1:=z8 eB 1;have b2:=z8 eB 2;have fA0:=z11 eA 0;have fA1:=z11 eA 1;have fA2:=z11 eA 2;have fB0:=z11 eB 0;simp at a0 a1 a2 b0 b1 b2;clear hbk eA eB
 cases hK:isKey (s.extract p R) with
 | true=>
   rw[hK,if_pos rfl]at hV;subst hV;go_wp2_with fail
   refine bodyPost_ret (v:=wordVal (.ok (⟨3,s.extract p R,p⟩,R))) gm rfl ⟨rfl,?_⟩;repeat(first|exact hbw|refine Below.setCell ?_ yn _)
 | false=>
   rw[hK,if_neg yn]at hV;subst hV;go_wp2_with fail
   refine bodyPost_ret (v:=wordVal (.ok (⟨2,s.extract p R,p⟩,R))) gm rfl ⟨rfl,?_⟩;repeat(first|exact hbw|refine Below.setCell ?_ yn _)
theorem word_sign (s:ByteArray) (p:Nat) (hp:p<s.size) (hd:digitZ ((s[p]'hp).toNat:Int)=false) (hL:letterZ ((s[p]'hp).toNat:Int)=false) (hs:s.size<=1500) (w:World) :
 Calls prog 61 #[.string s,.int .i64 p] w fun e w'=> e=.returned (wordVal (wordAt s p))/\Below w.heap.size w w':= by
 have hb:=bz_at s hp;obtain⟨V,hV⟩:∃V,wordAt s p=V:=⟨_,rfl⟩
 rw[hV];unfold wordAt at hV;rw[hb,if_neg (by rw[hd];simp),if_neg (by rw[hL];simp)]at hV;dsimp only at hV;clear hb;go_enter func61,ntmps61
 go_wp2_with (first|(go_at_call 52;refine(digit18 _ _).mono ?_;rintro e w2 ⟨rfl,rfl⟩)|(go_at_call 50;refine(z63 _ _).mono ?_;rintro e w2 ⟨rfl,rfl⟩))
 refine(sign_calls _ _).mono ?_;rintro e w2 ⟨rfl,hbk⟩;obtain⟨eA,eB,hbw⟩:=two_kept hbk;have a0:=z8 eA 0;have a1:=z8 eA 1;have a2:=z8 eA 2;have b0:=z8 eB 0;have b1:=z8 eB 1;have b2:=z8 eB 2;have fA0:=z11 eA 0;have fA1:=z11 eA 1;have fA2:=z11 eA 2;have fB1:=z11 eB 1;simp at a0 a1 a2 b0 b1 b2;clear hbk eA eB;have hgs:=signOf_size (s.extract p s.size);generalize signOf (s.extract p s.size)=g at*;by_cases hg:g.size=0
 ·rw [if_pos hg]at hV;subst hV;have hge:(g.toList== [])=true:=by
   rw[ByteArray.toList_eq];have:g.data.toList= []:=Lk (by rw[Array.length_toList];exact hg);rw[this];rfl
  go_wp2_with fail
  refine bodyPost_ret (v:=wordVal (.error 2)) gm rfl ⟨rfl,?_⟩;repeat(first|exact hbw|refine Below.setCell ?_ yn _)
 ·rw [if_neg hg]at hV;subst hV;have hge:(g.toList== [])=false:=by
   rw[ByteArray.toList_eq]
   cases hl:g.data.toList with
   | nil=>
     have h0:g.data.toList.length=0:=by rw[hl];rfl
     rw[Array.length_toList]at h0;exact absurd h0 hg
   |cons x r=>rfl
  go_wp2_with fail
  have q0:(w2.setCell ⟨w.heap.size+1,1,none⟩ (.string g)).cell? ⟨w.heap.size,0,none⟩=some (.int .i64 0):=by simp[go_sem,a0]
  have q1:(w2.setCell ⟨w.heap.size+1,1,none⟩ (.string g)).cell? ⟨w.heap.size,1,none⟩=some (.string ⟨#[]⟩):=by simp[go_sem,a1]
  have q2:(w2.setCell ⟨w.heap.size+1,1,none⟩ (.string g)).cell? ⟨w.heap.size,2,none⟩=some (.int .i64 0):=by simp[go_sem,a2]
  have r0:(w2.setCell ⟨w.heap.size+1,1,none⟩ (.string g)).cell? ⟨w.heap.size+1,0,none⟩=some (.int .i64 4):=by simp[go_sem,b0]
  have r1:(w2.setCell ⟨w.heap.size+1,1,none⟩ (.string g)).cell? ⟨w.heap.size+1,1,none⟩=some (.string g):=by simp[go_sem,b1]
  have r2:(w2.setCell ⟨w.heap.size+1,1,none⟩ (.string g)).cell? ⟨w.heap.size+1,2,none⟩=some (.int .i64 p):=by simp[go_sem,b2]
  have g0:(w2.setCell ⟨w.heap.size+1,1,none⟩ (.string g)).frozen? ⟨w.heap.size,0,none⟩=false:=by simp[go_sem,fA0]
  have g1:(w2.setCell ⟨w.heap.size+1,1,none⟩ (.string g)).frozen? ⟨w.heap.size,1,none⟩=false:=by simp[go_sem,fA1]
  have g2:(w2.setCell ⟨w.heap.size+1,1,none⟩ (.string g)).frozen? ⟨w.heap.size,2,none⟩=false:=by simp[go_sem,fA2]
  have hb2:=hbw.setCell (p:=⟨w.heap.size+1,1,none⟩) yn (.string g);clear a0 a1 a2 b0 b1 b2 fA0 fA1 fA2 fB1 hbw;generalize w2.setCell ⟨w.heap.size+1,1,none⟩ (.string g)=W at*;go_region
  all_goals
   go_wp2_with fail
   refine bodyPost_ret (v:=wordVal (.ok (⟨4,g,p⟩,p+g.size))) (by simp[wordVal,results,results61,go_sem,q0,q1,q2]) rfl ⟨rfl,?_⟩;repeat(first|exact hb2|refine Below.drew ?_|refine Below.setCell ?_ yn _)
theorem word_calls (s:ByteArray) (p:Nat) (hp:p<s.size) (hs:s.size<=1500) (w:World) :
 Calls prog 61 #[.string s,.int .i64 p] w fun e w'=> e=.returned (wordVal (wordAt s p))/\Below w.heap.size w w':= by
 cases hd:digitZ ((s[p]'hp).toNat:Int) with
 |true=>exact word_digit s p hp hs hd w
 | false=>
   cases hL:letterZ ((s[p]'hp).toNat:Int) with
   |true=>exact word_letter s p hp hs hd hL w
   |false=>exact word_sign s p hp hd hL hs w
theorem info_word:(prog.info? 76).map (fun i=>(i.zero,i.size,i.bytes))=some (some (.agg #[.int .i64 0,.string ⟨#[]⟩,.int .i64 0]),3,32):=yb
theorem cell_three_new (w:World) (n:Nat) (hn:n=w.heap.size) (a b c:Value) (t:TypeId):∀j u,[a,b,c][j]?=some u->(w.alloc (.cells #[a,b,c] t)).cell? ((⟨n,0,none⟩:Addr).add j)=some u:=by
 subst hn;intro j u hj;match j,hj with
 |0,hj=>simp at hj;subst hj;simp[Addr.add]
 |1,hj=>simp at hj;subst hj;simp[Addr.add]
 |2,hj=>simp at hj;subst hj;simp[Addr.add]
 |j+3,hj=>simp at hj
theorem owns_setCell {base:Nat}{e:TypeId}{size:Nat}{xs:List Value}(h:w.ownsRow base e size v n xs) {a:Addr}(ha:a.block<base) (u:Value):(w.setCell a u).ownsRow base e size v n xs:=by
 refine h.kept (row:=some a.block) ⟨rfl,rfl,rfl,vh,fun k _ hk=>Lg _ _ _ _ (fun e=>hk (by rw[e]))⟩ (Or.inr (fun e=>?_));have:=(h.lt _ e).1;omega
theorem wordAt_code {s:ByteArray}{p:Nat}{c:Int}(h:wordAt s p=.error c):c=2\/c=3\/c=4:=by
 unfold wordAt at h;split at h
 .dsimp only at h;split at h
  .cases h;simp
  .cases h
 .split at h
  .dsimp only at h;split at h
   .cases h;simp
   .cases h
  .dsimp only at h;split at h
   .cases h;simp
   .cases h
def Told (B:Nat) (r:List Wd×Int×Nat) (v:Value) (e:Ending) (w':World):Prop:=
 e=.returned (.tuple #[v,.agg #[.int .i64 r.2.1,.int .i64 r.2.2]])/\w'.ownsRow B 76 3 v r.1.length (flatW r.1)
theorem specWords_calls (s:ByteArray) (w:World) :
 Calls prog 32 #[.string s] w fun e w'=> (∃v,Told (w.heap.size+1) (lexAll s) v e w')/\Below w.heap.size w w':= by
 obtain⟨R,hR⟩:∃R,lexAll s=R:=⟨_,rfl⟩
 rw[hR];unfold lexAll at hR;by_cases hbig:(1500:Int)<s.size
 .rw[if_pos yf]at hR;subst hR;go_enter func32,ntmps32
  go_wp2_with fail
  refine bodyPost_ret (v:=.tuple #[.slice none 0 0,.agg #[.int .i64 1,.int .i64 0]]) (by simp[results,results32,go_sem]) rfl ⟨⟨.slice none 0 0,rfl,World.ownsRow_nil _ _ _ _⟩,?_⟩;repeat(first|exact Lb|refine Below.alloc ?_ zw _)
 rw[if_neg yf]at hR;have HR:I (lexGo s s.size 0 []=R):=hR;clear hR;obtain⟨i0,hi,hz0,hz1,hz2⟩:=info_parts info_word;go_enter func32,ntmps32
 go_wp2_with fail
 go_loopw [4,5] (fun o a wr=> ∃(p f:Nat) (ws:List Wd),a=.int .i64 p/\p<=1509/\s.size<=p+f/\ws.length<=p/\I (lexGo s f p ws=R)/\wr.ownsRow (w.heap.size+1) 76 3 o ws.length (flatW ws)/\
  wr.heap[w.heap.size]?=some (.cells #[.int .i64 0,.int .i64 0] 31)/\Below w.heap.size w wr) (fun _ a _=>s.size-(intOf a).toNat)
 case atStart=>exact⟨0,s.size,[],rfl,yf,yf,yn,HR,World.ownsRow_nil _ _ _ _,(Ld w _).1,Lb.alloc La _⟩
 case round=>
  obtain⟨p,f,ws,rfl,hp9,hfu,hwl,HE,hown,hfault,hnx⟩:=hrel;clear HR;have hBlt:w.heap.size<wr.heap.size:=(Array.getElem?_eq_some_iff.1 hfault).1;by_cases hp:p<s.size
  .obtain⟨f,rfl⟩:∃f',f=f'+ 1:=⟨f-1,yf⟩
   have hb:=bz_at s hp
   cases hbl:blankZ ((s[p]'hp).toNat:Int) with
   | true=>
     have hE:=HE.o;rw[lexGo_blank hp (by rw[hb];exact hbl)]at hE;have HE':I (lexGo s f (p+1) ws=R):=hE;clear HE hE hb
     cases h32:(((s[p]'hp).toNat:Int)==32) with
     | true=>
       clear hbl;go_wp2_with fail
       exact⟨⟨p+1,f,ws,yn,yf,yf,yf,HE',hown,hfault,hnx⟩,zl⟩
     | false=>
       have h10:(((s[p]'hp).toNat:Int)==10)=true:=by simpa[blankZ,h32]using hbl
       clear hbl;go_wp2_with fail
       exact⟨⟨p+1,f,ws,yn,yf,yf,yf,HE',hown,hfault,hnx⟩,zl⟩
   | false=>
     have h32:(((s[p]'hp).toNat:Int)==32)=false:=by
      cases h:(((s[p]'hp).toNat:Int)==32) with
      |false=>rfl
      |true=>simp[blankZ,h]at hbl
     have h10:(((s[p]'hp).toNat:Int)==10)=false:=by
      cases h:(((s[p]'hp).toNat:Int)==10) with
      |false=>rfl
      |true=>simp[blankZ,h]at hbl
     have hnb:¬ blankZ (bz s p)=true:=by rw[hb,hbl];simp
     have hword:=word_calls s p hp yf;clear hbl hb
     cases hw:wordAt s p with
     | error c=>
       have hE:=HE.o;rw[lexGo_bad hp hnb hw]at hE;rw[hw]at hword;have HW:I (∀w,_):=hword;have hc:=wordAt_code hw;clear HE hw hnb hword hown;subst hE;go_wp2_with fail
       refine(HW.o _).mono ?_;rintro e W1 ⟨rfl,hb1⟩;have hf1:=(hb1.block w.heap.size hBlt).trans hfault;have q0:=z8 hf1 0;have q1:=z8 hf1 1;obtain⟨z0,z1⟩:=ffz2 hf1;simp at q0 q1;have hnx1:=hnx.trans (hb1.mono hnx.size);clear HW hb1 hfault hnx hf1;simp only[wordVal];have hBlt1:w.heap.size<W1.heap.size:=by
        have:=World.block_lt_of_cell? W1 _ q0;exact this
       have hcc:(c !=0)=true:=gn;go_wp2_with fail
       refine bodyPost_ret (v:=.tuple #[.slice none 0 0,.agg #[.int .i64 c,.int .i64 p]]) (by simp[results,results32,go_sem,q0,q1,hBlt1]) rfl ⟨⟨.slice none 0 0,rfl,World.ownsRow_nil _ _ _ _⟩,?_⟩;exact((hnx1.setCell yn _).setCell yn _).alloc yk _
     | ok de=>
       obtain⟨d,e⟩:=de;have hE:=HE.o;rw[lexGo_word hp hnb hw]at hE;have HE':I (lexGo s f e (ws++ [d])=R):=hE;rw[hw]at hword;have HW:I (∀w,_):=hword;have hend:=wordAt_end hp hw;clear HE hw hnb hword hE;go_wp2_with fail
       refine(HW.o _).mono ?_;rintro e' W1 ⟨rfl,hb1⟩;have hf1:=(hb1.block w.heap.size hBlt).trans hfault;have hown1:=z33 hown hb1;have hnx1:=hnx.trans (hb1.mono hnx.size);have hBlt1:w.heap.size<W1.heap.size:=(Array.getElem?_eq_some_iff.1 hf1).1;have Hf1:I (W1.heap[w.heap.size]?=some (.cells #[.int .i64 0,.int .i64 0] 31)):=hf1;clear HW hb1 hfault hnx hown hf1;simp only[wordVal];go_wp2_with (first
        | (at_builtin;refine wpList_append_own _ rfl _ _ 61 rfl (w.heap.size+1) 76 i0 (.agg #[.int .i64 0,.string ⟨#[]⟩,.int .i64 0]) 3 32 underlying61 hi hz0 hz1 hz2 rfl yh _ _ _ rfl ((hown1.alloc _).alloc _) ⟨W1.heap.size+1,0,none⟩ 1 1 [.int .i64 d.kind,.string d.text,.int .i64 d.at_] rfl rfl (cell_three_new _ _ yn _ _ _ _) (fun x hx=>gp) zp yf yk ?_
           intro v' w3 hown' hgrow3 hnil3;have hit3:I (w3.heap[w.heap.size]?=some (.cells #[.int .i64 0,.int .i64 0] 31)):=by
            show w3.heap[w.heap.size]?=_;rw[hgrow3.block w.heap.size yk (fun h=>gq),Below.heap_alloc _ _ _ yk,Below.heap_alloc _ _ _ hBlt1];exact Hf1.o
           have hbw3:Below w.heap.size w w3:=Below.grown ((hnx1.alloc yf _).alloc yk _) hgrow3 yk (fun j hj=>by have:=(hown1.lt _ hj).1;omega);clear hgrow3 hnil3 Hf1 hown1 hnx1))
       refine⟨⟨e,f,ws++ [d],rfl,yf,yf,yk,HE',?_,hit3.o,hbw3⟩,zl⟩;rw[flatW_append,List.length_append];exact hown'
  .have hE:=HE.o;rw[lexGo_end hp]at hE;have q0:=z8 hfault 0;have q1:=z8 hfault 1;obtain⟨z0,z1⟩:=ffz2 hfault;simp at q0 q1;subst hE;clear HE hfault;go_wp2_with fail
   refine bodyPost_ret (v:=.tuple #[_,.agg #[.int .i64 0,.int .i64 0]]) (by simp[results,results32,go_sem,q0,q1];rfl) rfl ⟨⟨_,rfl,?_⟩,(hnx.setCell yn _).setCell yn _⟩;exact owns_setCell (owns_setCell hown yn _) yn _
end
section
open Go.RowKit Go.Deep
theorem flatW_row:∀(ws:List Wd),flatW ws=rowZ wdC 3 ws
 |[]=>rfl
 | w::r=>by
   rw[flatW,flatW_row r];simp[rowZ,wdC,List.range,List.range.loop]
def readZ (t:ByteArray) (T:List Nd->Bool):Except (Int×Nat) (List Ef×Tr):=
 if (lexAll t).2.1≠0 then .error ((lexAll t).2.1,(lexAll t).2.2)
 else match wholeI (lexAll t).1 with
  |.error j=> .error (5,if j<(lexAll t).1.length then (curW (lexAll t).1 j).at_ else t.size)
  | .ok r=>if r.2<(lexAll t).1.length then .error (5,(curW (lexAll t).1 r.2).at_)
    else if 300<(Tr.flat r.1.2).length\/8<r.1.1.length then .error (6,0)
    else if 40<r.1.2.2.deep+1 then .error (7,0)
    else if progZ r.1.1 (Tr.flat r.1.2) (T (Tr.flat r.1.2))=true then .ok r.1 else .error (8,0)
theorem two_blocks (W:World) (o1 o2:Obj):Below W.heap.size W ((W.alloc o1).alloc o2)/\((W.alloc o1).alloc o2).heap[W.heap.size]?=some o1/\((W.alloc o1).alloc o2).heap[W.heap.size+1]?=some o2/\((W.alloc o1).alloc o2).heap.size=W.heap.size+2:=by
 have h1:Below W.heap.size W (W.alloc o1):=Lb.alloc La _;have h2:Below (W.alloc o1).heap.size (W.alloc o1) ((W.alloc o1).alloc o2):=Lb.alloc La _;have s1:(W.alloc o1).heap.size=W.heap.size+1:=yn;refine⟨h1.trans (h2.mono h1.size),(h2.block _ yf).trans (Ld W o1).1,?_,yn⟩;have:=(Ld (W.alloc o1) o2).1;rw[s1]at this;exact this
def set4 (w:World) (B:Nat) (a b c d:Value):World:=(((w.setCell ⟨B,0,none⟩ a).setCell ⟨B,1,none⟩ b).setCell ⟨B+1,0,none⟩ c).setCell ⟨B+1,1,none⟩ d
theorem set4_is {z:Value}{t t':TypeId}(a b c d:Value) (h:w.heap[B]?=some (.cells #[x,y] t)) (h':w.heap[B+1]?=some (.cells #[z,u] t')) :
 (set4 w B a b c d).heap[B]?=some (.cells #[a,b] t)/\(set4 w B a b c d).heap[B+1]?=some (.cells #[c,d] t')/\Below B w (set4 w B a b c d)/\ ∀q,q≠B->q≠B+1->(set4 w B a b c d).heap[q]?=w.heap[q]? :=by
 have e:∀(w:World) (q g i:Nat) (v:Value),q≠g->(w.setCell ⟨g,i,none⟩ v).heap[q]?=w.heap[q]? :=fun w q g i v hq=>Lg _ _ _ _ (fun x=>hq x)
 refine⟨?_,?_,((((Below.refl B w).setCell (p:=⟨B,0,none⟩) La a).setCell (p:=⟨B,1,none⟩) La b).setCell (p:=⟨B+1,0,none⟩) (Nat.le_succ _) c).setCell (p:=⟨B+1,1,none⟩) (Nat.le_succ _) d,fun q h1 h2=>?_⟩
 .unfold set4;rw[e _ _ _ _ _ yf,e _ _ _ _ _ yf];exact z28 b (z28 a h)
 ·unfold set4;have h2:((w.setCell ⟨B,0,none⟩ a).setCell ⟨B,1,none⟩ b).heap[B+1]?=some (.cells #[z,u] t'):=by
   rw[e _ _ _ _ _ yf,e _ _ _ _ _ yf];exact h'
  exact z28 (i:=1) d (z28 (i:=0) c h2)
 .unfold set4;rw[e _ _ _ _ _ h2,e _ _ _ _ _ h2,e _ _ _ _ _ h1,e _ _ _ _ _ h1]
def ReadTold (r:Except (Int×Nat) (List Ef×Tr)) (e:Ending) (W':World):Prop:=match r with
 |.error x=>e=.returned (.tuple #[.agg #[.slice none 0 0,.slice none 0 0],.agg #[.int .i64 x.1,.int .i64 (x.2:Int)]])
 |.ok x=> ∃(d:Dr) (ve vt:Value),e=.returned (.tuple #[.agg #[ve,vt],.agg #[.int .i64 0,.int .i64 0]])/\Lies d W' ve x.1.length 3 (fun i=>Ef.cell (x.1.getD (i/3) default) (i % 3))/\NodesD d W' vt (Tr.flat x.2)/\ ∀y∈x.1,Brief y.name
theorem lies_old {α:Type}[Inhabited α] {f:α->Nat->Value}(hz:0<sz) {W:World}{t:TypeId}{l:List α}(h:W.ownsRow B t sz v l.length (rowZ f sz l)) (h1:W.heap.size<=d.B) (h2:W.heap.size<=d.G):Lies d W v l.length sz (fun i=>f (l.getD (i/sz) default) (i % sz)):=by
 have h':= h;obtain⟨-,⟨rfl,h0⟩|⟨g,cap,cur,rfl,hB,hc,hnc,-⟩⟩:=h
 .exact Or.inl ⟨rfl,h0⟩
 .have hg:=z12 hc;refine Or.inr ⟨g,0,cap,rfl,hnc,rfl,⟨hg,yf,yf⟩,fun i hi=>?_⟩;rw[Nat.zero_add,h'.cellAt i hi,z61 f sz hz l i hi]
theorem nodes_set {ns:List Nd}{q i:Nat}{a:Option Addr}{c:Nat}{r:Array Value}{t:TypeId}(h:NodesD d X v ns) (hq:X.heap[q]?=some (.cells r t)) (h0:r[0]?=some (.slice a n c)):NodesD d (X.setCell ⟨q,i,none⟩ u) v ns:=by
 obtain⟨h,hb⟩:=h;refine⟨?_,hb⟩;have hk:=kept_set (kept_refl X (some q)) i u;rcases h with h|⟨b,off,cap,rfl,hn,rfl,hqb,hc⟩
 .exact Or.inl h
 ·refine Or.inr ⟨b,0,cap,rfl,hn,rfl,⟨Le hqb.1 hk.size,hqb.2⟩,fun j hj=>?_⟩;have hne:b≠q:=fun e=>by
   subst e;have e1:=z8 hq 0;rw[h0]at e1;have e2:=hc 0 yf;rw[Nat.zero_add,e1]at e2
   cases e2
  exact(Lj (a:=⟨b,0+j,none⟩) (hk.block b hqb.1 (fun e=>hne (by cases e;rfl)))).trans (hc j hj)
theorem lies_two {q i:Nat}{t:TypeId}{F:Nat->Value}(hz:3<=sz) (h:Lies d X v n sz F) (hq:X.heap[q]?=some (.cells #[x,y] t)):Lies d (X.setCell ⟨q,i,none⟩ u) v n sz F:=by
 rcases h with h|⟨b,off,cap,rfl,hn,rfl,hqb,hc⟩
 .exact Or.inl h
 ·refine Or.inr ⟨b,0,cap,rfl,hn,rfl,⟨by simpa[World.setCell]using hqb.1,hqb.2⟩,fun j hj=>?_⟩;have hne:b≠q:=fun e=>by
   subst e;have h2:2<n*sz:=by
    have h0:0<n:=Nat.pos_of_ne_zero (fun e=>by subst e;simp at hj);have:=Nat.mul_le_mul h0 hz;omega
   have e1:=hc 2 h2;rw[Nat.zero_add,z8 hq 2]at e1
   cases e1
  rw[<-hc j hj];exact Lj (Lg X ⟨q,i,none⟩ u b hne)
theorem lies_set4 {z:Value}{t t':TypeId}{F:Nat->Value}(a b c e:Value) (hz:3<=sz) (h:Lies d X v n sz F) (h1:X.heap[B]?=some (.cells #[x,y] t)) (h2:X.heap[B+1]?=some (.cells #[z,u] t')):Lies d (set4 X B a b c e) v n sz F:=by
 have k:∀(w:World) (q g i:Nat) (v:Value),q≠g->(w.setCell ⟨g,i,none⟩ v).heap[q]?=w.heap[q]? :=fun w q g i v hq=>Lg _ _ _ _ (fun x=>hq x)
 have g1:=lies_two (i:=0) (u:=a) hz h h1;have g2:=lies_two (i:=1) (u:=b) hz g1 (z28 (i:=0) a h1);have h3:((X.setCell ⟨B,0,none⟩ a).setCell ⟨B,1,none⟩ b).heap[B+1]?=some (.cells #[z,u] t'):=by
  rw[k _ _ _ _ _ yf,k _ _ _ _ _ yf];exact h2
 have g3:=lies_two (i:=0) (u:=c) hz g2 h3;exact lies_two (i:=1) (u:=e) hz g3 (z28 (i:=0) c h3)
theorem progRead_calls (t:ByteArray) (T:List Nd->Bool) (hT:∀ns,SpecAns ns (T ns)) (W:World) :
 Calls prog 12 #[.string t] W fun e W'=> ReadTold (readZ t T) e W'/\Below W.heap.size W W':= by
 have HT:=J hT;clear hT;go_enter func12,ntmps12
 go_wp2_with fail
 obtain⟨hA,hA2,hA3,hA4⟩:=two_blocks W (.cells #[.slice none 0 0,.slice none 0 0] 26) (.cells #[.int .i64 0,.int .i64 0] 31);refine(specWords_calls t _).mono ?_;rintro e w1 ⟨⟨v,rfl,hrow⟩,hb1⟩;obtain⟨ws,c,p,hL⟩:∃ws c p,lexAll t=(ws,c,p):=⟨_,_,_,rfl⟩
 have HWs:=J (Lc (lexAll_brief t) (Lc (lexAll_num t) (Lc (lexAll_words t) (lexAll_ok t).2)));rw[hL]at hrow HWs |-;dsimp only at hrow |-;have HLx:=J hL;have HRow:=J hrow;have B2:=J ((hb1.block _ yf).trans hA2);have B3:=J ((hb1.block _ yf).trans hA3);have HB:=J (hA.trans (hb1.mono hA.size));have HN:=J (show W.heap.size+2<=w1.heap.size from by have:=hb1.size;omega);rw[hA4]at HRow;clear hL hrow hb1 hA hA2 hA3 hA4;by_cases hc:c=0
 case neg=>
  have hcb:(c==0)=false:=by simpa using hc
  go_upto_region 3 with fail
  have hx:=(Below.refl w1.heap.size w1).alloc La (.cells #[.int .i64 c,.int .i64 (p:Int)] 31);have hy:=(Ld w1 (.cells #[.int .i64 c,.int .i64 (p:Int)] 31)).1;have hn:=HN.o;have b2:=(hx.block _ yf).trans B2.o;have b3:=(hx.block _ yf).trans B3.o;have hB:=HB.o.trans (hx.mono HB.o.size);generalize w1.alloc (.cells #[.int .i64 c,.int .i64 (p:Int)] 31)=w2 at hx hy b2 b3 hB |-;generalize w1.heap.size=g5 at hy hn |-;have HB2:=J hB;have K2:=J b2;have K3:=J b3;have HC:=J hc;refine zb6 ?_;unhygienic intros
  clear hx hy hn b2 b3 hB hc hcb;go_region
  obtain⟨r2,r3,rB,rO⟩:=set4_is (.slice none 0 0) (.slice none 0 0) (.int .i64 c) (.int .i64 (p:Int)) K2.o K3.o;unfold set4 at r2 r3 rB rO;have hd:∀w:World,w.drew.heap=w.heap:=fun _=>rfl
  have R2:=z8 r2;clear g20 g21 g30 g31 g50 g51 f20 f21 f30 f31 e1 e2;have rD:Below W.heap.size W _:=HB2.o.trans ((rB.drew));rw[<-hd]at r2 r3;generalize World.drew _=w3 at r2 r3 rD |-;have RD:=J rD;have g20:=z8 r2 0;have g21:=z8 r2 1;have g30:=z8 r3 0;have g31:=z8 r3 1;simp at g20 g21 g30 g31;clear r2 r3 rB rO rD hd R2;go_wp2_with fail
  have hR:readZ t T=.error (c,p):=by
   unfold readZ;rw[HLx.o,if_pos (show c≠0 from HC.o)]
  refine bodyPost_ret (v:=.tuple #[.agg #[.slice none 0 0,.slice none 0 0],.agg #[.int .i64 c,.int .i64 (p:Int)]]) (by simp[results,results12,go_sem,g20,g21,g30,g31]) rfl ⟨?_,RD.o⟩;rw[hR];rfl
 case pos=>
  subst hc;obtain⟨ad,cpw,rfl⟩:=y_is HRow.o;have HWn:=J HWs.o.2.2.2;go_wp2_with fail
  obtain⟨hA,hA2,hA3,hA4⟩:=two_blocks w1 (.cells #[.int .i64 0,.int .i64 (p:Int)] 31) (.cells #[.slice ad ws.length cpw,.int .i64 0,.bool false] 72);have hn:=HN.o;have hl:Lies (⟨w1.heap.size+1,w1.heap.size+1,none,0,0⟩:Dr) w1 (.slice ad ws.length cpw) ws.length 3 (fun i=>wdC (ws.getD (i/3) default) (i % 3)):=by
   have hr:=HRow.o;rw[flatW_row]at hr;exact lies_old (d:=⟨w1.heap.size+1,w1.heap.size+1,none,0,0⟩) (f:=wdC) yh hr (Nat.le_succ _) (Nat.le_succ _)
  have hp:PsAt (⟨w1.heap.size+1,w1.heap.size+1,none,0,0⟩:Dr) ws ad cpw ⟨0,false⟩ ((w1.alloc (.cells #[.int .i64 0,.int .i64 (p:Int)] 31)).alloc (.cells #[.slice ad ws.length cpw,.int .i64 0,.bool false] 72)):=
   ⟨hA3,rfl,Li _,HWn.o,hl.grew (Grew.of_below hA)⟩
  have B2:=J ((hA.block _ yf).trans B2.o);have B3:=J ((hA.block _ yf).trans B3.o);have HB:=J (HB.o.trans (hA.mono HB.o.size));generalize (w1.alloc (.cells #[.int .i64 0,.int .i64 (p:Int)] 31)).alloc (.cells #[.slice ad ws.length cpw,.int .i64 0,.bool false] 72)=X0 at hp B2 B3 HB hA hA4 |-;obtain⟨d,hd⟩:∃d:Dr,(⟨w1.heap.size+1,w1.heap.size+1,none,0,0⟩:Dr)=d:=⟨_,rfl⟩
  have hdB:d.B=w1.heap.size+1:=by rw[<-hd]
  have hdG:d.G=w1.heap.size+1:=by rw[<-hd]
  rw[hd]at hp;rw[<-hdB];have HP:=J hp;have HD:=J (show W.heap.size+2<=d.B/\W.heap.size+2<=d.G/\W.heap.size+2<=X0.heap.size by rw[hdB,hdG,hA4];omega);have HG:=J (show w1.heap.size<d.B by omega);clear hA hA2 hA3 hA4 hl hp hd hdB hdG;refine(effects_calls HWs.o.1 ⟨0,false⟩ X0 HP.o).mono ?_;rintro e X1 ⟨ve,es,s1,hes,rfl,hE,hS1,hel,hbr⟩;have B2:=J ((hS1.2.block _ ⟨z12 B2.o,uy,uy⟩).trans B2.o);have B3:=J ((hS1.2.block _ ⟨z12 B3.o,uy,uy⟩).trans B3.o);have SP:=J hS1;have HE:=J hE;have HES:=J hes;have HBr:=J (Lc hel hbr);obtain⟨ade,cpe,rfl⟩:=hE.is;clear hE hes hS1 hel hbr;go_wp2_with fail
  have hb2:Below X1.heap.size X1 (X1.alloc (.cells #[.slice ade es.length cpe,.slice none 0 0] 26)):=Lb.alloc La _;have PB:=J (Ld X1 (.cells #[.slice ade es.length cpe,.slice none 0 0] 26)).1;have HQ:=J (show X0.heap.size<=X1.heap.size/\X1.heap.size≠d.B/\X1.heap.size≠d.G/\W.heap.size+2<=X1.heap.size by have h1:=SP.o.2.size;have h2:=z12 SP.o.1.blk;have h3:=SP.o.1.eq;have h4:=HD.o;omega);have SP:=J (SP.o.below hb2);have GE:=J (Grew.of_below (d:=d) hb2);have B2:=J ((hb2.block _ (z12 B2.o)).trans B2.o);have B3:=J ((hb2.block _ (z12 B3.o)).trans B3.o)
  generalize X1.alloc (.cells #[.slice ade es.length cpe,.slice none 0 0] 26)=X2 at SP PB GE B2 B3 |-;clear hb2;refine(whole_calls HWs.o.1 HWs.o.2.1 s1 X2 SP.o.1).mono ?_;rintro e X3 ⟨vt,rfl,hn3,hp3⟩;obtain⟨ns,s2,hns⟩:∃a b,spz ws (16*ws.length+11) .expr s1=(a,b):=⟨_,_,rfl⟩
  rw[hns]at hn3 hp3;dsimp only at hn3 hp3;obtain⟨adt,cpt,rfl⟩:=hn3.is;have B2:=J ((hp3.2.block _ ⟨z12 B2.o,uy,uy⟩).trans B2.o);have B3:=J ((hp3.2.block _ ⟨z12 B3.o,uy,uy⟩).trans B3.o);have PB:=J ((hp3.2.block _ ⟨z12 PB.o,HQ.o.2.1,HQ.o.2.2.1⟩).trans PB.o);have SP:=J (SP.o.step hp3);have GE:=J (GE.o.trans hp3.2);have HNS:=J hns;have HNd:=J hn3;clear hns hn3 hp3;have q1:=z8 PB.o 1;have z1:=z11 PB.o 1;simp at q1;go_upto_region 7 with fail
  have SP:=J (SP.o.put HP.o HQ.o.1 1 (.slice adt ns.length cpt));have HNd:=J (nodes_set (i:=1) (u:=.slice adt ns.length cpt) HNd.o PB.o rfl);have HE:=J (HE.o.grew (set_grew (i:=1) (v:=.slice adt ns.length cpt) GE.o La));have hk:=kept_set (kept_refl X3 (some X1.heap.size)) 1 (.slice adt ns.length cpt);have B2:=J ((hk.block _ (z12 B2.o) gu).trans B2.o);have B3:=J ((hk.block _ (z12 B3.o) gu).trans B3.o);have PB:=J (z28 (i:=1) (.slice adt ns.length cpt) PB.o);generalize X3.setCell ⟨X1.heap.size,1,none⟩ (.slice adt ns.length cpt)=X4 at SP HNd HE B2 B3 PB |-;clear hk q1 z1 GE
  have hws:wholeS ws=((es,ns),s2):=(bindEq HES.o).trans ((bindEq HNS.o).trans rfl);have hal:=whole_alike HWs.o.2.2.1;have HB4:=J (HB.o.trans (SP.o.2.below (n:=W.heap.size) uy uy uy));have b0:=z8 SP.o.1.blk 0;have b1:=z8 SP.o.1.blk 1;have b2:=z8 SP.o.1.blk 2;have g20:=z8 B2.o 0;have g21:=z8 B2.o 1;have g30:=z8 B3.o 0;have g31:=z8 B3.o 1;obtain⟨f20,f21⟩:=ffz2 B2.o;obtain⟨f30,f31⟩:=ffz2 B3.o;simp at b0 b1 b2 g20 g21 g30 g31
  cases hI:wholeI ws with
  | error j=>
    rw[hI,hws]at hal;dsimp only at hal;subst hal;dsimp only at b1 b2;have HI:=J hI;clear hI hws;by_cases hj:(j:Int)<(ws.length:Int)
    .have hj':j<ws.length:=by omega
     obtain⟨bw,rfl,hwd⟩:=SP.o.1.lies yf;obtain⟨-,-,w2⟩:=hwd j hj';obtain⟨pl,hpl⟩:∃x,(curW ws j).at_=x:=⟨_,rfl⟩
     rw[hpl]at w2;have HPl:=J hpl;clear hwd hpl;go_wp2_with fail
     obtain⟨r2,r3,rB,-⟩:=set4_is (.slice none 0 0) (.slice none 0 0) (.int .i64 5) (.int .i64 (pl:Int)) B2.o B3.o;unfold set4 at r2 r3 rB;generalize (((X4.setCell ⟨W.heap.size,0,none⟩ (.slice none 0 0)).setCell ⟨W.heap.size,1,none⟩ (.slice none 0 0)).setCell ⟨W.heap.size+1,0,none⟩ (.int .i64 5)).setCell ⟨W.heap.size+1,1,none⟩ (.int .i64 (pl:Int))=w9 at r2 r3 rB |-;have k20:=z8 r2 0;have k21:=z8 r2 1;have k30:=z8 r3 0;have k31:=z8 r3 1;simp at k20 k21 k30 k31;have hR:readZ t T=.error (5,pl):=by
      refine zb31 ?_;rw[if_pos hj',HPl.o]
     refine zb94 ?_;rfl
    .have hj':¬ j<ws.length:=by omega
     go_wp2_with fail
     obtain⟨r2,r3,rB,-⟩:=set4_is (.slice none 0 0) (.slice none 0 0) (.int .i64 5) (.int .i64 (t.size:Int)) B2.o B3.o;unfold set4 at r2 r3 rB;generalize (((X4.setCell ⟨W.heap.size,0,none⟩ (.slice none 0 0)).setCell ⟨W.heap.size,1,none⟩ (.slice none 0 0)).setCell ⟨W.heap.size+1,0,none⟩ (.int .i64 5)).setCell ⟨W.heap.size+1,1,none⟩ (.int .i64 (t.size:Int))=w9 at r2 r3 rB |-;have k20:=z8 r2 0;have k21:=z8 r2 1;have k30:=z8 r3 0;have k31:=z8 r3 1;simp at k20 k21 k30 k31;have hR:readZ t T=.error (5,t.size):=by
      refine zb31 ?_;rw[if_neg hj']
     refine bodyPost_ret (v:=.tuple #[.agg #[.slice none 0 0,.slice none 0 0],.agg #[.int .i64 5,.int .i64 (t.size:Int)]]) zh rfl ⟨?_,HB4.o.trans rB⟩;rw[hR];rfl
  | ok r=>
    obtain⟨⟨es',tr⟩,k⟩:=r;rw[hI,hws]at hal;dsimp only at hal;obtain⟨rfl,rfl,rfl⟩:es=es'/\ns=Tr.flat tr/\s2=⟨k,false⟩:=by
     simp only[Prod.mk.injEq]at hal;exact⟨hal.1.1,hal.1.2,hal.2⟩
    dsimp only at b1 b2;have HI:=J hI;have HW:=J (whole_ok hI);clear hI hws hal;by_cases hj:(k:Int)<(ws.length:Int)
    .have hj':k<ws.length:=by omega
     obtain⟨bw,rfl,hwd⟩:=SP.o.1.lies yf;obtain⟨-,-,w2⟩:=hwd k hj';obtain⟨pl,hpl⟩:∃x,(curW ws k).at_=x:=⟨_,rfl⟩
     rw[hpl]at w2;have HPl:=J hpl;clear hwd hpl;go_wp2_with fail
     obtain⟨r2,r3,rB,-⟩:=set4_is (.slice none 0 0) (.slice none 0 0) (.int .i64 5) (.int .i64 (pl:Int)) B2.o B3.o;unfold set4 at r2 r3 rB;generalize (((X4.setCell ⟨W.heap.size,0,none⟩ (.slice none 0 0)).setCell ⟨W.heap.size,1,none⟩ (.slice none 0 0)).setCell ⟨W.heap.size+1,0,none⟩ (.int .i64 5)).setCell ⟨W.heap.size+1,1,none⟩ (.int .i64 (pl:Int))=w9 at r2 r3 rB |-;have k20:=z8 r2 0;have k21:=z8 r2 1;have k30:=z8 r3 0;have k31:=z8 r3 1;simp at k20 k21 k30 k31;have hR:readZ t T=.error (5,pl):=by
      refine zb31 ?_;rw[if_pos hj',HPl.o]
     refine zb94 ?_;rfl
    .have hj':¬ k<ws.length:=by omega
     obtain⟨c0,c1⟩:=fcl2 PB.o;obtain⟨L,hL⟩:∃L,(Tr.flat tr).length=L:=⟨_,rfl⟩
     rw[hL]at c1;have HLn:=J hL;clear hL;by_cases hm:(300:Int)<(L:Int)
     .have hm':300<(Tr.flat tr).length\/8<es.length:=Or.inl gv;go_wp2_with fail
      obtain⟨r2,r3,rB,-⟩:=set4_is (.slice none 0 0) (.slice none 0 0) (.int .i64 6) (.int .i64 0) B2.o B3.o;unfold set4 at r2 r3 rB;generalize (((X4.setCell ⟨W.heap.size,0,none⟩ (.slice none 0 0)).setCell ⟨W.heap.size,1,none⟩ (.slice none 0 0)).setCell ⟨W.heap.size+1,0,none⟩ (.int .i64 6)).setCell ⟨W.heap.size+1,1,none⟩ (.int .i64 0)=w9 at r2 r3 rB |-;have k20:=z8 r2 0;have k21:=z8 r2 1;have k30:=z8 r3 0;have k31:=z8 r3 1;simp at k20 k21 k30 k31;have hR:readZ t T=.error (6,0):=by
       refine zb31 ?_;rw[if_neg hj'];rw[if_pos hm']
      refine bodyPost_ret (v:=.tuple #[.agg #[.slice none 0 0,.slice none 0 0],.agg #[.int .i64 6,.int .i64 0]]) zh rfl ⟨?_,HB4.o.trans rB⟩;rw[hR];rfl
     by_cases hm2:(8:Int)<(es.length:Int)
     .have hm':300<(Tr.flat tr).length\/8<es.length:=Or.inr yf;go_wp2_with fail
      obtain⟨r2,r3,rB,-⟩:=set4_is (.slice none 0 0) (.slice none 0 0) (.int .i64 6) (.int .i64 0) B2.o B3.o;unfold set4 at r2 r3 rB;generalize (((X4.setCell ⟨W.heap.size,0,none⟩ (.slice none 0 0)).setCell ⟨W.heap.size,1,none⟩ (.slice none 0 0)).setCell ⟨W.heap.size+1,0,none⟩ (.int .i64 6)).setCell ⟨W.heap.size+1,1,none⟩ (.int .i64 0)=w9 at r2 r3 rB |-;have k20:=z8 r2 0;have k21:=z8 r2 1;have k30:=z8 r3 0;have k31:=z8 r3 1;simp at k20 k21 k30 k31;have hR:readZ t T=.error (6,0):=by
       refine zb31 ?_;rw[if_neg hj'];rw[if_pos hm']
      refine bodyPost_ret (v:=.tuple #[.agg #[.slice none 0 0,.slice none 0 0],.agg #[.int .i64 6,.int .i64 0]]) zh rfl ⟨?_,HB4.o.trans rB⟩;rw[hR];rfl
     have hL1:1<=L:=by rw[<-HLn.o];simp[Tr.flat]
     have HK1:=J (Lc hm (Lc hm2 hj'));rcases HNd.o.1 with ⟨e0,h0⟩|⟨bt,off,cap,e0,hcap,rfl,hq,hcs⟩
     .rw[HLn.o]at h0;omega
     cases e0;have hN:NodesAt X4 bt 0 (Tr.flat tr):=fun i hi c hc'=> by
      have h6:=hcs (i*6+c) yf;rw[Nat.zero_add]at h6;rw[Nat.zero_add,h6];exact congrArg some (cell_div (Tr.flat tr) Nd.cell 6 i c hc')
     have HN6:=J (Lc hq.1 hN);clear hcs hN hq hcap;go_wp2_with fail
     have hdp:=deep_calls bt 0 cpt (Tr.flat tr) gv (tr.2.flat.length+1) tr.1 tr.2 [] 0 X4 HN6.o.2 (by rw[List.drop_zero,List.append_nil];rfl) HW.o.1 HW.o.2 (Nat.lt_succ_self _);rw[HLn.o]at hdp;refine hdp.mono ?_;rintro e Xd ⟨rfl,rfl⟩;clear hdp;by_cases hdm:(40:Int)<((tr.2.deep+1:Nat):Int)
     .have hd40:40<tr.2.deep+1:=by omega
      have hsz:¬ (300<(Tr.flat tr).length\/8<es.length):=gv;go_wp2_with fail
      obtain⟨r2,r3,rB,-⟩:=set4_is (.slice none 0 0) (.slice none 0 0) (.int .i64 7) (.int .i64 0) B2.o B3.o;unfold set4 at r2 r3 rB;generalize (((X4.setCell ⟨W.heap.size,0,none⟩ (.slice none 0 0)).setCell ⟨W.heap.size,1,none⟩ (.slice none 0 0)).setCell ⟨W.heap.size+1,0,none⟩ (.int .i64 7)).setCell ⟨W.heap.size+1,1,none⟩ (.int .i64 0)=w9 at r2 r3 rB |-;have k20:=z8 r2 0;have k21:=z8 r2 1;have k30:=z8 r3 0;have k31:=z8 r3 1;simp at k20 k21 k30 k31;have hR:readZ t T=.error (7,0):=by
       refine zb31 ?_;rw[if_neg hj'];rw[if_neg hsz];rw[if_pos hd40]
      refine bodyPost_ret (v:=.tuple #[.agg #[.slice none 0 0,.slice none 0 0],.agg #[.int .i64 7,.int .i64 0]]) zh rfl ⟨?_,HB4.o.trans rB⟩;rw[hR];rfl
     have hd40:¬ 40<tr.2.deep+1:=yf;have hsz:¬ (300<(Tr.flat tr).length\/8<es.length):=gv;have HK:=J (Lc hj' (Lc hsz hd40));have hEW:EffW X4 ade cpe es:=by
      rcases HE.o with ⟨e0,h0⟩|⟨be,off,cap,e0,hcap,rfl,hq,hcs⟩
      .have h00:es= []:=Lk h0;simp only[Value.slice.injEq]at e0;exact Or.inl ⟨e0.1,h00,e0.2.2⟩
      .cases e0;refine Or.inr ⟨be,rfl,hq.1,fun i hi c hc'=> ?_,hcap⟩;have h6:=hcs (i*3+c) yf;rw[Nat.zero_add]at h6;rw[Nat.zero_add,h6];exact congrArg some (cell_div es Ef.cell 3 i c hc')
     have hok:=progOk_at (cn:=cpt) hEW yf HN6.o.1 HN6.o.2 gv (HT.o (Tr.flat tr));obtain⟨R,hR⟩:∃R,progZ es (Tr.flat tr) (T (Tr.flat tr))=R:=⟨_,rfl⟩
     rw[hR,HLn.o]at hok;have HR:=J hR;clear hR hEW hsz hd40;go_wp2_with fail
     refine hok.mono ?_;rintro e X5 ⟨rfl,hb5⟩;have B2:=J ((hb5.block _ (z12 B2.o)).trans B2.o);have B3:=J ((hb5.block _ (z12 B3.o)).trans B3.o);have PB:=J ((hb5.block _ (z12 PB.o)).trans PB.o);have HB5:=J (HB4.o.trans (hb5.mono HB4.o.size));have HE:=J (HE.o.grew (Grew.of_below hb5));have HNd:=J (HNd.o.grew (Grew.of_below hb5));clear hb5 hok c0 c1 b0 b1 b2 g20 g21 g30 g31 f20 f21 f30 f31;have c0:=z8 PB.o 0;have c1:=z8 PB.o 1;have g20:=z8 B2.o 0;have g21:=z8 B2.o 1;have g30:=z8 B3.o 0;have g31:=z8 B3.o 1;obtain⟨f20,f21⟩:=ffz2 B2.o;obtain⟨f30,f31⟩:=ffz2 B3.o;simp at c0 c1 g20 g21 g30 g31
     cases R with
     | false=>
       have hj':= HK.o.1;have hsz:=HK.o.2.1;have hd40:=HK.o.2.2;go_wp2_with fail
       obtain⟨r2,r3,rB,-⟩:=set4_is (.slice none 0 0) (.slice none 0 0) (.int .i64 8) (.int .i64 0) B2.o B3.o;unfold set4 at r2 r3 rB;generalize (((X5.setCell ⟨W.heap.size,0,none⟩ (.slice none 0 0)).setCell ⟨W.heap.size,1,none⟩ (.slice none 0 0)).setCell ⟨W.heap.size+1,0,none⟩ (.int .i64 8)).setCell ⟨W.heap.size+1,1,none⟩ (.int .i64 0)=w9 at r2 r3 rB |-;have k20:=z8 r2 0;have k21:=z8 r2 1;have k30:=z8 r3 0;have k31:=z8 r3 1;simp at k20 k21 k30 k31;have hR:readZ t T=.error (8,0):=by
        refine zb31 ?_;rw[if_neg hj',if_neg hsz,if_neg hd40];rw[HR.o];rfl
       refine bodyPost_ret (v:=.tuple #[.agg #[.slice none 0 0,.slice none 0 0],.agg #[.int .i64 8,.int .i64 0]]) zh rfl ⟨?_,HB5.o.trans rB⟩;rw[hR];rfl
     | true=>
       have hj':= HK.o.1;have hsz:=HK.o.2.1;have hd40:=HK.o.2.2;go_wp2_with fail
       obtain⟨r2,r3,rB,-⟩:=set4_is (.slice ade es.length cpe) (.slice (some ⟨bt,0,none⟩) (Tr.flat tr).length cpt) (.int .i64 0) (.int .i64 0) B2.o B3.o;have hE9:=lies_set4 (.slice ade es.length cpe) (.slice (some ⟨bt,0,none⟩) (Tr.flat tr).length cpt) (.int .i64 0) (.int .i64 0) yh HE.o B2.o B3.o;have hN9:=lies_set4 (.slice ade es.length cpe) (.slice (some ⟨bt,0,none⟩) (Tr.flat tr).length cpt) (.int .i64 0) (.int .i64 0) yh HNd.o.1 B2.o B3.o;unfold set4 at r2 r3 rB hE9 hN9
       generalize (((X5.setCell ⟨W.heap.size,0,none⟩ (.slice ade es.length cpe)).setCell ⟨W.heap.size,1,none⟩ (.slice (some ⟨bt,0,none⟩) (Tr.flat tr).length cpt)).setCell ⟨W.heap.size+1,0,none⟩ (.int .i64 0)).setCell ⟨W.heap.size+1,1,none⟩ (.int .i64 0)=w9 at r2 r3 rB hE9 hN9 |-;have k20:=z8 r2 0;have k21:=z8 r2 1;have k30:=z8 r3 0;have k31:=z8 r3 1;simp at k20 k21 k30 k31;have hR:readZ t T=.ok (es,tr):=by
        refine zb31 ?_;rw[if_neg hj',if_neg hsz,if_neg hd40];rw[HR.o];rfl
       refine bodyPost_ret (v:=.tuple #[.agg #[.slice ade es.length cpe,.slice (some ⟨bt,0,none⟩) (Tr.flat tr).length cpt],.agg #[.int .i64 0,.int .i64 0]]) zh rfl ⟨?_,HB5.o.trans rB⟩;rw[hR];exact⟨d,_,.slice (some ⟨bt,0,none⟩) (Tr.flat tr).length cpt,rfl,hE9,⟨hN9,HNd.o.2⟩,HBr.o.2⟩
end
end Go.Proofs.YtfbojelpdccjaaaGreatDoor
