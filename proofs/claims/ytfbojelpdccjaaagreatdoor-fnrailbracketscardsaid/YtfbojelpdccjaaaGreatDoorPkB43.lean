import Derived.Test.YtfbojelpdccjaaaGreatDoorPkB42
import Derived.Test.YtfbojelpdccjaaaGreatDoorPkB33
set_option maxHeartbeats 2000000
set_option maxRecDepth 100000
namespace Go.Proofs.YtfbojelpdccjaaaGreatDoor
open Go.RowKit
variable {s : ByteArray} {e p : Nat}
section
open Go.RowKit
theorem rest_size : (s.extract p s.size).size=s.size - p:=by
 rw [ByteArray.size_extract];omega
theorem bz_rest {j : Nat} : bz (s.extract p s.size) j=bz s (p+j):=by
 unfold bz;by_cases h : p+j < s.size
 ·rw [dif_pos h,dif_pos (by rw [rest_size]; omega),ByteArray.getElem_extract]
 ·rw [dif_neg h,dif_neg (by rw [rest_size]; omega)]
theorem run_rest {l : Bool} (hp : p≤s.size) : p+runTo (s.extract p s.size) l 0=runTo s l p:=by
 obtain⟨h1,h2,h3,h4⟩:=z36 (s.extract p s.size) l (p:=0) (by omega);refine IsRun.eq ⟨by omega,by rw [rest_size] at h2; omega,fun j hj1 hj2=>?_,fun h=>?_⟩
 ·have:=h3 (j - p) (by omega) (by omega);rw [bz_rest,show p+(j - p)=j by omega] at this;exact this
 ·have:=h4 (by rw [rest_size]; omega);rwa [bz_rest] at this
theorem cut_rest (h : p+e≤s.size) : (s.extract p s.size).extract 0 e=s.extract p (p+e):=by
 rw [ByteArray.extract_extract,Nat.add_zero,Nat.min_eq_left h]
def unplaced (p : Nat) : Except Int (Wd×Nat)→Except Int (Wd×Nat)
 | .error c=> .error c
 | .ok (d,e)=> .ok (⟨d.kind,d.text,0⟩,e - p)
theorem wordAt_rest (hp : p < s.size) : wordAt (s.extract p s.size) 0=unplaced p (wordAt s p):=by
 unfold wordAt;have hb : bz (s.extract p s.size) 0=bz s p:=by rw [bz_rest,Nat.add_zero]
 have hself : (s.extract p s.size).extract 0 (s.extract p s.size).size=s.extract p s.size:=by
  rw [rest_size,cut_rest (by omega),show p+(s.size - p)=s.size by omega]
 rw [hb,hself];by_cases hd : digitZ (bz s p)=true
 ·have hr:=run_rest (s:=s) (l:=false) (p:=p) (by omega);obtain⟨h1,h2,_,_⟩:=z36 s false (p:=p) (by omega);rw [if_pos hd,if_pos hd];dsimp only;have e : runTo (s.extract p s.size) false 0=runTo s false p - p:=by omega
  rw [e,Nat.sub_zero];split
  ·rfl
  ·show _=Except.ok _;rw [cut_rest (by omega),show p+(runTo s false p - p)=runTo s false p by omega]
 ·rw [if_neg hd,if_neg hd];by_cases hL : letterZ (bz s p)=true
  ·have hr:=run_rest (s:=s) (l:=true) (p:=p) (by omega);obtain⟨h1,h2,_,_⟩:=z36 s true (p:=p) (by omega);rw [if_pos hL,if_pos hL];dsimp only;have e : runTo (s.extract p s.size) true 0=runTo s true p - p:=by omega
   rw [e,Nat.sub_zero];split
   ·rfl
   ·show _=Except.ok _;rw [cut_rest (by omega),show p+(runTo s true p - p)=runTo s true p by omega]
  ·rw [if_neg hL,if_neg hL];dsimp only;split
   ·rfl
   ·show _=Except.ok _;rw [show p+(signOf (s.extract p s.size)).size - p=0+(signOf (s.extract p s.size)).size by omega]
theorem restVal_unplaced (p : Nat) : ∀ x : Except Int (Wd×Nat),restVal (unplaced p x)=restVal x
 | .error _=>rfl
 | .ok (_,_)=>rfl
theorem wordAt_text {d : Wd} (hp : p < s.size) (h : wordAt s p= .ok (d,e)) : e=p+d.text.size∧d.at_=p∧e≤s.size:=by
 unfold wordAt at h;by_cases hd : digitZ (bz s p)=true
 ·obtain⟨h1,h2,_,_⟩:=z36 s false (p:=p) (by omega);rw [if_pos hd] at h;dsimp only at h;split at h
  ·cases h
  ·cases h;refine⟨?_,rfl,h2⟩;rw [ByteArray.size_extract];omega
 ·rw [if_neg hd] at h;by_cases hL : letterZ (bz s p)=true
  ·obtain⟨h1,h2,_,_⟩:=z36 s true (p:=p) (by omega);rw [if_pos hL] at h;dsimp only at h;split at h
   ·cases h
   ·cases h;refine⟨?_,rfl,h2⟩;rw [ByteArray.size_extract];omega
  ·rw [if_neg hL] at h;dsimp only at h;have hf:=(signOf_fit (s.extract p s.size)).1;rw [rest_size] at hf;split at h
   ·cases h
   ·cases h;exact⟨rfl,rfl,by omega⟩
theorem okb_ascii {l : Bool} {x : Int} (h : okb l x=true) : x < 128:=by
 cases l <;> simp [okb,digitZ,letterZ] at h <;> omega
theorem sign_ascii : ∀ x∈signStrs,∀ i,i < 2→ ∀ h : i < x.size,(x[i]'h).toNat < 128:=by decide
theorem at_eq {t : ByteArray} {a b : Nat} (h : a=b) (ha : a < t.size) (hb : b < t.size) : t[a]'ha=t[b]'hb:=by
 subst h;rfl
theorem wordAt_ascii {d : Wd} (hp : p < s.size) (h : wordAt s p= .ok (d,e)) : ∀ j,p≤j→j < e→bz s j < 128:=by
 unfold wordAt at h;by_cases hd : digitZ (bz s p)=true
 ·obtain⟨h1,h2,h3,_⟩:=z36 s false (p:=p) (by omega);rw [if_pos hd] at h;dsimp only at h;split at h
  ·cases h
  ·cases h;exact fun j hj1 hj2=>okb_ascii (h3 j hj1 hj2)
 ·rw [if_neg hd] at h;by_cases hL : letterZ (bz s p)=true
  ·obtain⟨h1,h2,h3,_⟩:=z36 s true (p:=p) (by omega);rw [if_pos hL] at h;dsimp only at h;split at h
   ·cases h
   ·cases h;exact fun j hj1 hj2=>okb_ascii (h3 j hj1 hj2)
  ·rw [if_neg hL] at h;dsimp only at h;split at h
   ·cases h
   ·rename_i hg
    cases h;intro j hj1 hj2;obtain⟨hf1,hf2⟩:=signOf_fit (s.extract p s.size);have hmem : signOf (s.extract p s.size)∈signStrs:=by
     unfold signOf at hg ⊢
     cases hfi : signStrs.find? (signHit (s.extract p s.size)) with
     | none=>rw [hfi] at hg; exact absurd rfl hg
     | some g=>exact List.mem_of_find?_eq_some hfi
    have hs2:=signOf_size (s.extract p s.size);generalize hG : signOf (s.extract p s.size)=g at*;have hi : j - p < g.size:=by omega
    have ha:=sign_ascii g hmem (j - p) (by omega) hi;have e1 : bz s j=bz (s.extract p s.size) (j - p):=by rw [bz_rest,show p+(j - p)=j by omega]
    rw [e1];clear e1;generalize s.extract p s.size=t at*;have hi2 : j - p < t.size:=by omega
    have e3 : g[j - p]'hi=(t.extract 0 g.size)[j - p]'(by rw [hf2]; exact hi):=by
     congr 1
     exact hf2.symm
    have e4 : (t.extract 0 g.size)[j - p]'(by rw [hf2]; exact hi)=t[j - p]'hi2:=by
     rw [ByteArray.getElem_extract];exact at_eq (by omega) _ _
    rw [bz_at t hi2,← e4,← e3];omega
theorem owns_iterAt {w : World} {base : Nat} {e : TypeId} {size : Nat} {v : Value} {n : Nat} {xs : List Value} (h : w.ownsRow base e size v n xs) {k : Nat} (hk : k < base) (s : ByteArray) (p : Nat) : (w.iterAt k s p).ownsRow base e size v n xs:=by
 refine h.kept (row:=some k) ⟨rfl,rfl,rfl,by rw [Lib.iterAt_size]; exact Nat.le_refl _,fun j _ hj=>Lib.iterAt_other _ _ _ _ _ (fun e=>hj (by rw [e]))⟩ (Or.inr (fun e=>?_));have:=(h.lt _ e).1;omega
theorem blank_high {x : Int} (h : 128≤x) : (x==32)=false∧(x==10)=false:=by
 constructor <;> rw [beq_eq_false_iff_ne] <;> omega
theorem implWords_calls (s : ByteArray) (w : World) :
 Calls Tryz.prog 26 #[.string s] w fun e w'=> (∃ v,Told (w.heap.size+2) (lexAll s) v e w')∧Below w.heap.size w w':= by
 obtain⟨R,hR⟩ : ∃ R,lexAll s=R:=⟨_,rfl⟩
 rw [hR];unfold lexAll at hR;by_cases hbig : (1500 : Int) < s.size
 ·rw [if_pos (by omega)] at hR;subst hR;go_enter Tryz.func26,Tryz.ntmps26
  go_wp2_with fail
  refine bodyPost_ret (v:= .tuple #[.slice none 0 0,.agg #[.int .i64 1,.int .i64 0]]) (by simp [results,Tryz.results26,go_sem]) rfl ⟨⟨.slice none 0 0,rfl,World.ownsRow_nil _ _ _ _⟩,?_⟩;repeat (first | exact Below.refl _ _ | refine Below.alloc ?_ (by first | (simp; done) | (simp; omega)) _)
 rw [if_neg (by omega)] at hR;have HR : Hid (lexGo s s.size 0 []=R):=hR;clear hR;obtain⟨i0,hi,hz0,hz1,hz2⟩:=info_parts info_word;go_enter Tryz.func26,Tryz.ntmps26
 go_wp2_with fail
 go_loopg [4,5] s.size (fun g o b wx=> ∃ (pos bh f : Nat) (ws : List Wd),b= .int .i64 bh∧wx.heap[w.heap.size+1]? =some (.stringIter s pos)∧pos≤s.size∧bh≤s.size∧s.size≤pos+g∧s.size≤max pos bh+f∧ws.length≤max pos bh∧
  Hid (∀ j,pos≤j→j < bh→bz s j < 128)∧Hid (lexGo s f (max pos bh) ws=R)∧wx.ownsRow (w.heap.size+2) 76 3 o ws.length (flatW ws)∧
  wx.heap[w.heap.size]? =some (.cells #[.int .i64 0,.int .i64 0] 31)∧Below w.heap.size w wx)
 case atStart=>
  refine⟨0,0,s.size,[],rfl,?_,by omega,by omega,by omega,by omega,by simp,fun j h1 h2=>by omega,HR,World.ownsRow_nil _ _ _ _,?_,?_⟩
  ·have:=World.iter_heap (w.alloc (.cells #[.int .i64 0,.int .i64 0] 31)) s 0;simpa using this
  ·rw [World.iter,Below.heap_alloc _ _ _ (by simp)];exact (MapKept.heap_alloc w _).1
  ·exact ((Below.refl _ _).alloc (Nat.le_refl _) _).alloc (by simp) _
 case round=>
  obtain⟨pos,bh,f,ws,rfl,hit,hps,hbs,hfu,hfl,hwl,HA,HE,hown,hfault,hnx⟩:=hrel;clear HR;have hBlt : w.heap.size+1 < wr.heap.size:=(Array.getElem?_eq_some_iff.1 hit).1;by_cases hp : pos < s.size
  ·obtain⟨g,rfl⟩ : ∃ g,gk=g+1:=⟨gk - 1,by omega⟩
   have hb:=bz_at s hp;by_cases ha : (s[pos]'hp).toNat < 128
   ·have hnxt : ∀ ty,(Instr.next (.pointer (some ⟨w.heap.size+1,0,none⟩)) true ty).run Tryz.prog wr=_:=fun ty=>Lib.run_next_ascii_at wr (w.heap.size+1) s pos ty hit hp ha
    have hit2:=Lib.iterAt_heap wr (w.heap.size+1) s pos (pos+1) hit;have hbw2:=Lib.below_iterAt hnx (k:=w.heap.size+1) (by omega) s (pos+1);have hown2:=owns_iterAt hown (k:=w.heap.size+1) (by omega) s (pos+1);have hf2:=(Lib.iterAt_other wr (w.heap.size+1) w.heap.size s (pos+1) (by omega)).trans hfault;have hsz2 : w.heap.size+1 < (wr.iterAt (w.heap.size+1) s (pos+1)).heap.size:=by rw [Lib.iterAt_size]; exact hBlt
    obtain⟨W,hWd⟩ : ∃ W,wr.iterAt (w.heap.size+1) s (pos+1)=W:=⟨_,rfl⟩
    rw [hWd] at hnxt hit2 hbw2 hown2 hf2 hsz2;have hit3 : Hid (W.heap[w.heap.size+1]? =some (.stringIter s (pos+1))):=hit2;have hf3 : Hid (W.heap[w.heap.size]? =some (.cells #[.int .i64 0,.int .i64 0] 31)):=hf2;clear hWd hit hit2 hnx hown hfault hf2 hBlt;by_cases hlt : pos < bh
    ·have HA' : Hid (∀ j,pos+1≤j→j < bh→bz s j < 128):=fun j h1 h2=>HA.out j (by omega) h2
     have HE' : Hid (lexGo s f (max (pos+1) bh) ws=R):=by
      rw [show max (pos+1) bh=max pos bh by omega];exact HE
     clear HA HE hb;go_wp2_with fail
     go_roundg g
     case measure=>omega
     case rel=>exact⟨pos+1,bh,f,ws,rfl,hit3.out,by omega,hbs,by omega,by omega,by omega,HA',HE',hown2,hf3.out,hbw2⟩
    ·have em : max pos bh=pos:=by omega
     obtain⟨f,rfl⟩ : ∃ f',f=f'+ 1:=⟨f - 1,by omega⟩
     have hE:=HE.out;rw [em] at hE hwl hfl;clear HA HE em;have hnlt : decide ((pos : Int) < (bh : Int))=false:=decide_eq_false (by omega)
     cases hbl : blankZ ((s[pos]'hp).toNat : Int) with
     | true=>
       rw [lexGo_blank hp (by rw [hb]; exact hbl)] at hE;have HE' : Hid (lexGo s f (max (pos+1) bh) ws=R):=by
        rw [show max (pos+1) bh=pos+1 by omega];exact hE
       have HA' : Hid (∀ j,pos+1≤j→j < bh→bz s j < 128):=fun j h1 h2=>by omega
       clear hE hb ha
       cases h32 : (((s[pos]'hp).toNat : Int)==32) with
       | true=>
         clear hbl;go_wp2_with fail
         go_roundg g
         case measure=>omega
         case rel=>exact⟨pos+1,bh,f,ws,rfl,hit3.out,by omega,hbs,by omega,by omega,by omega,HA',HE',hown2,hf3.out,hbw2⟩
       | false=>
         have h10 : (((s[pos]'hp).toNat : Int)==10)=true:=by simpa [blankZ,h32] using hbl
         clear hbl;go_wp2_with fail
         go_roundg g
         case measure=>omega
         case rel=>exact⟨pos+1,bh,f,ws,rfl,hit3.out,by omega,hbs,by omega,by omega,by omega,HA',HE',hown2,hf3.out,hbw2⟩
     | false=>
       have h32 : (((s[pos]'hp).toNat : Int)==32)=false:=by
        cases h : (((s[pos]'hp).toNat : Int)==32) with
        | false=>rfl
        | true=>simp [blankZ,h] at hbl
       have h10 : (((s[pos]'hp).toNat : Int)==10)=false:=by
        cases h : (((s[pos]'hp).toNat : Int)==10) with
        | false=>rfl
        | true=>simp [blankZ,h] at hbl
       have hnb : ¬ blankZ (bz s pos)=true:=by rw [hb,hbl]; simp
       have hfr : FirstRune (s.extract pos s.size) (s[pos]'hp).toNat:=by
        have h0 : 0 < (s.extract pos s.size).size:=by rw [rest_size]; omega
        have e0 : (s.extract pos s.size)[0]'h0=s[pos]'hp:=by
         rw [ByteArray.getElem_extract];congr 1
        exact⟨h0,Or.inl ⟨by rw [e0]; exact ha,by rw [e0]⟩⟩
       have hword:=first_calls (s.extract pos s.size) (s[pos]'hp).toNat (by rw [rest_size]; omega) hfr;rw [wordAt_rest hp,restVal_unplaced] at hword;clear hbl hb ha hfr
       cases hw : wordAt s pos with
       | error c=>
         rw [lexGo_bad hp hnb hw] at hE;rw [hw] at hword;have HW : Hid (∀ w,_):=hword;have hc:=wordAt_code hw;clear hw hnb hword hown2 hit3;subst hE;generalize ((s[pos]'hp).toNat)=x at*;go_wp2_with fail
         refine (HW.out _).mono ?_;rintro e W1 ⟨rfl,hb1⟩;have hf4:=(hb1.block w.heap.size (by omega)).trans hf3.out;have q0:=z8 hf4 0;have q1:=z8 hf4 1;obtain⟨z0,z1⟩:=ffz2 hf4;simp at q0 q1;have hnx1:=hbw2.trans (hb1.mono hbw2.size);have hBlt1 : w.heap.size < W1.heap.size:=World.block_lt_of_cell? W1 _ q0;clear HW hb1 hf3 hbw2 hf4;simp only [restVal];have hcc : (c !=0)=true:=by rcases hc with rfl | rfl | rfl <;> rfl
         go_wp2_with fail
         refine bodyPost_ret (v:= .tuple #[.slice none 0 0,.agg #[.int .i64 c,.int .i64 pos]]) (by simp [results,Tryz.results26,go_sem,q0,q1,hBlt1]) rfl ⟨⟨.slice none 0 0,rfl,World.ownsRow_nil _ _ _ _⟩,?_⟩;exact ((hnx1.setCell (by simp) _).setCell (by simp) _).alloc (by simp; omega) _
       | ok de=>
         obtain⟨d,e⟩:=de;rw [lexGo_word hp hnb hw] at hE;rw [hw] at hword;have HW : Hid (∀ w,_):=hword;have hend:=wordAt_end hp hw;have htx:=wordAt_text hp hw;have has:=wordAt_ascii hp hw;have HE' : Hid (lexGo s f (max (pos+1) e) (ws++ [d])=R):=by
          rw [show max (pos+1) e=e by omega];exact hE
         have HA' : Hid (∀ j,pos+1≤j→j < e→bz s j < 128):=fun j h1 h2=>has j (by omega) h2
         have Htx : Hid (e=pos+d.text.size∧d.at_=pos∧e≤s.size):=htx;have hts : d.text.size≤1500:=by omega
         clear hw hnb hword hE has htx;generalize ((s[pos]'hp).toNat)=x at*;go_wp2_with fail
         refine (HW.out _).mono ?_;rintro e' W1 ⟨rfl,hb1⟩;have hf4:=(hb1.block w.heap.size (by omega)).trans hf3.out;have hit4:=(hb1.block (w.heap.size+1) hsz2).trans hit3.out;have hown1:=z30 hown2 hb1;have hnx1:=hbw2.trans (hb1.mono hbw2.size);have hBlt1 : w.heap.size+1 < W1.heap.size:=(Array.getElem?_eq_some_iff.1 hit4).1;have Hf4 : Hid (W1.heap[w.heap.size]? =some (.cells #[.int .i64 0,.int .i64 0] 31)):=hf4;have Hit4 : Hid (W1.heap[w.heap.size+1]? =some (.stringIter s (pos+1))):=hit4;clear HW hb1 hf3 hit3 hbw2 hown2 hf4 hit4 hsz2;simp only [restVal];go_wp2_with (first
          | (at_builtin; refine wpList_append_own _ rfl _ _ 61 rfl (w.heap.size+2) 76 i0 (.agg #[.int .i64 0,.string ⟨#[]⟩,.int .i64 0]) 3 32 Tryz.underlying61 hi hz0 hz1 hz2 rfl (by decide) _ _ _ rfl ((hown1.alloc _).alloc _) ⟨W1.heap.size+1,0,none⟩ 1 1 [.int .i64 d.kind,.string d.text,.int .i64 pos] rfl rfl (cell_three_new _ _ (by simp) _ _ _ _) (fun x hx=>by simp at hx; rcases hx with rfl | rfl | rfl <;> rfl) (by unfold maxLen; omega) (by omega) (by simp; omega) ?_
             intro v' w3 hown' hgrow3 hnil3;have hf5 : Hid (w3.heap[w.heap.size]? =some (.cells #[.int .i64 0,.int .i64 0] 31)):=by
              show w3.heap[w.heap.size]? =_;rw [hgrow3.block w.heap.size (by simp; omega) (fun h=>by have:=(hown1.lt _ h.symm).1; omega),Below.heap_alloc _ _ _ (by simp; omega),Below.heap_alloc _ _ _ (by omega)];exact Hf4.out
             have hit5 : Hid (w3.heap[w.heap.size+1]? =some (.stringIter s (pos+1))):=by
              show w3.heap[w.heap.size+1]? =_;rw [hgrow3.block (w.heap.size+1) (by simp; omega) (fun h=>by have:=(hown1.lt _ h.symm).1; omega),Below.heap_alloc _ _ _ (by simp; omega),Below.heap_alloc _ _ _ (by omega)];exact Hit4.out
             have hbw3 : Below w.heap.size w w3:=Below.grown ((hnx1.alloc (by omega) _).alloc (by simp; omega) _) hgrow3 (by simp; omega) (fun j hj=>by have:=(hown1.lt _ hj).1; omega);have hwb : Hid (w3.heap[W1.heap.size]? =some (.cells #[.int .i64 d.kind,.string d.text,.int .i64 pos] 76)):=by
              show w3.heap[W1.heap.size]? =_;rw [hgrow3.block W1.heap.size (by simp; omega) (fun h=>by have:=(hown1.lt _ h.symm).2; omega),Below.heap_alloc _ _ _ (by simp)];exact (MapKept.heap_alloc W1 _).1
             have k1:=z8 hwb.out 1;simp at k1;clear hgrow3 hnil3 Hf4 Hit4 hown1 hnx1 hwb))
         go_roundg g
         case measure=>omega
         case rel=>
          have htx:=Htx.out;refine⟨pos+1,e,f,ws++ [d],?_,hit5.out,by omega,by omega,by omega,by omega,by simp; omega,HA',HE',?_,hf5.out,hbw3⟩
          ·rw [htx.1];simp
          ·rw [flatW_append,List.length_append];have ed : flatW [d]= [.int .i64 d.kind,.string d.text,.int .i64 pos]:=by
            rw [← htx.2.1];rfl
           rw [ed];exact hown'
   ·have hnxt : ∀ ty,(Instr.next (.pointer (some ⟨w.heap.size+1,0,none⟩)) true ty).run Tryz.prog wr=_:=fun ty=>Lib.run_next_any_at wr (w.heap.size+1) s pos ty hit hp
    have hhi:=(decode_high s pos hp (by omega)).1;have hbw2:=Lib.below_iterAt hnx (k:=w.heap.size+1) (by omega) s (pos+(Utf8.decode s pos).2);have hf2:=(Lib.iterAt_other wr (w.heap.size+1) w.heap.size s (pos+(Utf8.decode s pos).2) (by omega)).trans hfault;have hsz2 : w.heap.size+1 < (wr.iterAt (w.heap.size+1) s (pos+(Utf8.decode s pos).2)).heap.size:=by rw [Lib.iterAt_size]; exact hBlt
    obtain⟨X,hX⟩ : ∃ X,(Utf8.decode s pos).1=X:=⟨_,rfl⟩
    rw [hX] at hnxt hhi;obtain⟨W,hWd⟩ : ∃ W,wr.iterAt (w.heap.size+1) s (pos+(Utf8.decode s pos).2)=W:=⟨_,rfl⟩
    rw [hWd] at hnxt hbw2 hf2 hsz2;have hf3 : Hid (W.heap[w.heap.size]? =some (.cells #[.int .i64 0,.int .i64 0] 31)):=hf2;have hlt : ¬ pos < bh:=fun h=>by
     have:=HA.out pos (by omega) h;rw [hb] at this;omega
    have em : max pos bh=pos:=by omega
    obtain⟨f,rfl⟩ : ∃ f',f=f'+ 1:=⟨f - 1,by omega⟩
    have hE:=HE.out;rw [em] at hE;have hnlt : decide ((pos : Int) < (bh : Int))=false:=decide_eq_false (by omega);obtain⟨h32,h10⟩:=blank_high (x:=(X : Int)) (by omega);obtain⟨b32,b10⟩:=blank_high (x:=((s[pos]'hp).toNat : Int)) (by omega);have hnb : ¬ blankZ (bz s pos)=true:=by rw [hb,blankZ,b32,b10]; simp
    have hfr : FirstRune (s.extract pos s.size) X:=by
     have h0 : 0 < (s.extract pos s.size).size:=by rw [rest_size]; omega
     have e0 : (s.extract pos s.size)[0]'h0=s[pos]'hp:=by
      rw [ByteArray.getElem_extract];congr 1
     exact⟨h0,Or.inr ⟨by rw [e0]; omega,hhi⟩⟩
    have hword:=first_calls (s.extract pos s.size) X (by rw [rest_size]; omega) hfr;rw [wordAt_rest hp,restVal_unplaced] at hword
    cases hw : wordAt s pos with
    | ok de=>
      obtain⟨d,e⟩:=de;have:=wordAt_ascii hp hw pos (by omega) (wordAt_end hp hw).1;rw [hb] at this;omega
    | error c=>
      rw [lexGo_bad hp hnb hw] at hE;rw [hw] at hword;have HW : Hid (∀ w,_):=hword;have hc:=wordAt_code hw;clear hw hnb hword hown hit hfault hf2 hnx HA HE hWd hX hfr b32 b10 em hb ha hhi;subst hE;go_wp2_with fail
      refine (HW.out _).mono ?_;rintro e W1 ⟨rfl,hb1⟩;have hf4:=(hb1.block w.heap.size (by omega)).trans hf3.out;have q0:=z8 hf4 0;have q1:=z8 hf4 1;obtain⟨z0,z1⟩:=ffz2 hf4;simp at q0 q1;have hnx1:=hbw2.trans (hb1.mono hbw2.size);have hBlt1 : w.heap.size < W1.heap.size:=World.block_lt_of_cell? W1 _ q0;clear HW hb1 hf3 hbw2 hf4;simp only [restVal];have hcc : (c !=0)=true:=by rcases hc with rfl | rfl | rfl <;> rfl
      go_wp2_with fail
      refine bodyPost_ret (v:= .tuple #[.slice none 0 0,.agg #[.int .i64 c,.int .i64 pos]]) (by simp [results,Tryz.results26,go_sem,q0,q1,hBlt1]) rfl ⟨⟨.slice none 0 0,rfl,World.ownsRow_nil _ _ _ _⟩,?_⟩;exact ((hnx1.setCell (by simp) _).setCell (by simp) _).alloc (by simp; omega) _
  ·have hnxt : ∀ ty,(Instr.next (.pointer (some ⟨w.heap.size+1,0,none⟩)) true ty).run Tryz.prog wr=_:=fun ty=>Lib.run_next_end_at wr (w.heap.size+1) s pos ty hit hp
   have hE:=HE.out;rw [lexGo_end (by omega)] at hE;have q0:=z8 hfault 0;have q1:=z8 hfault 1;obtain⟨z0,z1⟩:=ffz2 hfault;simp at q0 q1;subst hE;clear HE HA hfault hit;go_wp2_with fail
   refine bodyPost_ret (v:= .tuple #[_,.agg #[.int .i64 0,.int .i64 0]]) (by simp [results,Tryz.results26,go_sem,q0,q1]; rfl) rfl ⟨⟨_,rfl,?_⟩,(hnx.setCell (by simp) _).setCell (by simp) _⟩;exact owns_setCell (owns_setCell hown (by simp) _) (by simp) _
end
end Go.Proofs.YtfbojelpdccjaaaGreatDoor
