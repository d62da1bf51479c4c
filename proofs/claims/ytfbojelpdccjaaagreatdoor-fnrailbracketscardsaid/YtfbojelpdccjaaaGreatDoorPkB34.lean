import Derived.Test.YtfbojelpdccjaaaGreatDoorPkB19
import Derived.Test.YtfbojelpdccjaaaGreatDoorPkB31
import Derived.Test.YtfbojelpdccjaaaGreatDoorPkB32
import Derived.Test.YtfbojelpdccjaaaGreatDoorPkB33
import Derived.Test.YtfbojelpdccjaaaGreatDoorPkB14
import Derived.WalkLawsBesides
import Derived.Deep.CutRange
import Derived.Deep.CutBlock
import Derived.Test.YtfbojelpdccjaaaGreatDoorPkB8
set_option maxHeartbeats 4000000
set_option maxRecDepth 100000
namespace Go.Proofs.YtfbojelpdccjaaaGreatDoor
open Go.RowKit Go.Deep
variable {s : ByteArray} {k : Fo} {es : List Ef} {x : List Ef×Tr} {ns : List Nd} {T : List Nd→Bool} {P : List UInt8} {p : Nat} {m n : Nd} {W : World}
section
open Go.RowKit Go.Deep
theorem itreeBad {at_ : Option Addr} {L ct : Nat} (h : (L : Int) < 1∨(300 : Int) < (L : Int)) : Calls Tryz.prog 39 #[.slice at_ L ct] W fun e W'=> e= .returned (.bool false)∧Below W.heap.size W W':= by
 rcases h with h | h
 ·go_enter Tryz.func39,Tryz.ntmps39
  go_wp2_with fail
  go_ret;exact⟨rfl,Below.refl _ _⟩
 ·have h1 : ¬ (L : Int) < 1:=by omega
  go_enter Tryz.func39,Tryz.ntmps39
  go_wp2_with fail
  go_ret;exact⟨rfl,Below.refl _ _⟩
theorem iprogBad {ae at_ : Option Addr} {le ce L ct : Nat} (hle : (le : Int)≤8) (h : (L : Int) < 1∨(300 : Int) < (L : Int)) : Calls Tryz.prog 16 #[.agg #[.slice ae le ce,.slice at_ L ct]] W fun e W'=> e= .returned (.bool false)∧Below W.heap.size W W':= by
 have HT:=hid (fun X : World=>itreeBad (at_:=at_) (ct:=ct) (W:=X) h);have hb1 : Below W.heap.size W (W.alloc (.cells #[.slice ae le ce,.slice at_ L ct] 26)):=(Below.refl _ _).alloc (Nat.le_refl _) _;have HB1:=hid hb1;clear h hb1;go_enter Tryz.func16,Tryz.ntmps16
 go_wp2_with fail
 refine (HT.out _).mono ?_;rintro e X ⟨rfl,hb⟩;have HB2:=hid (HB1.out.trans (hb.mono HB1.out.size));clear hb HB1;go_wp2_with fail
 go_ret;exact⟨rfl,HB2.out⟩
def NodeV (W : World) (v : Value) (ns : List Nd) : Prop:=(v= .slice none 0 0∧ns= [])∨ ∃ b cap,v= .slice (some ⟨b,0,none⟩) ns.length cap∧b < W.heap.size∧NodesAt W b 0 ns
theorem nodeV_ofD {d : Dr} {v : Value} (h : NodesD d W v ns) : NodeV W v ns:=by
 have hsl:=h.slice;rcases h.1 with ⟨h2,h3⟩ | ⟨b,off,cap,h2,h3,rfl,h4,-⟩
 ·exact Or.inl ⟨h2,List.eq_nil_of_length_eq_zero h3⟩
 ·refine Or.inr ⟨b,cap,h2,h4.1,?_⟩;obtain⟨a,c,e,h5⟩:=hsl;rw [h2] at e
  cases e;rcases h5 with rfl | ⟨b',off',e',-,hn⟩
  ·exact fun k hk=>by simp at hk
  ·cases e';exact hn
def TextIs (es : List Ef) (ns : List Nd) (S : List UInt8) : Prop:=
 (S= []∧ ∀ T,SpecAns ns T→progZ es ns T=false)∨ ∃ n k,ns=n::k.flat∧n.kids=k.count∧k.wf∧SpecAns ns true∧ImplAns ns true∧progZ es ns true=true∧S=progT es n k
theorem TextIs.len {S : List UInt8} (h : TextIs es ns S) (he : es.length≤8) : S.length≤20000:=by
 rcases h with ⟨rfl,-⟩ | ⟨n,k,h1,h2,h3,h4,-,h5,rfl⟩
 ·simp
 ·exact progT_len h4 h5 h1 h2 h3 he
theorem spec_ans_one {T T' : Bool} (h : SpecAns ns T) (h' : SpecAns ns T') : T=T':= by
 rcases h with ⟨a1,rfl⟩ | ⟨a1,a2,a3,rfl⟩ | ⟨a1,a2,n,k,e1,e2,e3,h⟩ <;> rcases h' with ⟨b1,rfl⟩ | ⟨b1,b2,b3,rfl⟩ | ⟨b1,b2,n',k',e1',e2',e3',h'⟩
 ·rfl
 ·rfl
 ·omega
 ·rfl
 ·rfl
 ·exact absurd (end_of_tree e1' e2' e3') a3
 ·omega
 ·exact absurd (end_of_tree e1 e2 e3) b3
 ·obtain⟨rfl,rfl⟩:=tree_inj e1 e2 e3 e1' e2' e3';rw [h,h']
structure Both (W : World) (v : Value) (es : List Ef) (ns : List Nd) (S : List UInt8) : Prop where
 text : TextIs es ns S
 impl : ∀ X,Below W.heap.size W X→Calls Tryz.prog 6 #[v] X (TextP X S)
 spec : ∀ X,Below W.heap.size W X→Calls Tryz.prog 7 #[v] X (TextP X S)
 ok : ∀ X,Below W.heap.size W X→Calls Tryz.prog 8 #[v] X fun e X'=> (∃ b : Bool,e= .returned (.bool b)∧(b=true↔ ∃ T,SpecAns ns T∧progZ es ns T=true))∧Below X.heap.size X X'
theorem both_texts {ad : Option Addr} {cp : Nat} {v : Value} (hL : Laid W) (hE : EffW W ad cp es) (he : es.length≤5) (hBe : ∀ e∈es,Brief e.name) (hN : NodeV W v ns) (hBn : ∀ n∈ns,Brief n.a∧Brief n.b∧Brief n.c) :
 ∃ S,Both W (.agg #[.slice ad es.length cp,v]) es ns S:=by
 by_cases hl : 1≤ns.length∧ns.length≤300
 ·obtain⟨b,cap,rfl,hb,hNA⟩ : ∃ b cap,v= .slice (some ⟨b,0,none⟩) ns.length cap∧b < W.heap.size∧NodesAt W b 0 ns:=by
   rcases hN with ⟨-,rfl⟩ | h
   ·simp at hl
   ·exact h
  obtain⟨T,hA,hI⟩:=answers ns;have hns : Short ns:=fun n hn=>by
   obtain⟨h1,h2,h3⟩:=hBn n hn;unfold Brief at h1 h2 h3;unfold maxLen;exact⟨by omega,by omega,by omega⟩
  have hsh : ∀ e∈es,e.name.size≤maxLen:=fun e h=>by
   have:=hBe e h;unfold Brief at this;unfold maxLen;omega
  obtain⟨be,hae,hbe,hEA,hce⟩ : ∃ be,(es≠ []→ad=some ⟨be,0,none⟩)∧be < W.heap.size∧EffsAt W be 0 es∧es.length≤cp:=by
   rcases hE with ⟨h1,rfl,h3⟩ | ⟨be,h1,h2,h3,h4⟩
   ·exact⟨b,fun h=>absurd rfl h,hb,fun k hk=>by simp at hk,Nat.zero_le _⟩
   ·exact⟨be,fun _=>h1,h2,h3,h4⟩
  have hok : ∀ X,Below W.heap.size W X→Calls Tryz.prog 8 #[.agg #[.slice ad es.length cp,.slice (some ⟨b,0,none⟩) ns.length cap]] X fun e X'=> (∃ b : Bool,e= .returned (.bool b)∧(b=true↔ ∃ T,SpecAns ns T∧progZ es ns T=true))∧Below X.heap.size X X':= fun X hX=>by
   refine (progOk_at (cn:=cap) (hE.below hX) (by omega) (Nat.lt_of_lt_of_le hb hX.size) (hNA.below hX hb) hl.2 hA).mono ?_;rintro e X' ⟨rfl,h⟩;exact⟨⟨_,rfl,fun h=>⟨T,hA,h⟩,fun ⟨T',hA',h⟩=>(by rw [spec_ans_one hA hA']; exact h)⟩,h⟩
  cases hP : progZ es ns T with
  | false=>
    refine⟨[],Or.inl ⟨rfl,fun T' hT'=> by rw [spec_ans_one hT' hA]; exact hP⟩,fun X hX=>?_,fun X hX=>(progText_calls (cn:=cap) (hE.below hX) (by omega) (Nat.lt_of_lt_of_le hb hX.size) (hNA.below hX hb) hl.2 hA).1 hP,hok⟩;refine implText_no ?_;have hb1:=(Below.refl X.heap.size X).alloc (Nat.le_refl _) (.cells #[.slice ad es.length cp,.slice (some ⟨b,0,none⟩) ns.length cap] 26);have hb2:=hX.trans (hb1.mono hX.size)
    have h:=implProgC_calls ad be b cp cap es ns T _ hce hae (Nat.lt_of_lt_of_le hbe hb2.size) (Nat.lt_of_lt_of_le hb hb2.size) (hEA.below hb2 hbe) (hNA.below hb2 hb) (by omega) (by omega) hsh (fun w' h1 h2=>implTree_calls b 0 cap ns w' T (by omega) h1 h2 hns hI);rw [hP] at h;exact h
  | true=>
    have hT:=prog_true hP;subst hT;obtain⟨n,k,h1,h2,h3,-⟩:=right_of hA;exact⟨progT es n k,Or.inr ⟨n,k,h1,h2,h3,hA,hI,hP,rfl⟩,
     fun X hX=>implText_yes hce hae (Nat.lt_of_lt_of_le hbe hX.size) (Nat.lt_of_lt_of_le hb hX.size) (hEA.below hX hbe) hsh (hNA.below hX hb) hns (hL.stays hX) hA hI hP h1 h2 h3,
     fun X hX=>(progText_calls (cn:=cap) (hE.below hX) (by omega) (Nat.lt_of_lt_of_le hb hX.size) (hNA.below hX hb) hl.2 hA).2 hP n k h1 h2 h3,hok⟩
 ·have hl' : (ns.length : Int) < 1∨(300 : Int) < (ns.length : Int):=by omega
  obtain⟨av,cv,rfl⟩ : ∃ av cv,v= .slice av ns.length cv:=by
   rcases hN with ⟨rfl,rfl⟩ | ⟨b,cap,h,-⟩
   ·exact⟨none,0,rfl⟩
   ·exact⟨_,_,h⟩
  have hno : ∀ T,SpecAns ns T→progZ es ns T=false:=fun T hT=>by
   have hTf : T=false:=by
    rcases hT with ⟨-,h⟩ | ⟨h1,h2,-,h⟩ | ⟨h1,h2,-⟩
    ·exact h
    ·exact h
    ·exact absurd ⟨h1,h2⟩ hl
   subst hTf;unfold progZ;simp
  refine⟨[],Or.inl ⟨rfl,hno⟩,fun X _=>implText_no (iprogBad (by omega) hl'),fun X _=>textBad (progBad (by omega) hl'),fun X _=>?_⟩;refine (progBad (by omega) hl').mono ?_;rintro e X' ⟨rfl,h⟩;exact⟨⟨false,rfl,fun h=>(by cases h),fun ⟨T,h1,h2⟩=>(by rw [hno T h1] at h2; cases h2)⟩,h⟩
def DrawnP (W : World) (e : Ending) (W' : World) : Prop:=
 ∃ ad cp v es ns,e= .returned (.agg #[.slice ad es.length cp,v])∧EffW W' ad cp es∧es.length≤5∧(∀ e∈es,Brief e.name)∧NodeV W' v ns∧(∀ n∈ns,Brief n.a∧Brief n.b∧Brief n.c)∧ns.length≤1000∧Below W.heap.size W W'
theorem spoilP : SpoilC:=fun _ _ _ _ _ _ _ _ _ hG h hp hE he hn hT=>spoil_calls hG h hp hE he hn hT
theorem drawProg_calls (a0 : Option Addr) (len cap : Nat) (W : World) (hl : len≤1048576) (hc : len≤cap) (hB : BytesAt W a0 len) : Calls Tryz.prog 5 #[.slice a0 len cap] W (DrawnP W):=by
 have hb0:=(Below.refl W.heap.size W).alloc (Nat.le_refl _) (.cells #[.slice none 0 0,.slice none 0 0] 26);have hA:=(MapKept.heap_alloc W (.cells #[.slice none 0 0,.slice none 0 0] 26)).1;obtain⟨Y,hY⟩ : ∃ Y,W.alloc (.cells #[.slice none 0 0,.slice none 0 0] 26)=Y:=⟨_,rfl⟩
 rw [hY] at hb0 hA;have hBY : BytesAt Y a0 len:=fun h0=>by
  obtain⟨b,off,ea,hb,hz⟩:=hB h0;exact⟨b,off,ea,Nat.lt_of_lt_of_le hb hb0.size,fun i hi=>by
   obtain⟨z,hz,h1⟩:=hz i hi;exact⟨z,(hb0.cell (p:=⟨b,off+i,none⟩) hb).trans hz,h1⟩⟩
 have HO:=hid (ropen_calls a0 len cap Y (by omega) hc);have HB:=hid hBY;have HY:=hid hY;have HA:=hid hA;have HB0:=hid hb0;obtain⟨q0,hq0⟩ : ∃ q,W.heap.size=q:=⟨_,rfl⟩
 have HQ:=hid hq0;clear hB hBY hb0 hA hY;go_enter Tryz.func5,Tryz.ntmps5
 go_upto_region 1 with fail
 rw [HY.out];clear HY;go_wp2_with fail
 refine HO.out.mono ?_;rintro e W1 ⟨rfl,m,hm,rfl⟩;have HR : Hid (Rdr ⟨Y.heap.size,Y.heap.size,a0,m,cap⟩ (Y.alloc (.cells #[.slice a0 m cap,.int .i64 0] 79)) 0):=by
  have hh:=(MapKept.heap_alloc Y (.cells #[.slice a0 m cap,.int .i64 0] 79)).1;refine⟨hh,fun h0=>?_⟩;obtain⟨b,off,ea,hb,hz⟩:=HB.out (show 0 < len by have : 0 < m:=h0; omega);refine⟨b,off,ea,⟨by simp; omega,by show b≠Y.heap.size; omega,by show b≠Y.heap.size; omega⟩,fun i hi=>?_⟩;obtain⟨z,hz,h1⟩:=hz i (by have : i < m:=hi; omega);exact⟨z,(((Below.refl Y.heap.size Y).alloc (Nat.le_refl _) _).cell (p:=⟨b,off+i,none⟩) hb).trans hz,h1⟩
 have HC:=hid (any_calls spoilP (d:=⟨Y.heap.size,Y.heap.size,a0,m,cap⟩) rfl HR.out (by omega));have HW : Hid (Below Y.heap.size Y (Y.alloc (.cells #[.slice a0 m cap,.int .i64 0] 79))):=(Below.refl _ _).alloc (Nat.le_refl _) _;clear HO hm;go_wp2_with fail
 refine HC.out.mono ?_;rintro e W2 ⟨ad,n,cp,v,ns,q,rfl,hN,hlen,hr2,hq,hg,es,hEs,he5⟩;have hE5:=effW_ofD hEs;obtain⟨rfl,hEW⟩:=hE5;obtain⟨adv,cpv,rfl⟩:=hN.is;have HGW:=hid (HB0.out.trans ((HW.out.trans ((hg.below (n:=Y.heap.size) (by simp) (Nat.le_refl _) (Nat.le_refl _)))).mono HB0.out.size));have HG:=hid (HW.out.trans ((hg.below (n:=Y.heap.size) (by simp) (Nat.le_refl _) (Nat.le_refl _))));have hA2:=(HG.out.block W.heap.size (z13 HA.out)).trans HA.out;rw [HQ.out] at hA2;have HN:=hid hN;have HEs:=hid hEs;have HL:=hid (And.intro hlen he5);have hf0:=z8 hA2 0;have hf1:=z8 hA2 1;have HA2:=hid hA2
 obtain⟨z0,z1⟩:=ffz2 hA2;clear hg HG HC hr2 HR HW hlen he5 hEW hA2 HA hN hEs;go_wp2_with fail
 have g1:=z33 (i:=0) (.slice ad es.length cp) HA2.out;have g2:=z33 (i:=1) (.slice adv ns.length cpv) g1;have l1:=lies_two (i:=1) (u:= .slice adv ns.length cpv) (by decide) (lies_two (i:=0) (u:= .slice ad es.length cp) (by decide) HEs.out.1 HA2.out) g1;have l2:=lies_two (i:=1) (u:= .slice adv ns.length cpv) (by decide) (lies_two (i:=0) (u:= .slice ad es.length cp) (by decide) HN.out.1 HA2.out) g1;have hbX:=(HGW.out.setCell (p:=⟨q0,0,none⟩) (by show W.heap.size≤q0; omega) (.slice ad es.length cp)).setCell (p:=⟨q0,1,none⟩) (by show W.heap.size≤q0; omega) (.slice adv ns.length cpv)
 generalize (W2.setCell ⟨q0,0,none⟩ (.slice ad es.length cp)).setCell ⟨q0,1,none⟩ (.slice adv ns.length cpv)=X at*;obtain⟨y0,y1⟩:=fcl2 g2;refine bodyPost_ret (v:= .agg #[.slice ad es.length cp,.slice adv ns.length cpv]) (by simp [results,Tryz.results5,go_sem,y0,y1]) rfl ?_;have hE : EffsD _ X (.slice ad es.length cp) es:=⟨l1,HEs.out.2⟩
 have hN : NodesD _ X (.slice adv ns.length cpv) ns:=⟨l2,HN.out.2⟩
 exact⟨ad,cp,_,es,ns,rfl,(effW_ofD hE).2,HL.out.2,HEs.out.2,nodeV_ofD hN,HN.out.2,HL.out.1,hbX⟩
abbrev Tok:=Int×ByteArray
def beginsT (x : Tok) : Bool:=begins ⟨x.1,x.2,0⟩
def hdB : List Tok→Bool
 | []=>false
 | x::_=>beginsT x
section
variable {ws : List Wd} {i : Nat}
end
section
variable {ws : List Wd} {i : Nat}
end
theorem no_text (h : (s.toList== [])=true) : s=⟨#[]⟩:=by
 have h1 : s.toList= []:=by simpa using h
 rw [bytes_list] at h1
 cases s with
 | mk d=>
   congr 1
   exact Array.toList_inj.1 h1
end
section
open Go.RowKit
def bc (s : ByteArray) (p : Nat) : Nat:=(s.data.toList.drop p).count 40
theorem bc_step (h : p < s.size) : bc s p=bc s (p+1)+if bz s p=40 then 1 else 0:=by
 have hl : p < s.data.toList.length:=by rw [Array.length_toList]; exact h
 unfold bc;rw [List.drop_eq_getElem_cons hl,List.count_cons];have e:=bz_at s h;have e2 : s.data.toList[p]=s[p]'h:=rfl;rw [e2];by_cases hb : s[p]'h=40
 ·rw [hb] at e ⊢;rw [if_pos (by rfl),if_pos (show bz s p=40 from e)]
 ·rw [if_neg (by simpa using hb),if_neg (fun e3=>hb (by
   rw [e] at e3;exact UInt8.toNat_inj.1 (by show _=40; omega)))]
theorem bc_mono (s : ByteArray) {q : Nat} (h : p≤q) : bc s q≤bc s p:=by
 unfold bc;have : s.data.toList.drop q=(s.data.toList.drop p).drop (q - p):=by rw [List.drop_drop]; congr 1; omega
 rw [this];exact List.Sublist.count_le _ (List.drop_sublist _ _)
theorem word_open {e : Nat} {w : Wd} (hp : p < s.size) (h : wordAt s p= .ok (w,e)) (hw : (w.text.toList==gOpen)=true) : bz s p=40:=by
 have hw' : w.text.toList= [40]:=by simpa [gOpen] using hw
 have hpe:=(wordAt_end hp h).1;unfold wordAt at h;by_cases hd : digitZ (bz s p)=true
 ·rw [if_pos hd] at h;dsimp only at h;split at h
  ·cases h
  ·cases h;obtain⟨b,r,hl,hb⟩:=cut_head (s:=s) hp hpe;rw [hl] at hw'
   cases hw';exact hb
 ·rw [if_neg hd] at h;by_cases hL : letterZ (bz s p)=true
  ·rw [if_pos hL] at h;dsimp only at h;split at h
   ·cases h
   ·cases h;obtain⟨b,r,hl,hb⟩:=cut_head (s:=s) hp hpe;rw [hl] at hw'
    cases hw';exact hb
  ·rw [if_neg hL] at h;dsimp only at h;split at h
   ·cases h
   ·cases h;have hw2 : (signOf (s.extract p s.size)).toList= [40]:=hw';unfold signOf at hw2
    cases hf : signStrs.find? (fun g=>signHit (s.extract p s.size) g) with
    | none=>
      rw [hf] at hw2;exact absurd (no_bytes.symm.trans hw2) (by simp)
    | some g=>
      rw [hf] at hw2;have hh:=List.find?_some hf;have hg : g.toList= [40]:=hw2;unfold signHit at hh;simp only [Bool.and_eq_true,decide_eq_true_eq] at hh;have h2 : ((s.extract p s.size).extract 0 g.size).toList= [40]:=by rw [← hg]; simpa using hh.2
      obtain⟨b,r,hl,hb⟩:=cut_head (s:=s) (e:=s.size) hp hp;rw [cut_list,List.drop_zero] at h2;rw [bytes_list] at hl;rw [hl,Nat.sub_zero] at h2;have hb40 : b=40:=by
       cases hg' : g.size with
       | zero=>rw [hg'] at h2; cases h2
       | succ n=>rw [hg',List.take_succ_cons] at h2; exact (List.cons.inj h2).1
      rw [hb,hb40];rfl
def opensW (ws : List Wd) : Nat:=ws.countP (fun w=>w.text.toList==gOpen)
theorem lexGo_opens {s : ByteArray} : ∀ (f p : Nat) (ws : List Wd),opensW (lexGo s f p ws).1≤opensW ws+bc s p
 | 0,_,ws=>Nat.le_add_right _ _
 | f+1,p,ws=>by
   unfold lexGo;split
   ·rename_i hp;have hs:=bc_step hp;split
    ·have:=lexGo_opens (s:=s) f (p+1) ws;omega
    ·cases hw : wordAt s p with
     | error c=>exact Nat.zero_le _
     | ok r=>
       obtain⟨w,e⟩:=r;have ih:=lexGo_opens (s:=s) f e (ws++ [w]);have he:=(wordAt_end hp hw).1;have hm:=bc_mono s (show p+1≤e from he);have ho:=word_open hp hw;have hc : opensW (ws++ [w])=opensW ws+if (w.text.toList==gOpen)=true then 1 else 0:=by
        unfold opensW;rw [List.countP_append,List.countP_singleton]
       dsimp only;rw [hc] at ih;by_cases hb : (w.text.toList==gOpen)=true
       ·rw [if_pos hb] at ih;rw [if_pos (ho hb)] at hs;omega
       ·rw [if_neg hb] at ih;split at hs <;> omega
   ·exact Nat.le_add_right _ _
theorem lexAll_opens (s : ByteArray) : opensW (lexAll s).1≤bc s 0:=by
 unfold lexAll;split
 ·exact Nat.zero_le _
 ·exact Nat.le_trans (lexGo_opens s.size 0 []) (by simp [opensW])
theorem pc_opens (ws : List Wd) (i : Nat) : pc ws i≤opensW ws:=List.Sublist.countP_le (List.take_sublist _ _)
theorem expr_brackets {F i j : Nat} {t : Tr} (h : ipz (lexAll s).1 F .expr i= .ok (t,j)) : oB t≤bc s 0:=by
 have h1:=(read_brackets h).2;have h2:=pc_opens (lexAll s).1 j;have h3:=lexAll_opens s;omega
end
section
open Go.RowKit Go.Deep
theorem own_parts (h : ownOk m=true) : (namesZ m.kind≤0→m.a=⟨#[]⟩)∧(namesZ m.kind≤1→m.b=⟨#[]⟩)∧(namesZ m.kind≤2→m.c=⟨#[]⟩)∧0≤m.num∧m.num≤mostZ m.kind:=by
 simp only [ownOk,namesOk,fit,numOk,Bool.and_eq_true,decide_eq_true_eq] at h;obtain⟨-,⟨ha,hb,hc⟩,-,h1,h2⟩:=h;refine⟨fun e=>?_,fun e=>?_,fun e=>?_,h1,h2⟩
 ·rw [if_neg (by omega)] at ha;exact no_text ha
 ·rw [if_neg (by omega)] at hb;exact no_text hb
 ·rw [if_neg (by omega)] at hc;exact no_text hc
section
variable {ws : List Wd} {F : Nat} {t : Tp}
end
theorem own_names (h : ownOk m=true) : (1≤namesZ m.kind→nameOk m.a=true)∧(2≤namesZ m.kind→nameOk m.b=true)∧(3≤namesZ m.kind→nameOk m.c=true):=by
 simp only [ownOk,namesOk,fit,Bool.and_eq_true] at h;obtain⟨-,⟨ha,hb,hc⟩,-,-⟩:=h;refine⟨fun e=>?_,fun e=>?_,fun e=>?_⟩
 ·rwa [if_pos (by omega)] at ha
 ·rwa [if_pos (by omega)] at hb
 ·rwa [if_pos (by omega)] at hc
end
section
open Go.RowKit
theorem whole_brackets {r : (List Ef×Tr)×Nat} (h : wholeI (lexAll s).1= .ok r) : oB r.1.2≤bc s 0:=by
 unfold wholeI at h;obtain⟨es,j,h1,h⟩:=z19 h;obtain⟨t,k,h2,h⟩:=z19 h
 cases h;exact expr_brackets h2
theorem read_brackets_all (h : readZ s T= .ok x) : oB x.2≤bc s 0:=by
 unfold readZ at h;split at h
 ·cases h
 split at h
 ·cases h
 rename_i r hr;repeat (split at h; · cases h)
 split at h
 ·cases h;exact whole_brackets hr
 ·cases h
end
section
open Go.RowKit Go.Deep
theorem dpB_cons (x : UInt8) (l : List UInt8) : dpB (x::l)=(if x=40 then 1 else if x=41 then -1 else 0)+dpB l:=by
 have : dpB (x::l)=dpB [x]+dpB l:=dpB_app [x] l;rw [this];congr 1
 by_cases h : x=40
 ·rw [h];decide
 ·rw [if_neg h];by_cases h2 : x=41
  ·rw [h2];decide
  ·rw [if_neg h2];simp [dpB,h,h2]
theorem first_shut : ∀ (l : List UInt8) (c : Int),0 < c→c+dpB l≤0→ ∃ A B,l=A++41::B∧c+dpB A=1∧ ∀ m,1≤c+dpB (A.take m)
 | [],c,h,h'=> absurd h' (by simp [dpB]; omega)
 | x::l,c,h,h'=> by
   rw [dpB_cons] at h';by_cases hx : x=41∧c=1
   ·obtain⟨rfl,rfl⟩:=hx;exact⟨[],l,rfl,by simp [dpB],fun m=>by simp [dpB]⟩
   ·have hc : 0 < c+(if x=40 then 1 else if x=41 then -1 else 0):=by
     split
     ·omega
     ·split
      ·rename_i h2;have : c≠1:=fun e=>hx ⟨h2,e⟩
       omega
      ·omega
    obtain⟨A,B,e1,e2,e3⟩:=first_shut l _ hc (by omega);refine⟨x::A,B,by rw [e1]; rfl,by rw [dpB_cons]; omega,fun m=>?_⟩
    cases m with
    | zero=>simp [dpB]; omega
    | succ m=>
      rw [List.take_succ_cons,dpB_cons];have:=e3 m;omega
theorem GB.mate {l : List UInt8} {c : Nat} (h : GB l c) {r : List UInt8} (hl : l=P++40::r) : ∃ A B,r=A++41::B∧1+dpB A=1∧ ∀ m,1≤1+dpB (A.take m):=by
 have h1:=h.low P.length;have h2:=h.zero;rw [hl,List.take_left' rfl] at h1;rw [hl,dpB_app,dpB_cons,if_pos rfl] at h2;exact first_shut r 1 (by decide) (by omega)
theorem tr_inj {t t' : Tr} (h1 : ns=Tr.flat t) (h2 : t.1.kids=t.2.count) (h3 : t.2.wf) (e1 : ns=Tr.flat t') (e2 : t'.1.kids=t'.2.count) (e3 : t'.2.wf) : t'= t:=by
 obtain⟨a,b⟩:=tree_inj (n:=t.1) (k:=t.2) (n':= t'.1) (k':= t'.2) h1 h2 h3 e1 e2 e3
 cases t
 cases t'
 cases a
 cases b;rfl
theorem read_whole (h : readZ s T= .ok x) : TrOk x.2:=by
 unfold readZ at h;split at h
 ·cases h
 split at h
 ·cases h
 rename_i r hr;repeat (split at h; · cases h)
 split at h
 ·cases h;exact whole_ok hr
 ·cases h
theorem too_few (h : readZ s T= .ok x) (hn : n.kids=k.count) (hk : k.wf) (hc : s.data.toList.count 40 < oB (n,k)) : Tr.flat x.2≠n::k.flat:=fun e=>by
 have hw:=read_whole h;have hb:=read_brackets_all h;have:=tr_inj (ns:=n::k.flat) (t:=(n,k)) (t':= x.2) rfl hn hk e.symm hw.1 hw.2;rw [this] at hb;unfold bc at hb;rw [List.drop_zero] at hb;omega
theorem struck_count (P A B : List UInt8) : (P++32::(A++32::B)).count (40 : UInt8)+1=(P++40::(A++41::B)).count 40:=by
 simp only [List.count_append,List.count_cons];have e1 : ((32 : UInt8)==40)=false:=by decide
 have e2 : ((41 : UInt8)==40)=false:=by decide
 have e3 : ((40 : UInt8)==40)=true:=by decide
 rw [e1,e2,e3];simp;omega
theorem needless {A B l : List UInt8} (hG : GB l (oB (n,k))) (hl : l=P++40::(A++41::B)) (hs : s.data.toList=P++32::(A++32::B)) (hn : n.kids=k.count) (hk : k.wf) (h : readZ s T= .ok x) : Tr.flat x.2≠n::k.flat:=by
 refine too_few h hn hk ?_;have h1:=hG.cnt;have h2:=struck_count P A B;rw [hl] at h1;rw [hs];omega
def baseTz (k : Int) : List UInt8:=if k=1 then [105,110,116] else if k=2 then [98,111,111,108] else if k=3 then [117,110,105,116] else [108,105,115,116]
def effTz (e : Ef) : List UInt8:= [101,102,102,101,99,116,32]++e.name.data.toList++ [32,58,32]++baseTz e.arg++ [32,61,62,32]++baseTz e.res++ [32,59,32]
structure EfOk (e : Ef) : Prop where
 name : nameOk e.name=true
 arg : 1≤e.arg∧e.arg≤4
 res : 1≤e.res∧e.res≤4
section
variable {ws : List Wd}
end
theorem name_free {a : ByteArray} (h : nameOk a=true) : ∀ b∈a.data.toList,b≠40∧b≠41:=fun b hb=>by
 simp only [nameOk,Bool.and_eq_true,decide_eq_true_eq,List.all_eq_true,List.mem_range] at h;obtain⟨⟨⟨-,-⟩,h3⟩,-⟩:=h;have hlen : a.data.toList.length=a.size:=by rw [Array.length_toList]; rfl
 obtain⟨i,hi,rfl⟩:=List.getElem_of_mem hb;have h4:=h3 i (by omega);have e : bz a i=((a.data.toList[i]).toNat : Int):=bz_at a (by omega);unfold nameAt at h4;rw [e] at h4;refine⟨fun e2=>?_,fun e2=>?_⟩
 ·rw [e2] at h4;revert h4
  cases (i !=0) <;> decide
 ·rw [e2] at h4;revert h4
  cases (i !=0) <;> decide
theorem noBr_own (h : ownOk m=true) : NoBr m:=by
 obtain⟨n1,n2,n3⟩:=own_names h;obtain⟨pa,pb,pc',-,-⟩:=own_parts h;have e0 : ∀ b∈(⟨#[]⟩ : ByteArray).data.toList,b≠40∧b≠41:=fun b hb=>by cases hb
 refine⟨?_,?_,?_⟩
 ·by_cases e : 1≤namesZ m.kind
  ·exact name_free (n1 e)
  ·rw [pa (by omega)]; exact e0
 ·by_cases e : 2≤namesZ m.kind
  ·exact name_free (n2 e)
  ·rw [pb (by omega)]; exact e0
 ·by_cases e : 3≤namesZ m.kind
  ·exact name_free (n3 e)
  ·rw [pc' (by omega)]; exact e0
theorem base_G (k : Int) : GB (baseTz k) 0:=by
 unfold baseTz;split
 ·exact GB.free (by decide)
 split
 ·exact GB.free (by decide)
 split
 ·exact GB.free (by decide)
 ·exact GB.free (by decide)
theorem eff_G {e : Ef} (h : EfOk e) : GB (effTz e) 0:=
 GB.app (GB.app (GB.app (GB.app (GB.app (GB.app (GB.free (by decide)) (GB.free (name_free h.name))) (GB.free (by decide))) (base_G _)) (GB.free (by decide))) (base_G _)) (GB.free (by decide))
theorem effs_G : ∀ es : List Ef,(∀ e∈es,EfOk e)→GB (es.flatMap effTz) 0
 | [],_=>GB.free (fun b hb=>by cases hb)
 | e::es,h=>by
   rw [List.flatMap_cons];exact GB.app (eff_G (h e List.mem_cons_self)) (effs_G es (fun x hx=>h x (List.mem_cons_of_mem _ hx)))
theorem text_G {F : Nat} (he : ∀ e∈es,EfOk e) (hn : ∀ m∈n::k.flat,ownOk m=true) (hF : k.flat.length+1≤F) (hs : Stands (n::k.flat) ⟨n,k,0⟩) (hx : Ex ⟨n,k,0⟩) : GB (es.flatMap effTz++showZ F ⟨n,k,0⟩ 0) (oB (n,k)):=by
 have h:=(show_G (fun m hm=>noBr_own (hn m hm)) F).1 ⟨n,k,0⟩ 0 hF hs hx;rw [oL_zero] at h;exact (GB.app (effs_G es he) h).eq (Nat.zero_add _)
theorem text_needless {s' : ByteArray} {F : Nat} {A B : List UInt8} (he : ∀ e∈es,EfOk e) (hn : ∀ m∈n::k.flat,ownOk m=true) (hF : k.flat.length+1≤F) (hs : Stands (n::k.flat) ⟨n,k,0⟩) (hx : Ex ⟨n,k,0⟩) (hl : es.flatMap effTz++showZ F ⟨n,k,0⟩ 0=P++40::(A++41::B)) (hs' : s'.data.toList=P++32::(A++32::B)) (hk : n.kids=k.count) (hw : k.wf) (h : readZ s' T= .ok x) : Tr.flat x.2≠n::k.flat:=
 needless (text_G he hn hF hs hx) hl hs' hk hw h
def curI (ws : List Wd) (sz i : Nat) : Wd:=if i < ws.length then curW ws i else ⟨0,⟨#[]⟩,sz⟩
def wdV (w : Wd) : Value:= .agg #[.int .i64 w.kind,.string w.text,.int .i64 (w.at_ : Int)]
structure RdAt (d : Dr) (ws : List Wd) (ad : Option Addr) (cp sz : Nat) (i : Nat) (W : World) : Prop where
 blk : W.heap[d.B]? =some (.cells #[.slice ad ws.length cp,.int .i64 (i : Int),.int .i64 (sz : Int)] 95)
 eq : d.G=d.B
 lt : i≤ws.length
 few : ws.length≤1500
 words : Lies d W (.slice ad ws.length cp) ws.length 3 (fun i=>wdC (ws.getD (i / 3) default) (i % 3))
section
variable {d : Dr} {ws : List Wd} {ad : Option Addr} {cp sz : Nat}
theorem RdAt.below {i : Nat} {W' : World} (h : RdAt d ws ad cp sz i W) (hb : Below W.heap.size W W') : RdAt d ws ad cp sz i W':=
 ⟨(hb.block _ (z13 h.blk)).trans h.blk,h.eq,h.lt,h.few,h.words.grew (Grew.of_below hb)⟩
theorem RdAt.lies {i : Nat} (h : RdAt d ws ad cp sz i W) (hi : 0 < ws.length) : ∃ b,ad=some ⟨b,0,none⟩∧ ∀ i,i < ws.length→W.cell? ⟨b,i*3,none⟩=some (.int .i64 (curW ws i).kind)∧W.cell? ⟨b,i*3+1,none⟩=some (.string (curW ws i).text)∧W.cell? ⟨b,i*3+2,none⟩=some (.int .i64 (curW ws i).at_):=by
 rcases h.words with ⟨-,h0⟩ | ⟨b,off,cap,e,-,rfl,-,hc⟩
 ·omega
 cases e;refine⟨b,rfl,fun i hi=>?_⟩;have e : ∀ c,c < 3→W.cell? ⟨b,i*3+c,none⟩=some (wdC (ws.getD i default) c):=fun c hc'=> by
  have:=hc (i*3+c) (by omega);rw [Nat.zero_add] at this;rw [this];exact congrArg some (cell_div ws wdC 3 i c hc')
 exact⟨e 0 (by omega),e 1 (by omega),e 2 (by omega)⟩
theorem RdAt.move {i : Nat} (h : RdAt d ws ad cp sz i W) {k : Nat} (hk : k≤ws.length) : RdAt d ws ad cp sz k (W.setCell ⟨d.B,1,none⟩ (.int .i64 (k : Int))):=
 ⟨z33 _ h.blk,h.eq,hk,h.few,h.words.grew (grew_set W 1 _)⟩
theorem RdAt.other {i : Nat} (h : RdAt d ws ad cp sz i W) {q : Nat} (hq : q≠d.B) (j : Nat) (v : Value) (g : ∀ b,ad=some ⟨b,0,none⟩→b≠q) : RdAt d ws ad cp sz i (W.setCell ⟨q,j,none⟩ v):=by
 refine⟨(Below.heap_setCell W ⟨q,j,none⟩ v d.B (fun e=>hq e.symm)).trans h.blk,h.eq,h.lt,h.few,?_⟩;rcases h.words with h1 | ⟨b,off,cap,e,hn,rfl,hqb,hc⟩
 ·exact Or.inl h1
 ·refine Or.inr ⟨b,0,cap,e,hn,rfl,⟨by simpa [World.setCell] using hqb.1,hqb.2⟩,fun i hi=>?_⟩
  cases e;rw [← hc i hi];exact World.cell?_of_block (Below.heap_setCell W ⟨q,j,none⟩ v _ (g b rfl))
theorem RdAt.row {i : Nat} (h : RdAt d ws ad cp sz i W) : ∀ b,ad=some ⟨b,0,none⟩→b < W.heap.size:=fun b hb=>by
 subst hb;rcases h.words with ⟨e0,-⟩ | ⟨b',off,cap,e1,-,-,hqb,-⟩
 ·cases e0
 ·cases e1;exact hqb.1
theorem peek_calls (i : Nat) (W : World) (h : RdAt d ws ad cp sz i W) :
 Calls Tryz.prog 94 #[.pointer (some ⟨d.B,0,none⟩)] W fun e W'=> e= .returned (wdV (curI ws sz i))∧Below W.heap.size W W':= by
 have H0:=hid h;have hdB:=z13 h.blk;obtain⟨cw,hcw⟩ : ∃ c,curI ws sz i=c:=⟨_,rfl⟩
 rw [hcw];have HC:=hid hcw;clear h hcw;go_enter Tryz.func94,Tryz.ntmps94
 go_wp2_with fail
 have hb:=(Below.refl W.heap.size W).alloc (Nat.le_refl _) (.cells #[.int .i64 0,.string ⟨#[]⟩,.int .i64 0] 76);have hg:=(MapKept.heap_alloc W (.cells #[.int .i64 0,.string ⟨#[]⟩,.int .i64 0] 76)).1;have H:=hid (H0.out.below hb);have HB:=hid hb;obtain⟨Y,hY⟩ : ∃ Y,W.alloc (.cells #[.int .i64 0,.string ⟨#[]⟩,.int .i64 0] 76)=Y:=⟨_,rfl⟩
 rw [hY] at hg H HB ⊢;obtain⟨g,hgg⟩ : ∃ g,W.heap.size=g:=⟨_,rfl⟩
 rw [hgg] at hg hdB HB ⊢;have HG:=hid hg;have hne : d.B≠g:=by omega
 have p0:=z8 H.out.blk 0;have p1:=z8 H.out.blk 1;have p2:=z8 H.out.blk 2;have g0:=z8 hg 0;have g1:=z8 hg 1;have g2:=z8 hg 2;have z0:=z12 hg 0;have z1:=z12 hg 1;have z2:=z12 hg 2;simp at p0 p1 p2 g0 g1 g2;obtain⟨L,hL⟩ : ∃ L,ws.length=L:=⟨_,rfl⟩
 have HL:=hid hL;have hle : i≤L:=by rw [← hL]; exact H.out.lt
 rw [hL] at p0;have HF:=hid hgg;clear hL hb hg hY hgg hdB;by_cases hi : i < L
 ·have hlt : i < ws.length:=by have:=HL.out; omega
  obtain⟨b,rfl,hw⟩:=H.out.lies (by omega);obtain⟨w0,w1,w2⟩:=hw i hlt;have hi0 : (0 : Int)≤(i : Int):=by omega
  have hd : decide (i < L)=true:=decide_eq_true hi;have ht : curI ws sz i=curW ws i:=by unfold curI; rw [if_pos hlt]
  obtain⟨kd,tx,wa⟩:=cw;rw [← ht,HC.out] at w0 w1 w2;dsimp only at w0 w1 w2;have hbg : b≠g:=by have:=H0.out.row b rfl; have:=HF.out; omega
  clear hw hlt ht hle;go_region
  go_wp2_with fail
  go_region
  go_wp2_with fail
  obtain⟨hl1,hl2⟩:=lay3_is (.int .i64 kd) (.string tx) (.int .i64 (wa : Int)) HG.out;have hl2:=HB.out.trans (hl2 g (Nat.le_refl _));unfold lay3 at hl1 hl2;obtain⟨k0,k1,k2⟩:=fcl3 hl1;refine bodyPost_ret (v:=wdV ⟨kd,tx,wa⟩) (by simp [results,Tryz.results94,go_sem,wdV,k0,k1,k2]) rfl ⟨rfl,?_⟩;rw [HF.out];exact⟨hl2.os,hl2.tape,hl2.output,hl2.size,hl2.block⟩
 ·have ht : curI ws sz i=⟨0,⟨#[]⟩,sz⟩:=by unfold curI; rw [if_neg (by have:=HL.out; omega)]
  have hcw : cw=⟨0,⟨#[]⟩,sz⟩:=HC.out.symm.trans ht;subst hcw;have hd : decide (i < L)=false:=decide_eq_false hi;clear ht;go_region
  go_wp2_with fail
  obtain⟨hl1,hl2⟩:=lay3_is (.int .i64 0) (.string ⟨#[]⟩) (.int .i64 (sz : Int)) HG.out;have hl2:=HB.out.trans (hl2 g (Nat.le_refl _));unfold lay3 at hl1 hl2;obtain⟨k0,k1,k2⟩:=fcl3 hl1;refine bodyPost_ret (v:=wdV ⟨0,⟨#[]⟩,sz⟩) (by simp [results,Tryz.results94,go_sem,wdV,k0,k1,k2]) rfl ⟨rfl,?_⟩;rw [HF.out];exact⟨hl2.os,hl2.tape,hl2.output,hl2.size,hl2.block⟩
end
end
end Go.Proofs.YtfbojelpdccjaaaGreatDoor
