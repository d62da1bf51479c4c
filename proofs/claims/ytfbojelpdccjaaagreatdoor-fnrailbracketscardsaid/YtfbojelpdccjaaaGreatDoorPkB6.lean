import Derived.BigQuiet
import Derived.Test.YtfbojelpdccjaaaGreatDoorPkB5
import Derived.Test.YtfbojelpdccjaaaGreatDoorRows
import Derived.WalkKit
import Derived.ProofKit
import Derived.Deep.OwnRows
import Derived.Deep.Slices
import Derived.Deep.RegionWith
import Derived.Laws.AppendOwn
import Derived.Test.YtfbojelpdccjaaaGreatDoorPkB1
set_option maxHeartbeats 1000000
set_option maxRecDepth 100000
namespace Go.Proofs.YtfbojelpdccjaaaGreatDoor
open Go.RowKit Go.Deep
variable {c i : Nat} {F : Nat→Value}
section
open Go.RowKit Go.Deep
def effIn (es : List Ef) (s : ByteArray) : Bool:=es.any (fun e=>e.name.toList==s.toList)
def effPlace : List Ef→ByteArray→Nat→Int
 | [],_,_=> -1
 | e::r,s,i=>if (e.name.toList==s.toList)=true then i else effPlace r s (i+1)
theorem effPlace_lt : ∀ (es : List Ef) (s : ByteArray) (i : Nat),effPlace es s i < 0↔effIn es s=false
 | [],s,i=>by simp [effPlace,effIn]
 | e::r,s,i=>by
   have ih:=effPlace_lt r s (i+1);unfold effPlace;simp only [effIn,List.any_cons] at*;split
   ·rename_i h;rw [h];simp
   ·rename_i h;have h' : (e.name.toList==s.toList)=false:=by simpa using h
    rw [h',Bool.false_or];exact ih
theorem effs_drop {es : List Ef} (hi : i < es.length) : es.drop i=es.getD i default::es.drop (i+1):=by
 rw [List.drop_eq_getElem_cons hi];simp [List.getD,List.getElem?_eq_getElem hi]
theorem l2Eff_calls (a0 : Option Addr) (cap : Nat) (es : List Ef) (s : ByteArray) (w : World) (hm : es.length≤1000000) (hn : es≠ []→ ∃ b off,a0=some ⟨b,off,none⟩∧EffsAt w b off es) :
 Calls Tryz.prog 25 #[.slice a0 es.length cap,.string s] w fun e w'=> e= .returned (.int .i64 (effPlace es s 0))∧w=w':= by
 obtain⟨len,hlen⟩ : ∃ len,es.length=len:=⟨_,rfl⟩
 have Hlen : Hid (es.length=len):=hlen;have HM : Hid (len≤1000000):=by show _≤_; omega
 obtain⟨R,hR⟩ : ∃ R,effPlace es s 0=R:=⟨_,rfl⟩
 have HR : Hid (effPlace es s 0=R):=hR;have HN : Hid (es≠ []→ ∃ b off,a0=some ⟨b,off,none⟩∧EffsAt w b off es):=hn;rw [hlen,hR];clear hlen hR hm hn;go_enter Tryz.func25,Tryz.ntmps25
 go_wp2_with fail
 go_loop [5] (fun i=> ∃ k : Nat,i= .int .i64 k∧k≤len∧Hid (effPlace (es.drop k) s k=R)) (fun i=>len - (intOf i).toNat)
 case atStart=>exact⟨0,rfl,Nat.zero_le _,HR.out⟩
 case round=>
  obtain⟨k,rfl,hle,HT⟩:=hrel;by_cases hlt : (k : Int) < (len : Int)
  ·have hil : k < es.length:=by rw [Hlen.out]; omega
   obtain⟨b,off,rfl,hE⟩:=HN.out (fun h=>by rw [h] at hil; cases hil);have c0:=hE k hil 0 (by omega);have hT:=HT.out;rw [effs_drop hil] at hT;obtain⟨n,hnd⟩ : ∃ n,es.getD k default=n:=⟨_,rfl⟩
   rw [hnd] at c0 hT;simp only [Ef.cell,Nat.add_zero] at c0;clear HT HN hil hE hnd
   cases he : (n.name.toList==s.toList) with
   | true=>
     simp only [effPlace,he,if_true] at hT;have HT2 : Hid ((k : Int)=R):=hT;clear hT;go_wp2_with fail
     go_ret;exact⟨by rw [← HT2.out]; rfl,rfl⟩
   | false=>
     have HT2 : Hid (effPlace (es.drop (k+1)) s (k+1)=R):=by
      show _=_;rw [← hT,effPlace,he];simp
     clear hT;go_wp2_with fail
     have hs : len - (intOf (.int .i64 ((k+1 : Nat) : Int))).toNat < len - (intOf (.int .i64 (k : Int))).toNat:=by simp only [intOf,Int.toNat_natCast]; omega
     try rw [show wrap64 ((k : Int)+1)=((k+1 : Nat) : Int) by have:=HM.out; unfold wrap64; omega]
     exact⟨⟨k+1,rfl,by omega,HT2⟩,hs⟩
  ·have hT:=HT.out;rw [List.drop_eq_nil_of_le (by rw [Hlen.out]; omega)] at hT;have HT2 : Hid ((-1 : Int)=R):=hT;clear hT HT HN;go_wp2_with fail
   go_ret;exact⟨by rw [← HT2.out]; rfl,rfl⟩
theorem closure_calls (a s : ByteArray) (x y : Int) (P : Nat) (w : World) (hP : w.cell? ⟨P,0,none⟩=some (.string s)) (hlt : P < w.heap.size) :
 Calls Tryz.prog 79 #[.agg #[.string a,.int .i64 x,.int .i64 y],.pointer (some ⟨P,0,none⟩)] w fun e w'=> e= .returned (.bool (a.toList==s.toList))∧Below w.heap.size w w':= by
 go_enter Tryz.func79,Tryz.ntmps79
 go_wp2_with fail
 go_ret;exact⟨rfl,(Below.refl _ _).alloc (Nat.le_refl _) _⟩
theorem indexFunc_calls (a0 : Option Addr) (cap P : Nat) (es : List Ef) (s : ByteArray) (w : World) (hP : w.cell? ⟨P,0,none⟩=some (.string s)) (hPl : P < w.heap.size) (hm : es.length≤1000000) (hn : es≠ []→ ∃ b off,a0=some ⟨b,off,none⟩∧b < w.heap.size∧EffsAt w b off es) :
 Calls Tryz.prog 117 #[.slice a0 es.length cap,.func (.func 79) #[] #[.pointer (some ⟨P,0,none⟩)]] w fun e w'=> e= .returned (.int .i64 (effPlace es s 0))∧Below w.heap.size w w':= by
 obtain⟨len,hlen⟩ : ∃ len,es.length=len:=⟨_,rfl⟩
 have Hlen : Hid (es.length=len):=hlen;have HM : Hid (len≤1000000):=by show _≤_; omega
 obtain⟨R,hR⟩ : ∃ R,effPlace es s 0=R:=⟨_,rfl⟩
 have HR : Hid (effPlace es s 0=R):=hR;have HN : Hid (es≠ []→ ∃ b off,a0=some ⟨b,off,none⟩∧b < w.heap.size∧EffsAt w b off es):=hn;have HP : Hid (w.cell? ⟨P,0,none⟩=some (.string s)∧P < w.heap.size):=⟨hP,hPl⟩
 rw [hlen,hR];clear hlen hR hm hn hP hPl;go_enter Tryz.func117,Tryz.ntmps117
 go_wp2_with fail
 go_loopw [8] (fun i wr=> ∃ k : Nat,i= .int .i64 k∧k≤len∧Hid (effPlace (es.drop k) s k=R)∧Below w.heap.size w wr) (fun i _=>len - (intOf i).toNat)
 case atStart=>exact⟨0,rfl,Nat.zero_le _,HR.out,Below.refl _ _⟩
 case round=>
  obtain⟨k,rfl,hle,HT,hbx⟩:=hrel;by_cases hlt : (k : Int) < (len : Int)
  ·have hil : k < es.length:=by rw [Hlen.out]; omega
   obtain⟨b,off,rfl,hbw,hE0⟩:=HN.out (fun h=>by rw [h] at hil; cases hil);have hE:=hE0.below hbx hbw;have c0:=hE k hil 0 (by omega);have c1:=hE k hil 1 (by omega);have c2:=hE k hil 2 (by omega);have hT:=HT.out;rw [effs_drop hil] at hT;obtain⟨n,hnd⟩ : ∃ n,es.getD k default=n:=⟨_,rfl⟩
   rw [hnd] at c0 c1 c2 hT;simp only [Ef.cell,Nat.add_zero] at c0 c1 c2;have HC : Hid (∀ a x y,_):=fun a x y=>closure_calls a s x y P wr ((hbx.cell (p:=⟨P,0,none⟩) HP.out.2).trans HP.out.1) (Nat.lt_of_lt_of_le HP.out.2 hbx.size)
   have HT1 : Hid (effPlace (n::es.drop (k+1)) s k=R):=hT;clear HT HN hil hE hE0 hnd hT;go_wp2_with fail
   refine (HC.out _ _ _).mono ?_;rintro e w2 ⟨rfl,hb2⟩;have hb3:=hbx.trans (hb2.mono hbx.size);clear c0 c1 c2 HC hb2
   cases he : (n.name.toList==s.toList) with
   | true=>
     have HT2 : Hid ((k : Int)=R):=by
      show _=_;rw [← HT1.out,effPlace,he];simp
     clear HT1;go_wp2_with fail
     go_ret;exact⟨by rw [← HT2.out]; rfl,hb3⟩
   | false=>
     have HT2 : Hid (effPlace (es.drop (k+1)) s (k+1)=R):=by
      show _=_;rw [← HT1.out,effPlace,he];simp
     clear HT1;go_wp2_with fail
     have hs : len - (intOf (.int .i64 ((k+1 : Nat) : Int))).toNat < len - (intOf (.int .i64 (k : Int))).toNat:=by simp only [intOf,Int.toNat_natCast]; omega
     try rw [show wrap64 ((k : Int)+1)=((k+1 : Nat) : Int) by have:=HM.out; unfold wrap64; omega]
     exact⟨⟨k+1,rfl,by omega,HT2,hb3⟩,hs⟩
  ·have hT:=HT.out;rw [List.drop_eq_nil_of_le (by rw [Hlen.out]; omega)] at hT;have HT2 : Hid ((-1 : Int)=R):=hT;clear hT HT HN;go_wp2_with fail
   go_ret;exact⟨by rw [← HT2.out]; rfl,hbx⟩
theorem place_ge (es : List Ef) (s : ByteArray) : decide (0≤effPlace es s 0)=effIn es s:=by
 have:=effPlace_lt es s 0
 cases h : effIn es s with
 | false=>rw [decide_eq_false]; have:=this.2 h; omega
 | true=>
   rw [decide_eq_true];rcases Int.lt_or_le (effPlace es s 0) 0 with h' | h'
   ·rw [this.1 h'] at h; cases h
   ·exact h'
theorem hasEff_calls (a0 : Option Addr) (cap : Nat) (es : List Ef) (s : ByteArray) (w : World) (hm : es.length≤1000000) (hn : es≠ []→ ∃ b off,a0=some ⟨b,off,none⟩∧b < w.heap.size∧EffsAt w b off es) :
 Calls Tryz.prog 42 #[.slice a0 es.length cap,.string s] w fun e w'=> e= .returned (.bool (effIn es s))∧Below w.heap.size w w':= by
 have HW : Hid (w.heap.size < (w.alloc (.cells #[.string s] 9)).heap.size∧Below w.heap.size w (w.alloc (.cells #[.string s] 9))):=⟨by simp,(Below.refl _ _).alloc (Nat.le_refl _) _⟩
 have HX : Hid (Calls _ _ _ _ _):=indexFunc_calls a0 cap w.heap.size es s (w.alloc (.cells #[.string s] 9)) (by simp [go_sem]) HW.out.1 hm (fun h=>by
  obtain⟨b,off,e,hb,hE⟩:=hn h;exact⟨b,off,e,Nat.lt_trans hb HW.out.1,hE.below HW.out.2 hb⟩)
 rw [← place_ge];clear hm hn;generalize es.length=len at*;generalize effPlace es s 0=R at*;go_enter Tryz.func42,Tryz.ntmps42
 go_wp2_with fail
 have HY : Hid (Calls Tryz.prog 78 #[.slice a0 len cap,.func (.func 79) #[] #[.pointer (some ⟨w.heap.size,0,none⟩)]] (w.alloc (.cells #[.string s] 9)) fun e w'=> e= .returned (.bool (decide (0≤R)))∧Below w.heap.size w w'):=by
  show Calls _ _ _ _ _;go_enter Tryz.func78,Tryz.ntmps78
  go_wp2_with fail
  refine HX.out.mono ?_;rintro e w2 ⟨rfl,hb2⟩;have hb3:=HW.out.2.trans (hb2.mono HW.out.2.size);clear hb2;go_wp2_with fail
  go_ret;exact⟨rfl,hb3⟩
 refine HY.out.mono ?_;rintro e w2 ⟨rfl,hb2⟩;go_wp2_with fail
 go_ret;exact⟨rfl,hb2⟩
theorem baseOk_calls (x : Int) (w : World) :
 Calls Tryz.prog 41 #[.int .i64 x] w fun e w'=> e= .returned (.bool (decide (1≤x∧x≤4)))∧w=w':= by
 have hx : (1≤x∧x≤4)∨x < 1∨(1≤x∧4 < x):=by omega
 rcases hx with ⟨h1,h2⟩ | h1 | ⟨h1,h2⟩
 ·rw [decide_eq_true ⟨h1,h2⟩];go_enter Tryz.func41,Tryz.ntmps41
  go_wp2
  all_goals
   go_ret;exact⟨by simp_all,rfl⟩
 ·rw [decide_eq_false (by omega)];go_enter Tryz.func41,Tryz.ntmps41
  go_wp2
  all_goals
   go_ret;exact⟨by simp_all,rfl⟩
 ·rw [decide_eq_false (by omega)];go_enter Tryz.func41,Tryz.ntmps41
  go_wp2
  all_goals
   go_ret;exact⟨by simp_all,rfl⟩
end
section
open Go.RowKit
theorem hid {p : Prop} (h : p) : Hid p:=h
theorem kept_refl (w : World) (row : Option Nat) : w.grownBy w row:=⟨rfl,rfl,rfl,Nat.le_refl _,fun _ _ _=>rfl⟩
theorem kept_of_below {w w' : World} (h : Below w.heap.size w w') (row : Option Nat) : w.grownBy w' row:=⟨h.os,h.tape,h.output,h.size,fun k hk _=>h.block k hk⟩
theorem kept_set {w w' : World} {g : Nat} (h : w.grownBy w' (some g)) (i : Nat) (v : Value) : w.grownBy (w'.setCell ⟨g,i,none⟩ v) (some g):=
 ⟨h.os,h.tape,h.output,by simpa [World.setCell] using h.size,fun k hk hne=>(Below.heap_setCell _ _ _ _ (fun e=>hne (by rw [e]))).trans (h.block k hk hne)⟩
def Rw (w : World) (g : Nat) (t : TypeId) (N : Nat) (f : Nat→Value) (n : Nat) : Prop:=
 ∃ (c : Array Value) (fz : Nat×Nat),w.heap[g]? =some (.cells c t fz)∧c.size=N∧(∀ i,i < N→c[i]? =some (f i))∧(fz=(0,0)∨n≤fz.1)
namespace Rw
variable {w : World} {g : Nat} {t : TypeId} {N n : Nat} {f : Nat→Value}
theorem cell (h : Rw w g t N f n) (hi : i < N) : w.cell? ⟨g,i,none⟩=some (f i):=by
 obtain⟨c,fz,hg,hs,hc,_⟩:=h;simp [World.cell?,hg,hc i hi]
theorem lt (h : Rw w g t N f n) : g < w.heap.size:=by
 obtain⟨c,fz,hg,_⟩:=h;exact z13 hg
theorem set (h : Rw w g t N f n) (i : Nat) (v : Value) : Rw (w.setCell ⟨g,i,none⟩ v) g t N (fun j=>if j=i then v else f j) n:=by
 obtain⟨c,fz,hg,hs,hc,hz⟩:=h;refine⟨c.setIfInBounds i v,fz,?_,by simp [hs],fun j hj=>?_,hz⟩
 ·rw [setCell_eq_setRow w g i c t fz v hg];exact setRow_heap w g _ _ t _ hg
 ·by_cases hji : j=i
  ·subst hji;simp [hs,hj]
  ·have hij : ¬ i=j:=fun e=>hji e.symm
   simp [hji,hij,hc j hj]
end Rw
def CellRow (t : TypeId) (w : World) (g n : Nat) (F : Nat→Value) : Prop:=
 ∃ N f,Rw w g t N f n∧n≤N∧ ∀ i,i < n→f i=F i
theorem CellRow.lt {t : TypeId} {w : World} {g n : Nat} (h : CellRow t w g n F) : g < w.heap.size:=by
 obtain⟨N,f,hr,_⟩:=h;exact hr.lt
theorem CellRow.cell {t : TypeId} {w : World} {g n : Nat} (h : CellRow t w g n F) (hi : i < n) : w.cell? ⟨g,i,none⟩=some (F i):=by
 obtain⟨N,f,hr,h1,h2⟩:=h;rw [hr.cell (by omega),h2 i hi]
theorem CellRow.congr {t : TypeId} {w : World} {g n : Nat} {G : Nat→Value} (h : CellRow t w g n F) (e : ∀ i,i < n→F i=G i) : CellRow t w g n G:=by
 obtain⟨N,f,hr,h1,h2⟩:=h;exact⟨N,f,hr,h1,fun i hi=>(h2 i hi).trans (e i hi)⟩
def SliceR (t : TypeId) (sz B : Nat) (w : World) (v : Value) (n : Nat) (F : Nat→Value) : Prop:=
 ∃ ad cap,v= .slice ad n cap∧(n=0∨ ∃ g,ad=some ⟨g,0,none⟩∧B≤g∧CellRow t w g (n*sz) F)
theorem sliceR_of_owns {t : TypeId} {sz B : Nat} {w : World} {v : Value} {n : Nat} {xs : List Value} (h : w.ownsRow B t sz v n xs) : SliceR t sz B w v n (fun i=>xs.getD i undef):=by
 rcases h.2 with ⟨rfl,hn⟩ | ⟨g,cap,cur,rfl,hB,hg,hnc,hcm,hsz,htake⟩
 ·exact⟨none,0,by rw [hn],Or.inl hn⟩
 ·refine⟨_,cap,rfl,Or.inr ⟨g,rfl,hB,cur.size,fun i=>cur.getD i undef,⟨cur,(0,0),hg,rfl,fun i hi=>by simp [hi],Or.inl rfl⟩,by rw [hsz]; exact Nat.mul_le_mul_right _ hnc,fun i hi=>?_⟩⟩;rw [← htake];simp only [List.getD,Array.getD_eq_getD_getElem?];rw [List.getElem?_take_of_lt hi,Array.getElem?_toList]
end
section
open Go.RowKit Go.Deep Go.ChangeShapes Go.WideShapes
section
variable {H : Type} {enc : TypeId×Value→H} {W : World} {sp : Nat→Bool} {held : Bool}
end
end
section
open Go.RowKit Go.Deep
structure Tp where
 n : Nd
 k : Fo
 at_ : Nat
instance : Inhabited Tp:=⟨⟨default,.none,0⟩⟩
def kidsAt : Fo→Nat→List Tp
 | .none,_=> []
 | .tree n k r,p=>⟨n,k,p⟩::kidsAt r (p+1+k.flat.length)
def Tp.kids (t : Tp) : List Tp:=kidsAt t.k (t.at_+1)
def Tp.kid (t : Tp) (i : Nat) : Tp:=t.kids.getD i default
def Tp.size (t : Tp) : Nat:=t.k.flat.length+1
def headsZ (k : Fo) : Prop:= ∀ t∈(kidsAt k 0).drop 1,t.n.kids=1
def goodF : Fo→Prop
 | .none=>True
 | .tree n k r=>n.kids=k.count∧kidsOk n.kind n.kids=true∧(n.kind=23∨n.kind=24→headsZ k)∧goodF k∧goodF r
theorem goodF.wf : ∀ {f : Fo},goodF f→f.wf
 | .none,_=>trivial
 | .tree _ _ _,h=>⟨h.1,h.2.2.2.1.wf,h.2.2.2.2.wf⟩
structure Good (t : Tp) : Prop where
 kids : t.n.kids=t.k.count
 own : kidsOk t.n.kind t.n.kids=true
 heads : t.n.kind=23∨t.n.kind=24→headsZ t.k
 good : goodF t.k
structure Stands (ns : List Nd) (t : Tp) : Prop extends Good t where
 drop : ∃ suf,ns.drop t.at_=t.n::(t.k.flat++suf)
theorem kidsAt_len : ∀ (f : Fo) (p : Nat),(kidsAt f p).length=f.count
 | .none,_=>rfl
 | .tree n k r,p=>by simp [kidsAt,Fo.count,kidsAt_len r]
theorem kidsAt_sum : ∀ (f : Fo) (p : Nat),((kidsAt f p).map Tp.size).sum=f.flat.length
 | .none,_=>rfl
 | .tree n k r,p=>by
   simp only [kidsAt,Fo.flat,List.map_cons,List.sum_cons,kidsAt_sum r,List.length_cons,List.length_append,Tp.size];omega
theorem kidsAt_mem : ∀ (f : Fo) (p : Nat) (ns suf : List Nd),goodF f→ns.drop p=f.flat++suf→ ∀ t∈kidsAt f p,Stands ns t
 | .none,p,ns,suf,_,_,t,h=>by simp [kidsAt] at h
 | .tree n k r,p,ns,suf,hg,hd,t,h=>by
   obtain⟨h1,h2,h3,h4,h5⟩:=hg;simp only [Fo.flat,List.cons_append,List.append_assoc] at hd;rw [kidsAt,List.mem_cons] at h;rcases h with rfl | h
   ·exact⟨⟨h1,h2,h3,h4⟩,⟨_,hd⟩⟩
   ·refine kidsAt_mem r _ ns suf h5 ?_ t h;rw [show p+1+k.flat.length=p+(1+k.flat.length) by omega,← List.drop_drop,hd,Nat.add_comm 1,List.drop_succ_cons,List.drop_left]
theorem kidsAt_place : ∀ (f : Fo) (p q : Nat),(kidsAt f q).map (fun t=>(t.n,t.k))=(kidsAt f p).map (fun t=>(t.n,t.k))
 | .none,_,_=>rfl
 | .tree n k r,p,q=>by
   simp only [kidsAt,List.map_cons];rw [kidsAt_place r (p+1+k.flat.length)]
theorem Tp.kids_len (t : Tp) : t.kids.length=t.k.count:=kidsAt_len _ _
theorem Tp.kids_sum (t : Tp) : (t.kids.map Tp.size).sum+1=t.size:=by
 have:=kidsAt_sum t.k (t.at_+1);unfold Tp.kids;rw [this];rfl
theorem Stands.kids_mem {ns : List Nd} {t : Tp} (h : Stands ns t) : ∀ c∈t.kids,Stands ns c:=by
 obtain⟨suf,hd⟩:=h.drop;refine kidsAt_mem t.k _ ns suf h.good ?_;rw [← List.drop_drop,hd];rfl
theorem Tp.kid_mem {t : Tp} (h : i < t.k.count) : t.kid i∈t.kids:=getD_mem' (by rw [t.kids_len]; exact h)
where
 getD_mem' {l : List Tp} {k : Nat} (h : k < l.length) : l.getD k default∈l:=by
  rw [show l.getD k default=l[k] by simp [List.getD,h]];exact List.getElem_mem h
theorem Stands.kid {ns : List Nd} {t : Tp} (h : Stands ns t) (hi : i < t.k.count) : Stands ns (t.kid i):=h.kids_mem _ (Tp.kid_mem hi)
theorem Stands.head {ns : List Nd} {t : Tp} (h : Stands ns t) (hk : t.n.kind=23∨t.n.kind=24) : ∀ c∈t.kids.drop 1,c.n.kids=1∧c.k.count=1:=fun c hc=>by
 have h1:=h.heads hk;have hs:=h.kids_mem c (List.mem_of_mem_drop hc);have e : ∃ c'∈(kidsAt t.k 0).drop 1,(c'.n,c'.k)=(c.n,c.k):=by
  have h2:=congrArg (List.drop 1) (kidsAt_place t.k 0 (t.at_+1));rw [← List.map_drop,← List.map_drop] at h2;have h3 : (c.n,c.k)∈((kidsAt t.k (t.at_+1)).drop 1).map (fun t=>(t.n,t.k)):=List.mem_map_of_mem (f:=fun t : Tp=>(t.n,t.k)) hc;rw [h2,List.mem_map] at h3;obtain⟨c',h4,h5⟩:=h3;exact⟨c',h4,h5⟩
 obtain⟨c',hc',e⟩:=e;have h6:=h1 c' hc';simp only [Prod.mk.injEq] at e;rw [e.1] at h6;have h7:=hs.kids;exact⟨h6,by omega⟩
theorem role_two (pk : Int) (i : Nat) (h : pk=23∨pk=24) (hi : 1≤i) : role pk i=1∨role pk i=2:=by
 unfold role;rw [if_pos h];split <;> omega
theorem head_kids {m : Nd} (h : headOk m c=true) (hc : c=1∨c=2) (ho : ownOk m=true) : m.kids=1:=by
 unfold headOk at h;simp only [Bool.and_eq_true] at h;unfold ownOk at ho;simp only [Bool.and_eq_true] at ho;have hk:=ho.1;rcases hc with rfl | rfl
 ·have e : m.kind=25:=by simpa using h.1.1
  rw [e] at hk;exact of_decide_eq_true hk
 ·have e : m.kind=26:=by simpa using h.1.2
  rw [e] at hk;exact of_decide_eq_true hk
theorem spec_heads : ∀ (f : Fo) (pk : Int) (i p : Nat) (ops : List ByteArray),(pk=23∨pk=24)→(∀ m∈f.flat,ownOk m=true)→specKids f pk i ops=true→1≤i→ ∀ t∈kidsAt f p,t.n.kids=1
 | .none,pk,i,p,ops,_,_,_,_,t,h=>by simp [kidsAt] at h
 | .tree n k r,pk,i,p,ops,hp,ho,hs,hi,t,h=>by
   simp only [specKids,Bool.and_eq_true] at hs;rw [kidsAt,List.mem_cons] at h;rcases h with rfl | h
   ·exact head_kids hs.1 (role_two pk i hp hi) (ho n (by simp [Fo.flat]))
   ·have ho' : ∀ m∈r.flat,ownOk m=true:=fun m hm=>ho m (by simp [Fo.flat,hm])
    have h2:=hs.2.2;split at h2
    ·rw [Bool.and_eq_true] at h2;exact spec_heads r pk (i+1) _ _ hp ho' h2.2 (by omega) t h
    ·exact spec_heads r pk (i+1) _ _ hp ho' h2 (by omega) t h
theorem heads_of (k : Fo) (pk : Int) (hp : pk=23∨pk=24) (ho : ∀ m∈k.flat,ownOk m=true) (hs : specKids k pk 0 []=true) : headsZ k:=by
 cases k with
 | none=>exact fun t h=>by simp [kidsAt] at h
 | tree n k r=>
   intro t h;rw [kidsAt,List.drop_succ_cons,List.drop_zero] at h;simp only [specKids,Bool.and_eq_true] at hs;have h2:=hs.2.2;have ho' : ∀ m∈r.flat,ownOk m=true:=fun m hm=>ho m (by simp [Fo.flat,hm])
   split at h2
   ·rw [Bool.and_eq_true] at h2;exact spec_heads r pk (0+1) _ _ hp ho' h2.2 (by omega) t h
   ·exact spec_heads r pk (0+1) _ _ hp ho' h2 (by omega) t h
theorem good_of : ∀ (f : Fo) (pk : Int) (i : Nat) (ops : List ByteArray),f.wf→(∀ m∈f.flat,ownOk m=true)→specKids f pk i ops=true→goodF f
 | .none,_,_,_,_,_,_=>trivial
 | .tree n k r,pk,i,ops,hw,ho,hs=>by
   simp only [specKids,Bool.and_eq_true] at hs;have hk : ∀ m∈k.flat,ownOk m=true:=fun m hm=>ho m (by simp [Fo.flat,hm])
   have hr : ∀ m∈r.flat,ownOk m=true:=fun m hm=>ho m (by simp [Fo.flat,hm])
   have hn:=ho n (by simp [Fo.flat]);unfold ownOk at hn;rw [Bool.and_eq_true] at hn;refine⟨hw.1,hn.1,fun h=>heads_of k n.kind h hk hs.2.1,good_of k n.kind 0 [] hw.2.1 hk hs.2.1,?_⟩;have h2:=hs.2.2;split at h2
   ·rw [Bool.and_eq_true] at h2;exact good_of r pk (i+1) _ hw.2.2 hr h2.2
   ·exact good_of r pk (i+1) _ hw.2.2 hr h2
theorem stands_of {ns : List Nd} {n : Nd} {k : Fo} (hA : SpecAns ns true) (h1 : ns=n::k.flat) (h2 : n.kids=k.count) (h3 : k.wf) : Stands ns ⟨n,k,0⟩:=by
 rcases hA with ⟨-,h⟩ | ⟨-,-,-,h⟩ | ⟨-,-,n',k',e1,e2,e3,hR⟩
 ·cases h
 ·cases h
 obtain⟨rfl,rfl⟩:=tree_inj h1 h2 h3 e1 e2 e3;have hR':= hR.symm;rw [Bool.and_eq_true,Bool.and_eq_true] at hR';obtain⟨ho,-,hs⟩:=hR';unfold specTree at hs;rw [Bool.and_eq_true] at hs;have ho' : ∀ m∈ns,ownOk m=true:=fun m hm=>List.all_eq_true.1 ho m hm
 have hn:=ho' n' (by rw [e1]; simp);have hk : ∀ m∈k'.flat,ownOk m=true:=fun m hm=>ho' m (by rw [e1]; simp [hm])
 unfold ownOk at hn;rw [Bool.and_eq_true] at hn;exact⟨⟨e2,hn.1,fun h=>heads_of k' n'.kind h hk hs.2,good_of k' n'.kind 0 [] e3 hk hs.2⟩,⟨[],by rw [e1]; simp⟩⟩
theorem kids_of (t : Tp) (h : t.k.count=c) : t.kids.length=c:=by rw [t.kids_len,h]
theorem kids1 {t : Tp} (h : t.k.count=1) : t.kids= [t.kid 0]∧(t.kid 0).size+1=t.size:=by
 have hl:=kids_of t h;have hs:=t.kids_sum;unfold Tp.kid;match hk : t.kids,hl with
 | [a],_=>rw [hk] at hs; simp at hs ⊢; omega
theorem kids2 {t : Tp} (h : t.k.count=2) : t.kids= [t.kid 0,t.kid 1]∧(t.kid 0).size+(t.kid 1).size+1=t.size:=by
 have hl:=kids_of t h;have hs:=t.kids_sum;unfold Tp.kid;match hk : t.kids,hl with
 | [a,b],_=>rw [hk] at hs; simp at hs ⊢; omega
theorem kids3 {t : Tp} (h : t.k.count=3) : t.kids= [t.kid 0,t.kid 1,t.kid 2]∧(t.kid 0).size+(t.kid 1).size+(t.kid 2).size+1=t.size:=by
 have hl:=kids_of t h;have hs:=t.kids_sum;unfold Tp.kid;match hk : t.kids,hl with
 | [a,b,c],_=>rw [hk] at hs; simp at hs ⊢; omega
theorem kidsM {t : Tp} (h : 2≤t.k.count) : t.kids=t.kid 0::t.kid 1::t.kids.drop 2∧(t.kid 0).size+(t.kid 1).size+((t.kids.drop 2).map Tp.size).sum+1=t.size:=by
 have hl:=t.kids_len;have hs:=t.kids_sum;unfold Tp.kid;match hk : t.kids with
 | []=>rw [hk] at hl; simp at hl; omega
 | [a]=>rw [hk] at hl; simp at hl; omega
 | a::b::r=>rw [hk] at hs; simp at hs ⊢; omega
theorem arity_at {t : Tp} (h : Good t) : arityZ t.n.kind≠ -1∧(arityZ t.n.kind= -2→2≤t.k.count∧t.k.count≤6)∧(arityZ t.n.kind≠ -2→(t.k.count : Int)=arityZ t.n.kind):=by
 have h1:=h.own;have h2:=h.kids;unfold kidsOk at h1;split at h1
 ·cases h1
 ·rename_i e;refine⟨e,fun e2=>?_,fun e2=>?_⟩
  ·rw [if_pos e2] at h1;have:=of_decide_eq_true h1;omega
  ·rw [if_neg e2] at h1;have:=of_decide_eq_true h1;omega
theorem z20 {t : Tp} (h : Good t) {k : Int} (hk : t.n.kind=k) (ha : arityZ k=(c : Int)) : t.k.count=c:=by
 have h3:=(arity_at h).2.2;rw [hk] at h3;have:=h3 (by omega);omega
section
variable {ns : List Nd} {K : Nat} {es : List Ef}
theorem Tp.size_pos (t : Tp) : 1≤t.size:=by unfold Tp.size; omega
theorem sum_mem (l : List Tp) (c : Tp) (h : c∈l) : c.size≤(l.map Tp.size).sum:=by
 induction l with
 | nil=>simp at h
 | cons a l ih=>
   simp only [List.map_cons,List.sum_cons];rw [List.mem_cons] at h;rcases h with rfl | h
   ·omega
   ·have:=ih h; omega
end
end
end Go.Proofs.YtfbojelpdccjaaaGreatDoor
