import Derived.Deep.CutRange
import Derived.Deep.CutBlock
import Derived.Test.YtfbojelpdccjaaaGreatDoorPkB7
import Derived.Test.YtfbojelpdccjaaaGreatDoorPkB8
set_option maxHeartbeats 16000000
set_option maxRecDepth 100000
namespace Go.Proofs.YtfbojelpdccjaaaGreatDoor
open Go.RowKit Go.Deep
variable {key : List UInt8}
section
open Go.RowKit Go.Deep
theorem z67 (s : ByteArray) : tx s.data.toList=s:=rfl
def ShowC (b off cap : Nat) (ns : List Nd) (F : Nat) : Prop:= ∀ (t : Tp) (least : Int) (W : World),t.size≤F→Stands ns t→Ex t→b < W.heap.size→NodesAt W b off ns→
 Calls Tryz.prog 22 #[.slice (some ⟨b,off,none⟩) ns.length cap,.int .i64 (t.at_ : Int),.int .i64 least] W fun e W'=> e= .returned (.string (tx (showZ F t least)))∧Below W.heap.size W W'
def BareP (W : World) (T : List UInt8) (e : Ending) (W' : World) : Prop:=e= .returned (.string (tx T))∧Below W.heap.size W W'
abbrev ndC (k : Int) (t : Tp) : Array Value:= #[.int .i64 k,.int .i64 t.n.num,.string t.n.a,.string t.n.b,.string t.n.c,.int .i64 t.n.kids]
structure PreB (b off : Nat) (ns : List Nd) (F : Nat) (t : Tp) (W : World) : Prop where
 hl : ns.length≤300
 hnt : ∀ m∈ns,Neat m
 hF : t.size≤F+1
 hs : Stands ns t
 hx : Ex t
 hb : b < W.heap.size
 hn : NodesAt W b off ns
structure PostB (b off : Nat) (ns : List Nd) (F : Nat) (t : Tp) (k : Int) (W Y : World) : Prop where
 P : PreB b off ns F t Y
 lo : Below W.heap.size W Y
 box : Y.heap[W.heap.size]? =some (.cells (ndC k t) 60)
section
variable {b off cap : Nat} {ns : List Nd} {F : Nat} {t : Tp} {W Y : World} {k : Int}
theorem PreB.below (P : PreB b off ns F t W) (h : Below W.heap.size W Y) : PreB b off ns F t Y:=
 ⟨P.hl,P.hnt,P.hF,P.hs,P.hx,Nat.lt_of_lt_of_le P.hb h.size,P.hn.below h P.hb⟩
theorem PreB.cells (P : PreB b off ns F t W) (ek : t.n.kind=k) : (W.cell? ⟨b,off+t.at_*6,none⟩=some (.int .i64 k)∧W.cell? ⟨b,off+t.at_*6+1,none⟩=some (.int .i64 t.n.num)∧W.cell? ⟨b,off+t.at_*6+2,none⟩=some (.string t.n.a)∧W.cell? ⟨b,off+t.at_*6+3,none⟩=some (.string t.n.b)∧W.cell? ⟨b,off+t.at_*6+4,none⟩=some (.string t.n.c)∧W.cell? ⟨b,off+t.at_*6+5,none⟩=some (.int .i64 t.n.kids))∧(0 : Int)≤(t.at_ : Int)∧(t.at_ : Int) < (ns.length : Int)∧t.n.a.size≤8∧t.n.b.size≤8:=by
 obtain⟨hlt,hat,-⟩:=P.hs.lt;have g:=P.hn t.at_ hlt;rw [hat] at g;have e0:=g 0 (by omega);rw [show t.n.cell 0= .int .i64 k from by rw [← ek]; rfl] at e0;have hN:=P.hs.neat P.hnt;exact⟨⟨e0,g 1 (by omega),g 2 (by omega),g 3 (by omega),g 4 (by omega),g 5 (by omega)⟩,by omega,by omega,hN.a,hN.b⟩
theorem PreB.start (P : PreB b off ns F t W) (_ : t.n.kind=k) : ∃ Y,Hid (W.alloc (.cells (ndC k t) 60)=Y)∧Hid (PostB b off ns F t k W Y):=by
 have h:=(Below.refl W.heap.size W).alloc (Nat.le_refl _) (.cells (ndC k t) 60);exact⟨_,rfl,P.below h,h,(MapKept.heap_alloc W (.cells (ndC k t) 60)).1⟩
theorem PreB.first (P : PreB b off ns F t W) (h : 1≤t.k.count) : Hid (wrap64 ((t.at_ : Int)+1)=((t.kid 0).at_ : Int)):=by
 show _=_;have:=P.hs.lt;have:=P.hl;rw [P.hs.first h];unfold wrap64;omega
theorem PreB.next (P : PreB b off ns F t W) : Hid (wrap64 ((t.at_ : Int)+1)=(t.at_ : Int)+1):=by
 show _=_;have:=P.hs.lt;have:=P.hl;unfold wrap64;omega
theorem PostB.at (R : PostB b off ns F t k W Y) {X : World} (h : Below Y.heap.size Y X) : X.cell? ⟨W.heap.size,0,none⟩=some (.int .i64 k)∧X.cell? ⟨W.heap.size,1,none⟩=some (.int .i64 t.n.num)∧X.cell? ⟨W.heap.size,2,none⟩=some (.string t.n.a)∧X.cell? ⟨W.heap.size,3,none⟩=some (.string t.n.b)∧X.cell? ⟨W.heap.size,4,none⟩=some (.string t.n.c)∧X.cell? ⟨W.heap.size,5,none⟩=some (.int .i64 t.n.kids):=by
 have g:=z8 ((h.block _ (z13 R.box)).trans R.box);exact⟨g 0,g 1,g 2,g 3,g 4,g 5⟩
theorem PostB.place (R : PostB b off ns F t k W Y) (j : Nat) (hj : j < t.k.count) : Hid (∀ X,Below Y.heap.size Y X→Calls Tryz.prog 83 #[.slice (some ⟨b,off,none⟩) ns.length cap,.int .i64 (t.at_ : Int),.int .i64 (j : Int)] X fun e X'=> e= .returned (.int .i64 ((t.kid j).at_ : Int))∧X=X'):=
 fun X hX=>kid_calls (cap:=cap) j X (R.P.hn.below hX R.P.hb) R.P.hl R.P.hs hj
theorem PostB.kid (R : PostB b off ns F t k W Y) (ih : ShowC b off cap ns F) (j : Nat) (l : Int) (hj : j < t.k.count) (hh : ¬ (t.n.kind=23∨t.n.kind=24)) : ∃ T,Hid (showZ F (t.kid j) l=T)∧(tx T).size≤18000∧Hid (∀ X,Below Y.heap.size Y X→Calls Tryz.prog 22 #[.slice (some ⟨b,off,none⟩) ns.length cap,.int .i64 ((t.kid j).at_ : Int),.int .i64 l] X (BareP X T)):=by
 have h1:=sum_mem t.kids _ (Tp.kid_mem hj);have h2:=t.kids_sum;have h3:=R.P.hF;have h4:=R.P.hs.lt.2.2;have h5:=R.P.hl;have he:=R.P.hx.1.ex hj (z15 hh _);have h6:=(z69 R.P.hnt F).1 (t.kid j) l (by omega) (R.P.hs.kid hj) he;exact⟨_,rfl,by rw [z26]; omega,fun X hX=>ih (t.kid j) l X (by omega) (R.P.hs.kid hj) he (Nat.lt_of_lt_of_le R.P.hb hX.size) (R.P.hn.below hX R.P.hb)⟩
theorem dec_calls (n : Int) (h0 : 0≤n) (h1 : n≤999999999) (w : World) : Calls Tryz.prog 82 #[.int .i64 n] w fun e w'=> e= .returned (.string (tx (Lib.itoa n)))∧Below w.heap.size w w':= by
 obtain⟨m,rfl⟩ : ∃ m : Nat,n=(m : Int):=⟨n.toNat,by omega⟩
 cases m with
 | zero=>
   refine (l2Dec_zero w).mono ?_;rintro e w' ⟨rfl,rfl⟩;refine⟨?_,Below.refl _ _⟩;unfold tx Lib.itoa;rw [if_neg (by omega)];rw [show ((0 : Nat) : Int).toNat=0 from rfl,Lib.decDigits_one (by omega)];rfl
 | succ u=>
   have e : Lib.itoa ((u+1 : Nat) : Int)=Lib.decDigits (u+1):=by
    unfold Lib.itoa;rw [if_neg (by omega),Int.toNat_natCast]
   rw [e];exact l2Dec_pos (u+1) w (by omega) (by omega)
theorem level_calls (k : Int) (W : World) : Calls Tryz.prog 46 #[.int .i64 k] W fun e W'=> e= .returned (.int .i64 (lvZ k))∧W=W':= by
 by_cases h : k=8∨k=9∨k=10∨k=6∨k=20∨k=19∨k=14∨k=15∨k=11∨k=12∨k=13∨k=7∨k=17∨k=18∨k=21∨k=22
 ·rcases h with rfl | rfl | rfl | rfl | rfl | rfl | rfl | rfl | rfl | rfl | rfl | rfl | rfl | rfl | rfl | rfl
  all_goals
   go_enter Tryz.func46,Tryz.ntmps46
   go_wp2_with fail
   go_ret;exact⟨rfl,rfl⟩
 ·have hz : lvZ k=6:=by unfold lvZ; rw [if_neg (by omega),if_neg (by omega),if_neg (by omega),if_neg (by omega),if_neg (by omega),if_neg (by omega)]
  simp only [not_or] at h;obtain⟨k8,k9,k10,k6,k20,k19,k14,k15,k11,k12,k13,k7,k17,k18,k21,k22⟩:=h;rw [hz];go_enter Tryz.func46,Tryz.ntmps46
  go_wp2_with fail
  go_ret;exact⟨rfl,rfl⟩
theorem two_calls (hl : ns.length≤300) (hnt : ∀ m∈ns,Neat m) (ih : ShowC b off cap ns F) (l r : Int) (sg : List UInt8) (hsg : sg.length≤8) (hF : t.size≤F+1) (hs : Stands ns t) (hx : Ex t) (hh : ¬ (t.n.kind=23∨t.n.kind=24)) (hc : t.k.count=2) (hb : b < W.heap.size) (hn : NodesAt W b off ns) :
 Calls Tryz.prog 84 #[.slice (some ⟨b,off,none⟩) ns.length cap,.int .i64 (t.at_ : Int),.int .i64 l,.string (tx sg),.int .i64 r] W (BareP W (showZ F (t.kid 0) l++ [32]++sg++ [32]++showZ F (t.kid 1) r)):=by
 have hsz:=hs.lt.2.2;have HZ : Hid ((t.kid 0).size+(t.kid 1).size+1=t.size∧1≤(t.kid 0).size∧1≤(t.kid 1).size∧t.size≤300):=⟨(kids2 hc).2,(t.kid 0).size_pos,(t.kid 1).size_pos,by omega⟩
 have HK0:=hid (kid_calls (cap:=cap) 0 W hn hl hs (by omega));have HS0:=hid (ih (t.kid 0) l W (by have:=HZ.out; omega) (hs.kid (by omega)) (hx.1.ex (by omega) (z15 hh _)) hb hn);have HK1:=hid (fun X (hX : Below W.heap.size W X)=>kid_calls (cap:=cap) 1 X (hn.below hX hb) hl hs (by omega));have HS1:=hid (fun X (hX : Below W.heap.size W X)=>ih (t.kid 1) r X (by have:=HZ.out; omega) (hs.kid (by omega)) (hx.1.ex (by omega) (z15 hh _)) (Nat.lt_of_lt_of_le hb hX.size) (hn.below hX hb));have h0:=(z69 hnt F).1 (t.kid 0) l (by have:=HZ.out; omega) (hs.kid (by omega)) (hx.1.ex (by omega) (z15 hh _))
 have h1:=(z69 hnt F).1 (t.kid 1) r (by have:=HZ.out; omega) (hs.kid (by omega)) (hx.1.ex (by omega) (z15 hh _));obtain⟨T0,hT0⟩ : ∃ T,showZ F (t.kid 0) l=T:=⟨_,rfl⟩
 obtain⟨T1,hT1⟩ : ∃ T,showZ F (t.kid 1) r=T:=⟨_,rfl⟩
 rw [hT0] at HS0 h0 ⊢;rw [hT1] at HS1 h1 ⊢;have l0 : (tx T0).size≤18000:=by rw [z26]; have:=HZ.out; omega
 have l1 : (tx T1).size≤18000:=by rw [z26]; have:=HZ.out; omega
 have l2 : (tx sg).size≤8:=by rw [z26]; exact hsg
 obtain⟨sb,hsb⟩ : ∃ sb,tx sg=sb:=⟨_,rfl⟩
 have HSB:=hid hsb;rw [hsb] at l2 ⊢;clear hl hnt ih hsg hF hs hx hh hc hb hn hsz h0 h1 hT0 hT1 hsb;go_enter Tryz.func84,Tryz.ntmps84
 go_wp2_with fail
 refine HK0.out.mono ?_;rintro e Xk ⟨rfl,rfl⟩;go_wp2_with fail
 refine HS0.out.mono ?_;rintro e X1 ⟨rfl,hb1⟩;have B1:=hid hb1;clear hb1;go_wp2_with fail
 refine (HK1.out X1 B1.out).mono ?_;rintro e Xk ⟨rfl,rfl⟩;go_wp2_with fail
 refine (HS1.out X1 B1.out).mono ?_;rintro e X2 ⟨rfl,hb2⟩;have B2:=hid (B1.out.trans (hb2.mono B1.out.size));clear hb2;go_wp2_with fail
 go_ret;refine⟨?_,B2.out⟩;simp only [← z23];rw [HSB.out];rfl
def handZ' (F : Nat) (t : Tp) (base : List UInt8) : Nat→List UInt8
 | 0=>base
 | j+1=>((t.kids.drop 2).take j).foldl (fun T c=>T++opT c (showZ F (c.kid 0) 0)) (base++retT (t.kid 1) (showZ F ((t.kid 1).kid 0) 0))
theorem handZ_next {F : Nat} {t : Tp} {base : List UInt8} {j : Nat} (h : j+2 < t.k.count) : handZ' F t base (j+2)=handZ' F t base (j+1)++opT (t.kid (2+j)) (showZ F ((t.kid (2+j)).kid 0) 0):=by
 have hl : j < (t.kids.drop 2).length:=by rw [List.length_drop,t.kids_len]; omega
 have hg : (t.kids.drop 2)[j]=t.kid (2+j):=by
  unfold Tp.kid;simp [List.getD,show 2+j < t.kids.length by rw [t.kids_len]; omega]
 show ((t.kids.drop 2).take (j+1)).foldl _ _=_;rw [List.take_add_one,List.getElem?_eq_getElem hl,hg,List.foldl_append];rfl
theorem handZ_all {F : Nat} {t : Tp} {base : List UInt8} (h : 2≤t.k.count) : handZ' F t base (t.k.count - 1)=(t.kids.drop 2).foldl (fun T c=>T++opT c (showZ F (c.kid 0) 0)) (base++retT (t.kid 1) (showZ F ((t.kid 1).kid 0) 0)):=by
 obtain⟨m,hm⟩ : ∃ m,t.k.count=m+2:=⟨t.k.count - 2,by omega⟩
 rw [hm,show m+2 - 1=m+1 by omega];show ((t.kids.drop 2).take m).foldl _ _=_;rw [List.take_of_length_le (by rw [List.length_drop,t.kids_len]; omega)]
theorem clause_at {t : Tp} (hs : Stands ns t) (hx : Ex t) (hh : t.n.kind=23∨t.n.kind=24) {i : Nat} (h1 : 1≤i) (hi : i < t.k.count) : Stands ns (t.kid i)∧(t.kid i).k.count=1∧Ex ((t.kid i).kid 0)∧((t.kid i).kid 0).size+1=(t.kid i).size:=by
 have hm : t.kid i∈t.kids.drop 1:=by
  have hl : i - 1 < (t.kids.drop 1).length:=by rw [List.length_drop,t.kids_len]; omega
  have hg : (t.kids.drop 1)[i - 1]=t.kid i:=by
   unfold Tp.kid;simp [List.getD,show i < t.kids.length by rw [t.kids_len]; omega];congr 1
   omega
  rw [← hg];exact List.getElem_mem hl
 have hc:=(hs.head hh _ hm).2;exact⟨hs.kid hi,hc,clause_ex hx.1 hi hc,(kids1 hc).2⟩
theorem handZ_len (hl : ns.length≤300) (hnt : ∀ m∈ns,Neat m) {t : Tp} (hs : Stands ns t) (hx : Ex t) (hh : t.n.kind=23∨t.n.kind=24) (hF : t.size≤F+1) {base : List UInt8} : ∀ j,j < t.k.count→(handZ' F t base j).length≤base.length+20000*j
 | 0,_=>Nat.le_add_right _ _
 | 1,h=>by
   obtain⟨c1,c2,c3,c4⟩:=clause_at hs hx hh (i:=1) (Nat.le_refl _) h;have hsz:=sum_mem t.kids _ (Tp.kid_mem h);have e:=t.kids_sum;have nt:=name_len ((c1.neat hnt).a);have g:=(z69 hnt F).1 ((t.kid 1).kid 0) 0 (by omega) (c1.kid (by omega)) c3;have hl2:=hs.lt.2.2;simp only [handZ',List.take_zero,List.foldl_nil,List.length_append,retT,List.length_cons,List.length_nil];omega
 | j+2,h=>by
   obtain⟨c1,c2,c3,c4⟩:=clause_at hs hx hh (i:=2+j) (by omega) (by omega);have hsz:=sum_mem t.kids _ (Tp.kid_mem (t:=t) (i:=2+j) (by omega));have e:=t.kids_sum;have nt:=c1.neat hnt;have na:=name_len nt.a;have nb:=name_len nt.b;have nc:=name_len nt.c;have g:=(z69 hnt F).1 ((t.kid (2+j)).kid 0) 0 (by omega) (c1.kid (by omega)) c3;have hl2:=hs.lt.2.2;have ih:=handZ_len hl hnt hs hx hh hF (base:=base) (j+1) (by omega);rw [handZ_next (by omega)];simp only [List.length_append,opT,List.length_cons,List.length_nil];omega
theorem hand_c (P : PreB b off ns F t W) (ih : ShowC b off cap ns F) (ek : t.n.kind=k) (hk : (k=23∧key= [104,97,110,100,108,101,32])∨(k=24∧key= [115,104,97,108,108,111,119,32])) :
 Calls Tryz.prog 85 #[.slice (some ⟨b,off,none⟩) ns.length cap,.int .i64 (t.at_ : Int)] W (BareP W (handT (showZ F) t)):=by
 obtain⟨hl,hnt,hF,hs,hx,hb,hn⟩:=P;rcases hk with ⟨rfl,hkey⟩ | ⟨rfl,hkey⟩
 all_goals
  have HKey:=hid hkey;have hkl : key.length≤8:=by rw [hkey]; decide
  obtain⟨hlt,hat,hsz⟩:=hs.lt;have hh : t.n.kind=23∨t.n.kind=24:=by omega
  have c0:=hn t.at_ hlt 0 (by omega);have c5:=hn t.at_ hlt 5 (by omega);rw [hat] at c0 c5;simp only [Nd.cell,Nat.add_zero] at c0 c5;rw [ek] at c0;have hgood:=hs.toGood;have har:=(arity_at hgood).2.1 (by rw [ek]; rfl);obtain⟨kc,hkc⟩ : ∃ kc : Nat,t.k.count=kc:=⟨_,rfl⟩
  rw [hs.kids,hkc] at c5;rw [hkc] at har;have HKc:=hid (And.intro hkc har);have HP1 : Hid (wrap64 ((t.at_ : Int)+1)=((t.kid 0).at_ : Int)):=by show _=_; rw [hs.first (by omega)]; unfold wrap64; omega
  have hsum:=(kidsM (t:=t) (by omega)).2;have HS0:=hid (ih (t.kid 0) 0 W (by omega) (hs.kid (by omega)) (hx.1.ex (by omega) (role_first _)) hb hn);have h0:=(z69 hnt F).1 (t.kid 0) 0 (by omega) (hs.kid (by omega)) (hx.1.ex (by omega) (role_first _));have hT : handT (showZ F) t=handZ' F t (key++showZ F (t.kid 0) 0++ [32,119,105,116,104]) (kc - 1)++ [32,101,110,100]:=by
   rw [← hkc,handZ_all (by omega),hkey];unfold handT;rw [ek];rfl
  obtain⟨T0,hT0⟩ : ∃ T,showZ F (t.kid 0) 0=T:=⟨_,rfl⟩
  rw [hT0] at HS0 h0 hT;have l0 : (tx T0).size≤18000:=by rw [z26]; omega
  obtain⟨base,hbase⟩ : ∃ x,key++T0++ [32,119,105,116,104]=x:=⟨_,rfl⟩
  have HBs:=hid hbase;have HBl : Hid (base.length≤18100):=by show _≤_; rw [← hbase]; simp only [List.length_append,List.length_cons,List.length_nil]; omega
  rw [hbase] at hT;rw [hT];have HLn:=hid (fun j (hj : j < kc)=>handZ_len (F:=F) (base:=base) hl hnt hs hx hh hF j (by omega));have HCl:=hid (fun i (h1 : 1≤i) (hi : i < kc)=>clause_at hs hx hh h1 (by omega));have HNx:=hid (fun j (hj : j+2 < kc)=>handZ_next (F:=F) (t:=t) (base:=base) (j:=j) (by omega));have HSu:=hid (fun i (hi : i < kc)=>sum_mem t.kids _ (Tp.kid_mem (t:=t) (i:=i) (by omega)));have HSm:=hid (And.intro t.kids_sum (And.intro hF hsz));have HK:=hid (fun (X : World) (i : Nat) (hX : Below W.heap.size W X) (hi : i < kc)=>kid_calls (cap:=cap) i X (hn.below hX hb) hl hs (by omega))
  have HI:=hid (fun (X : World) (c : Tp) (hX : Below W.heap.size W X) (h1 : c.size≤F) (h2 : Stands ns c) (h3 : Ex c)=>ih c 0 X h1 h2 h3 (Nat.lt_of_lt_of_le hb hX.size) (hn.below hX hb));have HN:=hid (fun (X : World) (hX : Below W.heap.size W X)=>hn.below hX hb);have HC0:=hid (fun (X : World) (hX : Below W.heap.size W X)=>(hX.cell (p:=⟨b,off+t.at_*6+5,none⟩) hb).trans c5);have HNt:=hid hnt;have HL:=hid hl;have hp0 : (0 : Int)≤(t.at_ : Int):=by omega
  have hpl : (t.at_ : Int) < (ns.length : Int):=by omega
  clear hl hnt ih hF hs hx hb hn hlt hat hsz hh hgood har hkc hsum h0 hT0 hbase hT ek hkey;go_enter Tryz.func85,Tryz.ntmps85
  go_wp2_with fail
  rw [HP1.out];refine HS0.out.mono ?_;rintro e X1 ⟨rfl,hb1⟩;have B1:=hid hb1;clear hb1 c0 c5 HS0;go_wp2_with fail
  go_loopw [5,6] (fun out i wr=> ∃ (j : Nat) (z : Int),out= .string (tx (handZ' F t base j))∧i= .int .i64 z∧z=1+(j : Int)∧j+1≤kc∧Hid (Below W.heap.size W wr)) (fun _ i _=>kc - (intOf i).toNat)
  case atStart=>
   refine⟨0,1,?_,rfl,rfl,by have:=HKc.out; omega,B1⟩;show Value.string _=Value.string _;congr 1
   show _=tx base;rw [← HBs.out,HKey.out];simp only [← z23];rfl
  case round=>
   obtain⟨j,z,rfl,rfl,hzj,hj,HBr⟩:=hrel;have c5:=HC0.out wr HBr.out;by_cases hz : z < (kc : Int)
   ·have hjk : 1+j < kc:=by omega
    obtain⟨q1,q2,q3,q4⟩:=HCl.out (1+j) (by omega) hjk;have hsu:=HSu.out (1+j) hjk;have HKd:=hid (HK.out wr (1+j) HBr.out hjk);rw [show ((1+j : Nat) : Int)=z by omega] at HKd;have hln:=HLn.out j (by omega);obtain⟨c,hc⟩ : ∃ c,t.kid (1+j)=c:=⟨_,rfl⟩
    rw [hc] at q1 q2 q3 q4 hsu HKd;obtain⟨hl0,hl1,-⟩:=q1.lt;have hnc:=HN.out wr HBr.out;obtain⟨b0,b1,b2,b3,b4,b5⟩:=fsx (hnc c.at_ hl0);rw [hl1] at b0 b1 b2 b3 b4 b5;simp only [Nd.cell,Nat.add_zero] at b0 b1 b2 b3 b4 b5;have nt:=q1.neat HNt.out;have na : c.n.a.size≤8:=nt.a;have nb : c.n.b.size≤8:=nt.b;have nc : c.n.c.size≤8:=nt.c;have hc0 : (0 : Int)≤(c.at_ : Int):=by omega
    have hcl : (c.at_ : Int) < (ns.length : Int):=by omega
    have HP3 : Hid (wrap64 ((c.at_ : Int)+1)=((c.kid 0).at_ : Int)):=by show _=_; rw [q1.first (by omega)]; have:=HL.out; unfold wrap64; omega
    have g:=(z69 HNt.out F).1 (c.kid 0) 0 (by have:=HSm.out; omega) (q1.kid (by omega)) q3;have HIc:=hid (fun (X : World) (hX : Below W.heap.size W X)=>HI.out X (c.kid 0) hX (by have:=HSm.out; omega) (q1.kid (by omega)) q3);obtain⟨Tc,hTc⟩ : ∃ T,showZ F (c.kid 0) 0=T:=⟨_,rfl⟩
    rw [hTc] at g HIc;have HTc:=hid hTc;have lc : (tx Tc).size≤18000:=by rw [z26]; have:=HSm.out; have:=HL.out; omega
    have HV1 : Hid (Below W.heap.size W (wr.alloc (.cells #[.int .i64 c.n.kind,.int .i64 c.n.num,.string c.n.a,.string c.n.b,.string c.n.c,.int .i64 c.n.kids] 60))):=HBr.out.alloc HBr.out.size _;have HVa:=hid (MapKept.heap_alloc wr (.cells #[.int .i64 c.n.kind,.int .i64 c.n.num,.string c.n.a,.string c.n.b,.string c.n.c,.int .i64 c.n.kids] 60)).1;obtain⟨V,hV⟩ : ∃ V,wr.alloc (.cells #[.int .i64 c.n.kind,.int .i64 c.n.num,.string c.n.a,.string c.n.b,.string c.n.c,.int .i64 c.n.kids] 60)=V:=⟨_,rfl⟩
    rw [hV] at HV1 HVa;have HV:=hid hV;have HJ:=hid (And.intro hzj (And.intro hj hc));have HZs : Hid (wrap64 (z+1)=z+1):=by show _=_; have:=HKc.out; unfold wrap64; omega
    have hstep : kc - (intOf (.int .i64 (z+1))).toNat < kc - (intOf (.int .i64 z)).toNat:=by simp only [intOf]; omega
    obtain⟨TO,hTO⟩ : ∃ T,handZ' F t base j=T:=⟨_,rfl⟩
    rw [hTO] at hln ⊢;have HTO:=hid hTO;have lo : (tx TO).size≤200000:=by rw [z26]; have:=HBl.out; have:=HKc.out; omega
    clear hjk q1 q2 q3 q4 hsu hln hl0 hl1 hnc nt g hTc hV hj hTO hc hzj;go_wp2_with fail
    refine HKd.out.mono ?_;rintro e Xk ⟨rfl,rfl⟩;clear c5;go_upto_region 10 with fail
    rw [HV.out];clear HV b0 b1 b2 b3 b4 b5;have g2:=z8 HVa.out 2;have g3:=z8 HVa.out 3;have g4:=z8 HVa.out 4;simp at g2 g3 g4
    cases j with
    | zero=>
      have hz1 : z=1:=by have:=HJ.out.1; omega
      subst hz1;go_wp2_with fail
      rw [HP3.out];refine (HIc.out V HV1.out).mono ?_;rintro e X4 ⟨rfl,hb4⟩;have B4:=hid (HV1.out.trans (hb4.mono HV1.out.size));clear hb4 g2 g3 g4;go_wp2_with fail
      try rw [HZs.out]
      refine⟨⟨1,_,?_,rfl,by rfl,by have:=HKc.out; omega,B4⟩,hstep⟩;show Value.string _=Value.string _;congr 1
      show _=tx (base++retT (t.kid 1) (showZ F ((t.kid 1).kid 0) 0));have hc:=HJ.out.2.2;rw [show 1+0=1 from rfl] at hc;rw [hc,HTc.out,show base=TO from HTO.out];simp only [retT,← z23,z67,ByteArray.append_assoc];rfl
    | succ j=>
      have hz1 : (z==1)=false:=by have:=HJ.out.1; simp; omega
      go_wp2_with fail
      rw [HP3.out];refine (HIc.out V HV1.out).mono ?_;rintro e X4 ⟨rfl,hb4⟩;have B4:=hid (HV1.out.trans (hb4.mono HV1.out.size));clear hb4 g2 g3 g4;go_wp2_with fail
      try rw [HZs.out]
      refine⟨⟨j+2,_,?_,rfl,by have:=HJ.out.1; omega,by have:=HJ.out; omega,B4⟩,hstep⟩;show Value.string _=Value.string _;congr 1
      have hc:=HJ.out.2.2;rw [show 1+(j+1)=2+j by omega] at hc;rw [HNx.out j (by have:=HJ.out; omega),hc,HTc.out,HTO.out];simp only [opT,← z23,z67,ByteArray.append_assoc];rfl
   ·have ej : j=kc - 1:=by omega
    obtain⟨TO,hTO⟩ : ∃ T,handZ' F t base (kc - 1)=T:=⟨_,rfl⟩
    have hln:=HLn.out (kc - 1) (by have:=HKc.out; omega);rw [hTO] at hln;rw [ej,hTO];have lo : (tx TO).size≤200000:=by rw [z26]; have:=HBl.out; have:=HKc.out; omega
    have HTO:=hid hTO;clear hln hTO ej hzj hj;go_wp2_with fail
    go_ret;refine⟨?_,HBr.out⟩;simp only [← z23];rw [HTO.out];rfl
theorem bare_hand (P : PreB b off ns F t W) (ih : ShowC b off cap ns F) (ek : t.n.kind=k) (hk : (k=23∧key= [104,97,110,100,108,101,32])∨(k=24∧key= [115,104,97,108,108,111,119,32])) :
 Calls Tryz.prog 45 #[.slice (some ⟨b,off,none⟩) ns.length cap,.int .i64 (t.at_ : Int)] W (BareP W (handT (showZ F) t)):=by
 have HH:=hid (fun Y (R : PreB b off ns F t Y)=>hand_c (cap:=cap) R ih ek hk);have HP:=P.first (by have:=(arity_at P.hs.toGood).2.1 (by rw [ek]; rcases hk with h | h <;> (rw [h.1]; rfl)); omega)
 rcases hk with ⟨rfl,rfl⟩ | ⟨rfl,rfl⟩
 all_goals
  obtain⟨Y,HY,R⟩:=P.start ek;obtain⟨⟨c0,c1,c2,c3,c4,c5⟩,hp0,hpl,na,nb⟩:=P.cells ek;have B0:=hid (Below.refl Y.heap.size Y);clear P ek ih;go_enter Tryz.func45,Tryz.ntmps45
  go_upto_region 3 with fail
  rw [HY.out,HP.out];clear HY c0 c1 c2 c3 c4 c5;obtain⟨e0,e1,e2,e3,e4,e5⟩:=R.out.at B0.out;go_wp2_with fail
  clear e0 e1 e2 e3 e4 e5;refine (HH.out Y R.out.P).mono ?_;rintro e X1 ⟨rfl,hb⟩;have B1:=hid (B0.out.trans (hb.mono B0.out.size));clear hb;generalize hTT : handT (showZ F) t=TT;have HTT:=hid hTT;clear hTT HH;obtain⟨e0,e1,e2,e3,e4,e5⟩:=R.out.at B1.out;go_wp2_with fail
  clear e0 e1 e2 e3 e4 e5;go_ret;refine⟨?_,R.out.lo.trans (B1.out.mono R.out.lo.size)⟩;rw [HTT.out];rfl
theorem bare_c1 (P : PreB b off ns F t W) (ek : t.n.kind=1) :
 Calls Tryz.prog 45 #[.slice (some ⟨b,off,none⟩) ns.length cap,.int .i64 (t.at_ : Int)] W (BareP W (Lib.itoa t.n.num)):=by
 have HNu:=hid ((P.hs.neat P.hnt).num ek);obtain⟨Y,HY,R⟩:=P.start ek;obtain⟨⟨c0,c1,c2,c3,c4,c5⟩,hp0,hpl,na,nb⟩:=P.cells ek;have HP:=P.next;have B0:=hid (Below.refl Y.heap.size Y);clear P ek;go_enter Tryz.func45,Tryz.ntmps45
 go_upto_region 3 with fail
 rw [HY.out,HP.out];clear HY c0 c1 c2 c3 c4 c5;obtain⟨e0,e1,e2,e3,e4,e5⟩:=R.out.at B0.out;go_wp2_with fail
 clear e0 e1 e2 e3 e4 e5;refine (dec_calls t.n.num HNu.out.1 HNu.out.2 Y).mono ?_;rintro e X1 ⟨rfl,hb⟩;have B1:=hid (B0.out.trans (hb.mono B0.out.size));clear hb;generalize hTT : Lib.itoa t.n.num=TT;have HTT:=hid hTT;clear hTT;obtain⟨e0,e1,e2,e3,e4,e5⟩:=R.out.at B1.out;go_wp2_with fail
 clear e0 e1 e2 e3 e4 e5;go_ret;refine⟨?_,R.out.lo.trans (B1.out.mono R.out.lo.size)⟩;rw [HTT.out];rfl
theorem bare_c2 (P : PreB b off ns F t W) {u : Int} (ek : t.n.kind=2) (hu : t.n.num=u) (hk : (u=0∧key= [102,97,108,115,101])∨(u=1∧key= [116,114,117,101])) :
 Calls Tryz.prog 45 #[.slice (some ⟨b,off,none⟩) ns.length cap,.int .i64 (t.at_ : Int)] W (BareP W (key)):=by
 rcases hk with ⟨rfl,rfl⟩ | ⟨rfl,rfl⟩
 all_goals
  obtain⟨Y,HY,R⟩:=P.start ek;obtain⟨⟨c0,c1,c2,c3,c4,c5⟩,hp0,hpl,na,nb⟩:=P.cells ek;have HP:=P.next;have B0:=hid (Below.refl Y.heap.size Y);have hxl : W.heap.size < Y.heap.size:=z13 R.out.box;have hxn : W.heap.size≠Y.heap.size:=by omega
  have HU:=hid hu;clear P ek hu;go_enter Tryz.func45,Tryz.ntmps45
  go_upto_region 3 with fail
  rw [HY.out,HP.out];clear HY c0 c1 c2 c3 c4 c5;obtain⟨e0,e1,e2,e3,e4,e5⟩:=R.out.at B0.out;rw [HU.out] at e1;go_wp2_with fail
  go_ret;exact⟨rfl,R.out.lo.trans ((B0.out.alloc (Nat.le_refl _) _).mono R.out.lo.size)⟩
theorem bare_c3 (P : PreB b off ns F t W) (ek : t.n.kind=3) :
 Calls Tryz.prog 45 #[.slice (some ⟨b,off,none⟩) ns.length cap,.int .i64 (t.at_ : Int)] W (BareP W (text3 (showZ F) t)):=by
 obtain⟨Y,HY,R⟩:=P.start ek;obtain⟨⟨c0,c1,c2,c3,c4,c5⟩,hp0,hpl,na,nb⟩:=P.cells ek;have HP:=P.next;have B0:=hid (Below.refl Y.heap.size Y);clear P ek;go_enter Tryz.func45,Tryz.ntmps45
 go_upto_region 3 with fail
 rw [HY.out,HP.out];clear HY c0 c1 c2 c3 c4 c5;obtain⟨e0,e1,e2,e3,e4,e5⟩:=R.out.at B0.out;go_wp2_with fail
 clear e0 e1 e2 e3 e4 e5;go_ret;refine⟨?_,R.out.lo.trans (B0.out.mono R.out.lo.size)⟩;simp only [text3];rfl
theorem bare_c4 (P : PreB b off ns F t W) (ek : t.n.kind=4) :
 Calls Tryz.prog 45 #[.slice (some ⟨b,off,none⟩) ns.length cap,.int .i64 (t.at_ : Int)] W (BareP W (text4 (showZ F) t)):=by
 obtain⟨Y,HY,R⟩:=P.start ek;obtain⟨⟨c0,c1,c2,c3,c4,c5⟩,hp0,hpl,na,nb⟩:=P.cells ek;have HP:=P.next;have B0:=hid (Below.refl Y.heap.size Y);clear P ek;go_enter Tryz.func45,Tryz.ntmps45
 go_upto_region 3 with fail
 rw [HY.out,HP.out];clear HY c0 c1 c2 c3 c4 c5;obtain⟨e0,e1,e2,e3,e4,e5⟩:=R.out.at B0.out;go_wp2_with fail
 clear e0 e1 e2 e3 e4 e5;go_ret;refine⟨?_,R.out.lo.trans (B0.out.mono R.out.lo.size)⟩;simp only [text4];rfl
theorem bare_c5 (P : PreB b off ns F t W) (ek : t.n.kind=5) :
 Calls Tryz.prog 45 #[.slice (some ⟨b,off,none⟩) ns.length cap,.int .i64 (t.at_ : Int)] W (BareP W (text5 (showZ F) t)):=by
 obtain⟨Y,HY,R⟩:=P.start ek;obtain⟨⟨c0,c1,c2,c3,c4,c5⟩,hp0,hpl,na,nb⟩:=P.cells ek;have HP:=P.next;have B0:=hid (Below.refl Y.heap.size Y);clear P ek;go_enter Tryz.func45,Tryz.ntmps45
 go_upto_region 3 with fail
 rw [HY.out,HP.out];clear HY c0 c1 c2 c3 c4 c5;obtain⟨e0,e1,e2,e3,e4,e5⟩:=R.out.at B0.out;go_wp2_with fail
 clear e0 e1 e2 e3 e4 e5;go_ret;refine⟨?_,R.out.lo.trans (B0.out.mono R.out.lo.size)⟩;simp only [text5,z67];rfl
theorem bare_c6 (P : PreB b off ns F t W) (ih : ShowC b off cap ns F) (ek : t.n.kind=6) :
 Calls Tryz.prog 45 #[.slice (some ⟨b,off,none⟩) ns.length cap,.int .i64 (t.at_ : Int)] W (BareP W (text6 (showZ F) t)):=by
 obtain⟨Y,HY,R⟩:=P.start ek;obtain⟨⟨c0,c1,c2,c3,c4,c5⟩,hp0,hpl,na,nb⟩:=P.cells ek;have hc:=z20 P.hs.toGood ek (c:=1) rfl;have HP:=P.first (by omega);obtain⟨T0,HT0,hl0,K0⟩:=R.out.kid (cap:=cap) ih 0 0 (by omega) (by omega);have B0:=hid (Below.refl Y.heap.size Y);clear P ek hc ih;go_enter Tryz.func45,Tryz.ntmps45
 go_upto_region 3 with fail
 rw [HY.out,HP.out];clear HY c0 c1 c2 c3 c4 c5;obtain⟨e0,e1,e2,e3,e4,e5⟩:=R.out.at B0.out;go_upto_region 15 with fail
 have hb : Below Y.heap.size Y Y.drew:=(Below.refl _ _).drew;generalize hX1 : Y.drew=X1 at hb;have B1:=hid (B0.out.trans (hb.mono B0.out.size));clear hb;refine z27 (S:=fun w'=> w'.cell? ⟨W.heap.size,2,none⟩=some (.string t.n.a)) (by kernel_rfl) rfl rfl ?_;rw [hX1];clear hX1;clear e0 e1 e2 e3 e4 e5;refine pick_o 0 (.pointer (some ⟨W.heap.size,2,none⟩)) (R.out.at B1.out).2.2.1 ?_;refine pick_o (hy:=fun w' h=>by simp [go_sem,h]) 1 (.string t.n.a) (R.out.at B1.out).2.2.1 ?_
 refine z10 (i:=2) (v:= .string ((⟨#[102,110,32]⟩ : ByteArray)++t.n.a)) (by kernel_rfl) rfl (by kernel_rfl) (by kernel_rfl) rfl rfl (fun w' _=>by simp [go_sem]; omega) (R.out.at B1.out).2.2.1 (by simp [go_sem]; exact rfl) ?_;refine z10 (i:=3) (v:= .string (((⟨#[102,110,32]⟩ : ByteArray)++t.n.a)++(⟨#[32,45,62,32]⟩ : ByteArray))) (by kernel_rfl) rfl (by kernel_rfl) (by kernel_rfl) rfl rfl (fun w' _=>by simp [go_sem]; omega) (R.out.at B1.out).2.2.1 (by simp [go_sem]; exact rfl) ?_;refine pick_o 4 (.slice (some ⟨b,off,none⟩) ns.length cap) (R.out.at B1.out).2.2.1 ?_
 refine pick_o 5 (.int .i64 ((t.kid 0).at_ : Int)) (R.out.at B1.out).2.2.1 ?_;refine z16 (i:=6) (f:=22) (args:= #[.slice (some ⟨b,off,none⟩) ns.length cap,.int .i64 ((t.kid 0).at_ : Int),.int .i64 0]) rfl (by kernel_rfl) rfl rfl (by simp [go_sem]) ?_;refine (K0.out X1 B1.out).mono ?_;rintro e X2 ⟨rfl,hb⟩;have B2:=hid (B1.out.trans (hb.mono B1.out.size));clear hb;refine⟨_,rfl,(R.out.at B2.out).2.2.1,?_⟩;refine z14 (by simp [go_sem]; exact rfl) ?_
 refine z10 (i:=7) (v:= .string ((((⟨#[102,110,32]⟩ : ByteArray)++t.n.a)++(⟨#[32,45,62,32]⟩ : ByteArray))++tx T0)) (by kernel_rfl) rfl (by kernel_rfl) (by kernel_rfl) rfl rfl (fun w' _=>by simp [go_sem]; omega) (R.out.at B2.out).2.2.1 (by simp [go_sem]; exact rfl) ?_;refine pick_o 8 (.string ((((⟨#[102,110,32]⟩ : ByteArray)++t.n.a)++(⟨#[32,45,62,32]⟩ : ByteArray))++tx T0)) (R.out.at B2.out).2.2.1 ?_;refine z24 (by kernel_rfl) ?_;obtain⟨e0,e1,e2,e3,e4,e5⟩:=R.out.at B2.out;go_wp2_with fail
 clear e0 e1 e2 e3 e4 e5;go_ret;refine⟨?_,R.out.lo.trans (B2.out.mono R.out.lo.size)⟩;simp only [text6,← z23,z67];rw [HT0.out];rfl
theorem bare_c7 (P : PreB b off ns F t W) (ih : ShowC b off cap ns F) (ek : t.n.kind=7) :
 Calls Tryz.prog 45 #[.slice (some ⟨b,off,none⟩) ns.length cap,.int .i64 (t.at_ : Int)] W (BareP W (text7 (showZ F) t)):=by
 obtain⟨Y,HY,R⟩:=P.start ek;obtain⟨⟨c0,c1,c2,c3,c4,c5⟩,hp0,hpl,na,nb⟩:=P.cells ek;have hc:=z20 P.hs.toGood ek (c:=2) rfl;have HP:=P.first (by omega);obtain⟨T0,HT0,hl0,K0⟩:=R.out.kid (cap:=cap) ih 0 5 (by omega) (by omega);obtain⟨T1,HT1,hl1,K1⟩:=R.out.kid (cap:=cap) ih 1 6 (by omega) (by omega);have D1:=R.out.place (cap:=cap) 1 (by omega);have B0:=hid (Below.refl Y.heap.size Y);clear P ek hc ih;go_enter Tryz.func45,Tryz.ntmps45
 go_upto_region 3 with fail
 rw [HY.out,HP.out];clear HY c0 c1 c2 c3 c4 c5;obtain⟨e0,e1,e2,e3,e4,e5⟩:=R.out.at B0.out;go_wp2_with fail
 clear e0 e1 e2 e3 e4 e5;refine (K0.out Y B0.out).mono ?_;rintro e X1 ⟨rfl,hb⟩;have B1:=hid (B0.out.trans (hb.mono B0.out.size));clear hb;obtain⟨e0,e1,e2,e3,e4,e5⟩:=R.out.at B1.out;go_wp2_with fail
 clear e0 e1 e2 e3 e4 e5;refine (D1.out X1 B1.out).mono ?_;rintro e Xk ⟨rfl,rfl⟩;go_wp2_with fail
 refine (K1.out X1 B1.out).mono ?_;rintro e X2 ⟨rfl,hb⟩;have B2:=hid (B1.out.trans (hb.mono B1.out.size));clear hb;obtain⟨e0,e1,e2,e3,e4,e5⟩:=R.out.at B2.out;go_wp2_with fail
 clear e0 e1 e2 e3 e4 e5;go_ret;refine⟨?_,R.out.lo.trans (B2.out.mono R.out.lo.size)⟩;simp only [text7,← z23];rw [HT0.out,HT1.out];rfl
theorem bare_c8 (P : PreB b off ns F t W) (ih : ShowC b off cap ns F) (ek : t.n.kind=8) :
 Calls Tryz.prog 45 #[.slice (some ⟨b,off,none⟩) ns.length cap,.int .i64 (t.at_ : Int)] W (BareP W (text8 (showZ F) t)):=by
 obtain⟨Y,HY,R⟩:=P.start ek;obtain⟨⟨c0,c1,c2,c3,c4,c5⟩,hp0,hpl,na,nb⟩:=P.cells ek;have hc:=z20 P.hs.toGood ek (c:=2) rfl;have HP:=P.first (by omega);obtain⟨T0,HT0,hl0,K0⟩:=R.out.kid (cap:=cap) ih 0 0 (by omega) (by omega);obtain⟨T1,HT1,hl1,K1⟩:=R.out.kid (cap:=cap) ih 1 0 (by omega) (by omega);have D1:=R.out.place (cap:=cap) 1 (by omega);have B0:=hid (Below.refl Y.heap.size Y);clear P ek hc ih;go_enter Tryz.func45,Tryz.ntmps45
 go_upto_region 3 with fail
 rw [HY.out,HP.out];clear HY c0 c1 c2 c3 c4 c5;obtain⟨e0,e1,e2,e3,e4,e5⟩:=R.out.at B0.out;go_upto_region 19 with fail
 have hb : Below Y.heap.size Y Y.drew:=(Below.refl _ _).drew;generalize hX1 : Y.drew=X1 at hb;have B1:=hid (B0.out.trans (hb.mono B0.out.size));clear hb;refine z27 (S:=fun w'=> w'.cell? ⟨W.heap.size,2,none⟩=some (.string t.n.a)) (by kernel_rfl) rfl rfl ?_;rw [hX1];clear hX1;clear e0 e1 e2 e3 e4 e5;refine pick_o 0 (.pointer (some ⟨W.heap.size,2,none⟩)) (R.out.at B1.out).2.2.1 ?_;refine pick_o (hy:=fun w' h=>by simp [go_sem,h]) 1 (.string t.n.a) (R.out.at B1.out).2.2.1 ?_
 refine z10 (i:=2) (v:= .string ((⟨#[108,101,116,32]⟩ : ByteArray)++t.n.a)) (by kernel_rfl) rfl (by kernel_rfl) (by kernel_rfl) rfl rfl (fun w' _=>by simp [go_sem]; omega) (R.out.at B1.out).2.2.1 (by simp [go_sem]; exact rfl) ?_;refine z10 (i:=3) (v:= .string (((⟨#[108,101,116,32]⟩ : ByteArray)++t.n.a)++(⟨#[32,61,32]⟩ : ByteArray))) (by kernel_rfl) rfl (by kernel_rfl) (by kernel_rfl) rfl rfl (fun w' _=>by simp [go_sem]; omega) (R.out.at B1.out).2.2.1 (by simp [go_sem]; exact rfl) ?_;refine pick_o 4 (.slice (some ⟨b,off,none⟩) ns.length cap) (R.out.at B1.out).2.2.1 ?_
 refine pick_o 5 (.int .i64 ((t.kid 0).at_ : Int)) (R.out.at B1.out).2.2.1 ?_;refine pick_o 9 (.slice (some ⟨b,off,none⟩) ns.length cap) (R.out.at B1.out).2.2.1 ?_;refine pick_o 10 (.slice (some ⟨b,off,none⟩) ns.length cap) (R.out.at B1.out).2.2.1 ?_;refine pick_o 11 (.int .i64 (t.at_ : Int)) (R.out.at B1.out).2.2.1 ?_;refine z16 (i:=6) (f:=22) (args:= #[.slice (some ⟨b,off,none⟩) ns.length cap,.int .i64 ((t.kid 0).at_ : Int),.int .i64 0]) rfl (by kernel_rfl) rfl rfl (by simp [go_sem]) ?_;refine (K0.out X1 B1.out).mono ?_;rintro e X2 ⟨rfl,hb⟩;have B2:=hid (B1.out.trans (hb.mono B1.out.size))
 clear hb;refine⟨_,rfl,(R.out.at B2.out).2.2.1,?_⟩;refine z14 (by simp [go_sem]; exact rfl) ?_;refine z10 (i:=7) (v:= .string ((((⟨#[108,101,116,32]⟩ : ByteArray)++t.n.a)++(⟨#[32,61,32]⟩ : ByteArray))++tx T0)) (by kernel_rfl) rfl (by kernel_rfl) (by kernel_rfl) rfl rfl (fun w' _=>by simp [go_sem]; omega) (R.out.at B2.out).2.2.1 (by simp [go_sem]; exact rfl) ?_
 refine z10 (i:=8) (v:= .string (((((⟨#[108,101,116,32]⟩ : ByteArray)++t.n.a)++(⟨#[32,61,32]⟩ : ByteArray))++tx T0)++(⟨#[32,105,110,32]⟩ : ByteArray))) (by kernel_rfl) rfl (by kernel_rfl) (by kernel_rfl) rfl rfl (fun w' _=>by simp [go_sem]; omega) (R.out.at B2.out).2.2.1 (by simp [go_sem]; exact rfl) ?_;refine z16 (i:=12) (f:=83) (args:= #[.slice (some ⟨b,off,none⟩) ns.length cap,.int .i64 (t.at_ : Int),.int .i64 1]) rfl (by kernel_rfl) rfl rfl (by simp [go_sem]) ?_;refine (D1.out X2 B2.out).mono ?_;rintro e Xk ⟨rfl,rfl⟩;refine⟨_,rfl,(R.out.at B2.out).2.2.1,?_⟩
 refine z14 (by simp [go_sem]; exact rfl) ?_;refine z16 (i:=13) (f:=22) (args:= #[.slice (some ⟨b,off,none⟩) ns.length cap,.int .i64 ((t.kid 1).at_ : Int),.int .i64 0]) rfl (by kernel_rfl) rfl rfl (by simp [go_sem]) ?_;refine (K1.out X2 B2.out).mono ?_;rintro e X3 ⟨rfl,hb⟩;have B3:=hid (B2.out.trans (hb.mono B2.out.size));clear hb;refine⟨_,rfl,(R.out.at B3.out).2.2.1,?_⟩;refine z14 (by simp [go_sem]; exact rfl) ?_
 refine z10 (i:=14) (v:= .string ((((((⟨#[108,101,116,32]⟩ : ByteArray)++t.n.a)++(⟨#[32,61,32]⟩ : ByteArray))++tx T0)++(⟨#[32,105,110,32]⟩ : ByteArray))++tx T1)) (by kernel_rfl) rfl (by kernel_rfl) (by kernel_rfl) rfl rfl (fun w' _=>by simp [go_sem]; omega) (R.out.at B3.out).2.2.1 (by simp [go_sem]; exact rfl) ?_;refine pick_o 15 (.string ((((((⟨#[108,101,116,32]⟩ : ByteArray)++t.n.a)++(⟨#[32,61,32]⟩ : ByteArray))++tx T0)++(⟨#[32,105,110,32]⟩ : ByteArray))++tx T1)) (R.out.at B3.out).2.2.1 ?_;refine z24 (by kernel_rfl) ?_;obtain⟨e0,e1,e2,e3,e4,e5⟩:=R.out.at B3.out;go_wp2_with fail
 clear e0 e1 e2 e3 e4 e5;go_ret;refine⟨?_,R.out.lo.trans (B3.out.mono R.out.lo.size)⟩;simp only [text8,← z23,z67];rw [HT0.out,HT1.out];rfl
theorem bare_c9 (P : PreB b off ns F t W) (ih : ShowC b off cap ns F) (ek : t.n.kind=9) :
 Calls Tryz.prog 45 #[.slice (some ⟨b,off,none⟩) ns.length cap,.int .i64 (t.at_ : Int)] W (BareP W (text9 (showZ F) t)):=by
 obtain⟨Y,HY,R⟩:=P.start ek;obtain⟨⟨c0,c1,c2,c3,c4,c5⟩,hp0,hpl,na,nb⟩:=P.cells ek;have hc:=z20 P.hs.toGood ek (c:=2) rfl;have HP:=P.first (by omega);obtain⟨T0,HT0,hl0,K0⟩:=R.out.kid (cap:=cap) ih 0 0 (by omega) (by omega);obtain⟨T1,HT1,hl1,K1⟩:=R.out.kid (cap:=cap) ih 1 0 (by omega) (by omega);have D1:=R.out.place (cap:=cap) 1 (by omega);have B0:=hid (Below.refl Y.heap.size Y);clear P ek hc ih;go_enter Tryz.func45,Tryz.ntmps45
 go_upto_region 3 with fail
 rw [HY.out,HP.out];clear HY c0 c1 c2 c3 c4 c5;obtain⟨e0,e1,e2,e3,e4,e5⟩:=R.out.at B0.out;go_upto_region 21 with fail
 have hb : Below Y.heap.size Y Y.drew:=(Below.refl _ _).drew;generalize hX1 : Y.drew=X1 at hb;have B1:=hid (B0.out.trans (hb.mono B0.out.size));clear hb;refine z27 (S:=fun w'=> w'.cell? ⟨W.heap.size,2,none⟩=some (.string t.n.a)∧w'.cell? ⟨W.heap.size,3,none⟩=some (.string t.n.b)) (by kernel_rfl) rfl rfl ?_;rw [hX1];clear hX1;clear e0 e1 e2 e3 e4 e5;refine pick_o 0 (.pointer (some ⟨W.heap.size,2,none⟩)) ⟨(R.out.at B1.out).2.2.1,(R.out.at B1.out).2.2.2.1⟩ ?_;refine pick_o (hy:=fun w' h=>by simp [go_sem,h.1]) 1 (.string t.n.a) ⟨(R.out.at B1.out).2.2.1,(R.out.at B1.out).2.2.2.1⟩ ?_
 refine z10 (i:=2) (v:= .string ((⟨#[108,101,116,32,114,101,99,32]⟩ : ByteArray)++t.n.a)) (by kernel_rfl) rfl (by kernel_rfl) (by kernel_rfl) rfl rfl (fun w' _=>by simp [go_sem]; omega) ⟨(R.out.at B1.out).2.2.1,(R.out.at B1.out).2.2.2.1⟩ (by simp [go_sem]; exact rfl) ?_;refine z10 (i:=3) (v:= .string (((⟨#[108,101,116,32,114,101,99,32]⟩ : ByteArray)++t.n.a)++(⟨#[32]⟩ : ByteArray))) (by kernel_rfl) rfl (by kernel_rfl) (by kernel_rfl) rfl rfl (fun w' _=>by simp [go_sem]; omega) ⟨(R.out.at B1.out).2.2.1,(R.out.at B1.out).2.2.2.1⟩ (by simp [go_sem]; exact rfl) ?_
 refine pick_o 4 (.pointer (some ⟨W.heap.size,3,none⟩)) ⟨(R.out.at B1.out).2.2.1,(R.out.at B1.out).2.2.2.1⟩ ?_;refine pick_o (hy:=fun w' h=>by simp [go_sem,h.2]) 5 (.string t.n.b) ⟨(R.out.at B1.out).2.2.1,(R.out.at B1.out).2.2.2.1⟩ ?_;refine z10 (i:=6) (v:= .string ((((⟨#[108,101,116,32,114,101,99,32]⟩ : ByteArray)++t.n.a)++(⟨#[32]⟩ : ByteArray))++t.n.b)) (by kernel_rfl) rfl (by kernel_rfl) (by kernel_rfl) rfl rfl (fun w' _=>by simp [go_sem]; omega) ⟨(R.out.at B1.out).2.2.1,(R.out.at B1.out).2.2.2.1⟩ (by simp [go_sem]; exact rfl) ?_
 refine z10 (i:=7) (v:= .string (((((⟨#[108,101,116,32,114,101,99,32]⟩ : ByteArray)++t.n.a)++(⟨#[32]⟩ : ByteArray))++t.n.b)++(⟨#[32,61,32]⟩ : ByteArray))) (by kernel_rfl) rfl (by kernel_rfl) (by kernel_rfl) rfl rfl (fun w' _=>by simp [go_sem]; omega) ⟨(R.out.at B1.out).2.2.1,(R.out.at B1.out).2.2.2.1⟩ (by simp [go_sem]; exact rfl) ?_;refine pick_o 8 (.slice (some ⟨b,off,none⟩) ns.length cap) ⟨(R.out.at B1.out).2.2.1,(R.out.at B1.out).2.2.2.1⟩ ?_;refine pick_o 9 (.int .i64 ((t.kid 0).at_ : Int)) ⟨(R.out.at B1.out).2.2.1,(R.out.at B1.out).2.2.2.1⟩ ?_
 refine pick_o 13 (.slice (some ⟨b,off,none⟩) ns.length cap) ⟨(R.out.at B1.out).2.2.1,(R.out.at B1.out).2.2.2.1⟩ ?_;refine pick_o 14 (.slice (some ⟨b,off,none⟩) ns.length cap) ⟨(R.out.at B1.out).2.2.1,(R.out.at B1.out).2.2.2.1⟩ ?_;refine pick_o 15 (.int .i64 (t.at_ : Int)) ⟨(R.out.at B1.out).2.2.1,(R.out.at B1.out).2.2.2.1⟩ ?_;refine z16 (i:=10) (f:=22) (args:= #[.slice (some ⟨b,off,none⟩) ns.length cap,.int .i64 ((t.kid 0).at_ : Int),.int .i64 0]) rfl (by kernel_rfl) rfl rfl (by simp [go_sem]) ?_;refine (K0.out X1 B1.out).mono ?_;rintro e X2 ⟨rfl,hb⟩
 have B2:=hid (B1.out.trans (hb.mono B1.out.size));clear hb;refine⟨_,rfl,⟨(R.out.at B2.out).2.2.1,(R.out.at B2.out).2.2.2.1⟩,?_⟩;refine z14 (by simp [go_sem]; exact rfl) ?_;refine z10 (i:=11) (v:= .string ((((((⟨#[108,101,116,32,114,101,99,32]⟩ : ByteArray)++t.n.a)++(⟨#[32]⟩ : ByteArray))++t.n.b)++(⟨#[32,61,32]⟩ : ByteArray))++tx T0)) (by kernel_rfl) rfl (by kernel_rfl) (by kernel_rfl) rfl rfl (fun w' _=>by simp [go_sem]; omega) ⟨(R.out.at B2.out).2.2.1,(R.out.at B2.out).2.2.2.1⟩ (by simp [go_sem]; exact rfl) ?_
 refine z10 (i:=12) (v:= .string (((((((⟨#[108,101,116,32,114,101,99,32]⟩ : ByteArray)++t.n.a)++(⟨#[32]⟩ : ByteArray))++t.n.b)++(⟨#[32,61,32]⟩ : ByteArray))++tx T0)++(⟨#[32,105,110,32]⟩ : ByteArray))) (by kernel_rfl) rfl (by kernel_rfl) (by kernel_rfl) rfl rfl (fun w' _=>by simp [go_sem]; omega) ⟨(R.out.at B2.out).2.2.1,(R.out.at B2.out).2.2.2.1⟩ (by simp [go_sem]; exact rfl) ?_;refine z16 (i:=16) (f:=83) (args:= #[.slice (some ⟨b,off,none⟩) ns.length cap,.int .i64 (t.at_ : Int),.int .i64 1]) rfl (by kernel_rfl) rfl rfl (by simp [go_sem]) ?_;refine (D1.out X2 B2.out).mono ?_
 rintro e Xk ⟨rfl,rfl⟩;refine⟨_,rfl,⟨(R.out.at B2.out).2.2.1,(R.out.at B2.out).2.2.2.1⟩,?_⟩;refine z14 (by simp [go_sem]; exact rfl) ?_;refine z16 (i:=17) (f:=22) (args:= #[.slice (some ⟨b,off,none⟩) ns.length cap,.int .i64 ((t.kid 1).at_ : Int),.int .i64 0]) rfl (by kernel_rfl) rfl rfl (by simp [go_sem]) ?_;refine (K1.out X2 B2.out).mono ?_;rintro e X3 ⟨rfl,hb⟩;have B3:=hid (B2.out.trans (hb.mono B2.out.size));clear hb;refine⟨_,rfl,⟨(R.out.at B3.out).2.2.1,(R.out.at B3.out).2.2.2.1⟩,?_⟩;refine z14 (by simp [go_sem]; exact rfl) ?_
 refine z10 (i:=18) (v:= .string ((((((((⟨#[108,101,116,32,114,101,99,32]⟩ : ByteArray)++t.n.a)++(⟨#[32]⟩ : ByteArray))++t.n.b)++(⟨#[32,61,32]⟩ : ByteArray))++tx T0)++(⟨#[32,105,110,32]⟩ : ByteArray))++tx T1)) (by kernel_rfl) rfl (by kernel_rfl) (by kernel_rfl) rfl rfl (fun w' _=>by simp [go_sem]; omega) ⟨(R.out.at B3.out).2.2.1,(R.out.at B3.out).2.2.2.1⟩ (by simp [go_sem]; exact rfl) ?_
 refine pick_o 19 (.string ((((((((⟨#[108,101,116,32,114,101,99,32]⟩ : ByteArray)++t.n.a)++(⟨#[32]⟩ : ByteArray))++t.n.b)++(⟨#[32,61,32]⟩ : ByteArray))++tx T0)++(⟨#[32,105,110,32]⟩ : ByteArray))++tx T1)) ⟨(R.out.at B3.out).2.2.1,(R.out.at B3.out).2.2.2.1⟩ ?_;refine z24 (by kernel_rfl) ?_;obtain⟨e0,e1,e2,e3,e4,e5⟩:=R.out.at B3.out;go_wp2_with fail
 clear e0 e1 e2 e3 e4 e5;go_ret;refine⟨?_,R.out.lo.trans (B3.out.mono R.out.lo.size)⟩;simp only [text9,← z23,z67];rw [HT0.out,HT1.out];rfl
theorem bare_c10 (P : PreB b off ns F t W) (ih : ShowC b off cap ns F) (ek : t.n.kind=10) :
 Calls Tryz.prog 45 #[.slice (some ⟨b,off,none⟩) ns.length cap,.int .i64 (t.at_ : Int)] W (BareP W (text10 (showZ F) t)):=by
 obtain⟨Y,HY,R⟩:=P.start ek;obtain⟨⟨c0,c1,c2,c3,c4,c5⟩,hp0,hpl,na,nb⟩:=P.cells ek;have hc:=z20 P.hs.toGood ek (c:=3) rfl;have HP:=P.first (by omega);obtain⟨T0,HT0,hl0,K0⟩:=R.out.kid (cap:=cap) ih 0 0 (by omega) (by omega);obtain⟨T1,HT1,hl1,K1⟩:=R.out.kid (cap:=cap) ih 1 0 (by omega) (by omega);have D1:=R.out.place (cap:=cap) 1 (by omega);obtain⟨T2,HT2,hl2,K2⟩:=R.out.kid (cap:=cap) ih 2 0 (by omega) (by omega);have D2:=R.out.place (cap:=cap) 2 (by omega);have B0:=hid (Below.refl Y.heap.size Y);clear P ek hc ih;go_enter Tryz.func45,Tryz.ntmps45
 go_upto_region 3 with fail
 rw [HY.out,HP.out];clear HY c0 c1 c2 c3 c4 c5;obtain⟨e0,e1,e2,e3,e4,e5⟩:=R.out.at B0.out;go_wp2_with fail
 clear e0 e1 e2 e3 e4 e5;refine (K0.out Y B0.out).mono ?_;rintro e X1 ⟨rfl,hb⟩;have B1:=hid (B0.out.trans (hb.mono B0.out.size));clear hb;obtain⟨e0,e1,e2,e3,e4,e5⟩:=R.out.at B1.out;go_wp2_with fail
 clear e0 e1 e2 e3 e4 e5;refine (D1.out X1 B1.out).mono ?_;rintro e Xk ⟨rfl,rfl⟩;go_wp2_with fail
 refine (K1.out X1 B1.out).mono ?_;rintro e X2 ⟨rfl,hb⟩;have B2:=hid (B1.out.trans (hb.mono B1.out.size));clear hb;obtain⟨e0,e1,e2,e3,e4,e5⟩:=R.out.at B2.out;go_wp2_with fail
 clear e0 e1 e2 e3 e4 e5;refine (D2.out X2 B2.out).mono ?_;rintro e Xk ⟨rfl,rfl⟩;go_wp2_with fail
 refine (K2.out X2 B2.out).mono ?_;rintro e X3 ⟨rfl,hb⟩;have B3:=hid (B2.out.trans (hb.mono B2.out.size));clear hb;obtain⟨e0,e1,e2,e3,e4,e5⟩:=R.out.at B3.out;go_wp2_with fail
 clear e0 e1 e2 e3 e4 e5;go_ret;refine⟨?_,R.out.lo.trans (B3.out.mono R.out.lo.size)⟩;simp only [text10,← z23];rw [HT0.out,HT1.out,HT2.out];rfl
theorem bare_c16 (P : PreB b off ns F t W) (ih : ShowC b off cap ns F) (ek : t.n.kind=16) :
 Calls Tryz.prog 45 #[.slice (some ⟨b,off,none⟩) ns.length cap,.int .i64 (t.at_ : Int)] W (BareP W (text16 (showZ F) t)):=by
 obtain⟨Y,HY,R⟩:=P.start ek;obtain⟨⟨c0,c1,c2,c3,c4,c5⟩,hp0,hpl,na,nb⟩:=P.cells ek;have hc:=z20 P.hs.toGood ek (c:=2) rfl;have HP:=P.first (by omega);obtain⟨T0,HT0,hl0,K0⟩:=R.out.kid (cap:=cap) ih 0 0 (by omega) (by omega);obtain⟨T1,HT1,hl1,K1⟩:=R.out.kid (cap:=cap) ih 1 0 (by omega) (by omega);have D1:=R.out.place (cap:=cap) 1 (by omega);have B0:=hid (Below.refl Y.heap.size Y);clear P ek hc ih;go_enter Tryz.func45,Tryz.ntmps45
 go_upto_region 3 with fail
 rw [HY.out,HP.out];clear HY c0 c1 c2 c3 c4 c5;obtain⟨e0,e1,e2,e3,e4,e5⟩:=R.out.at B0.out;go_wp2_with fail
 clear e0 e1 e2 e3 e4 e5;refine (K0.out Y B0.out).mono ?_;rintro e X1 ⟨rfl,hb⟩;have B1:=hid (B0.out.trans (hb.mono B0.out.size));clear hb;obtain⟨e0,e1,e2,e3,e4,e5⟩:=R.out.at B1.out;go_wp2_with fail
 clear e0 e1 e2 e3 e4 e5;refine (D1.out X1 B1.out).mono ?_;rintro e Xk ⟨rfl,rfl⟩;go_wp2_with fail
 refine (K1.out X1 B1.out).mono ?_;rintro e X2 ⟨rfl,hb⟩;have B2:=hid (B1.out.trans (hb.mono B1.out.size));clear hb;obtain⟨e0,e1,e2,e3,e4,e5⟩:=R.out.at B2.out;go_wp2_with fail
 clear e0 e1 e2 e3 e4 e5;go_ret;refine⟨?_,R.out.lo.trans (B2.out.mono R.out.lo.size)⟩;simp only [text16,← z23];rw [HT0.out,HT1.out];rfl
theorem bare_c22 (P : PreB b off ns F t W) (ih : ShowC b off cap ns F) (ek : t.n.kind=22) :
 Calls Tryz.prog 45 #[.slice (some ⟨b,off,none⟩) ns.length cap,.int .i64 (t.at_ : Int)] W (BareP W (text22 (showZ F) t)):=by
 obtain⟨Y,HY,R⟩:=P.start ek;obtain⟨⟨c0,c1,c2,c3,c4,c5⟩,hp0,hpl,na,nb⟩:=P.cells ek;have hc:=z20 P.hs.toGood ek (c:=1) rfl;have HP:=P.first (by omega);obtain⟨T0,HT0,hl0,K0⟩:=R.out.kid (cap:=cap) ih 0 6 (by omega) (by omega);have B0:=hid (Below.refl Y.heap.size Y);clear P ek hc ih;go_enter Tryz.func45,Tryz.ntmps45
 go_upto_region 3 with fail
 rw [HY.out,HP.out];clear HY c0 c1 c2 c3 c4 c5;obtain⟨e0,e1,e2,e3,e4,e5⟩:=R.out.at B0.out;go_upto_region 45 with fail
 have hb : Below Y.heap.size Y Y.drew:=(Below.refl _ _).drew;generalize hX1 : Y.drew=X1 at hb;have B1:=hid (B0.out.trans (hb.mono B0.out.size));clear hb;refine z27 (S:=fun w'=> w'.cell? ⟨W.heap.size,2,none⟩=some (.string t.n.a)) (by kernel_rfl) rfl rfl ?_;rw [hX1];clear hX1;clear e0 e1 e2 e3 e4 e5;refine pick_o 0 (.pointer (some ⟨W.heap.size,2,none⟩)) (R.out.at B1.out).2.2.1 ?_;refine pick_o (hy:=fun w' h=>by simp [go_sem,h]) 1 (.string t.n.a) (R.out.at B1.out).2.2.1 ?_
 refine z10 (i:=2) (v:= .string ((⟨#[100,111,32]⟩ : ByteArray)++t.n.a)) (by kernel_rfl) rfl (by kernel_rfl) (by kernel_rfl) rfl rfl (fun w' _=>by simp [go_sem]; omega) (R.out.at B1.out).2.2.1 (by simp [go_sem]; exact rfl) ?_;refine z10 (i:=3) (v:= .string (((⟨#[100,111,32]⟩ : ByteArray)++t.n.a)++(⟨#[32]⟩ : ByteArray))) (by kernel_rfl) rfl (by kernel_rfl) (by kernel_rfl) rfl rfl (fun w' _=>by simp [go_sem]; omega) (R.out.at B1.out).2.2.1 (by simp [go_sem]; exact rfl) ?_;refine pick_o 4 (.slice (some ⟨b,off,none⟩) ns.length cap) (R.out.at B1.out).2.2.1 ?_
 refine pick_o 5 (.int .i64 ((t.kid 0).at_ : Int)) (R.out.at B1.out).2.2.1 ?_;refine z16 (i:=6) (f:=22) (args:= #[.slice (some ⟨b,off,none⟩) ns.length cap,.int .i64 ((t.kid 0).at_ : Int),.int .i64 6]) rfl (by kernel_rfl) rfl rfl (by simp [go_sem]) ?_;refine (K0.out X1 B1.out).mono ?_;rintro e X2 ⟨rfl,hb⟩;have B2:=hid (B1.out.trans (hb.mono B1.out.size));clear hb;refine⟨_,rfl,(R.out.at B2.out).2.2.1,?_⟩;refine z14 (by simp [go_sem]; exact rfl) ?_
 refine z10 (i:=7) (v:= .string ((((⟨#[100,111,32]⟩ : ByteArray)++t.n.a)++(⟨#[32]⟩ : ByteArray))++tx T0)) (by kernel_rfl) rfl (by kernel_rfl) (by kernel_rfl) rfl rfl (fun w' _=>by simp [go_sem]; omega) (R.out.at B2.out).2.2.1 (by simp [go_sem]; exact rfl) ?_;refine pick_o 8 (.string ((((⟨#[100,111,32]⟩ : ByteArray)++t.n.a)++(⟨#[32]⟩ : ByteArray))++tx T0)) (R.out.at B2.out).2.2.1 ?_;refine z24 (by kernel_rfl) ?_;obtain⟨e0,e1,e2,e3,e4,e5⟩:=R.out.at B2.out;go_wp2_with fail
 clear e0 e1 e2 e3 e4 e5;go_ret;refine⟨?_,R.out.lo.trans (B2.out.mono R.out.lo.size)⟩;simp only [text22,← z23,z67];rw [HT0.out];rfl
theorem bare_c20 (P : PreB b off ns F t W) (ih : ShowC b off cap ns F) (ek : t.n.kind=20) :
 Calls Tryz.prog 45 #[.slice (some ⟨b,off,none⟩) ns.length cap,.int .i64 (t.at_ : Int)] W (BareP W (text20 (showZ F) t)):=by
 obtain⟨Y,HY,R⟩:=P.start ek;obtain⟨⟨c0,c1,c2,c3,c4,c5⟩,hp0,hpl,na,nb⟩:=P.cells ek;have hc:=z20 P.hs.toGood ek (c:=3) rfl;have HP:=P.first (by omega);obtain⟨T0,HT0,hl0,K0⟩:=R.out.kid (cap:=cap) ih 0 0 (by omega) (by omega);obtain⟨T1,HT1,hl1,K1⟩:=R.out.kid (cap:=cap) ih 1 0 (by omega) (by omega);have D1:=R.out.place (cap:=cap) 1 (by omega);obtain⟨T2,HT2,hl2,K2⟩:=R.out.kid (cap:=cap) ih 2 0 (by omega) (by omega);have D2:=R.out.place (cap:=cap) 2 (by omega);have B0:=hid (Below.refl Y.heap.size Y);clear P ek hc ih;go_enter Tryz.func45,Tryz.ntmps45
 go_upto_region 3 with fail
 rw [HY.out,HP.out];clear HY c0 c1 c2 c3 c4 c5;obtain⟨e0,e1,e2,e3,e4,e5⟩:=R.out.at B0.out;go_upto_region 47 with fail
 have hb : Below Y.heap.size Y Y.drew:=(Below.refl _ _).drew;generalize hX1 : Y.drew=X1 at hb;have B1:=hid (B0.out.trans (hb.mono B0.out.size));clear hb;refine z27 (S:=fun w'=> w'.cell? ⟨W.heap.size,2,none⟩=some (.string t.n.a)∧w'.cell? ⟨W.heap.size,3,none⟩=some (.string t.n.b)) (by kernel_rfl) rfl rfl ?_;rw [hX1];clear hX1;clear e0 e1 e2 e3 e4 e5;refine pick_o 0 (.slice (some ⟨b,off,none⟩) ns.length cap) ⟨(R.out.at B1.out).2.2.1,(R.out.at B1.out).2.2.2.1⟩ ?_;refine pick_o 1 (.int .i64 ((t.kid 0).at_ : Int)) ⟨(R.out.at B1.out).2.2.1,(R.out.at B1.out).2.2.2.1⟩ ?_
 refine pick_o 5 (.slice (some ⟨b,off,none⟩) ns.length cap) ⟨(R.out.at B1.out).2.2.1,(R.out.at B1.out).2.2.2.1⟩ ?_;refine pick_o 6 (.slice (some ⟨b,off,none⟩) ns.length cap) ⟨(R.out.at B1.out).2.2.1,(R.out.at B1.out).2.2.2.1⟩ ?_;refine pick_o 7 (.int .i64 (t.at_ : Int)) ⟨(R.out.at B1.out).2.2.1,(R.out.at B1.out).2.2.2.1⟩ ?_;refine pick_o 12 (.pointer (some ⟨W.heap.size,2,none⟩)) ⟨(R.out.at B1.out).2.2.1,(R.out.at B1.out).2.2.2.1⟩ ?_;refine pick_o (hy:=fun w' h=>by simp [go_sem,h.1]) 13 (.string t.n.a) ⟨(R.out.at B1.out).2.2.1,(R.out.at B1.out).2.2.2.1⟩ ?_
 refine pick_o 16 (.pointer (some ⟨W.heap.size,3,none⟩)) ⟨(R.out.at B1.out).2.2.1,(R.out.at B1.out).2.2.2.1⟩ ?_;refine pick_o (hy:=fun w' h=>by simp [go_sem,h.2]) 17 (.string t.n.b) ⟨(R.out.at B1.out).2.2.1,(R.out.at B1.out).2.2.2.1⟩ ?_;refine pick_o 20 (.slice (some ⟨b,off,none⟩) ns.length cap) ⟨(R.out.at B1.out).2.2.1,(R.out.at B1.out).2.2.2.1⟩ ?_;refine pick_o 21 (.slice (some ⟨b,off,none⟩) ns.length cap) ⟨(R.out.at B1.out).2.2.1,(R.out.at B1.out).2.2.2.1⟩ ?_;refine pick_o 22 (.int .i64 (t.at_ : Int)) ⟨(R.out.at B1.out).2.2.1,(R.out.at B1.out).2.2.2.1⟩ ?_
 refine z16 (i:=2) (f:=22) (args:= #[.slice (some ⟨b,off,none⟩) ns.length cap,.int .i64 ((t.kid 0).at_ : Int),.int .i64 0]) rfl (by kernel_rfl) rfl rfl (by simp [go_sem]) ?_;refine (K0.out X1 B1.out).mono ?_;rintro e X2 ⟨rfl,hb⟩;have B2:=hid (B1.out.trans (hb.mono B1.out.size));clear hb;refine⟨_,rfl,⟨(R.out.at B2.out).2.2.1,(R.out.at B2.out).2.2.2.1⟩,?_⟩;refine z14 (by simp [go_sem]; exact rfl) ?_
 refine z10 (i:=3) (v:= .string ((⟨#[99,97,115,101,32]⟩ : ByteArray)++tx T0)) (by kernel_rfl) rfl (by kernel_rfl) (by kernel_rfl) rfl rfl (fun w' _=>by simp [go_sem]; omega) ⟨(R.out.at B2.out).2.2.1,(R.out.at B2.out).2.2.2.1⟩ (by simp [go_sem]; exact rfl) ?_;refine z10 (i:=4) (v:= .string (((⟨#[99,97,115,101,32]⟩ : ByteArray)++tx T0)++(⟨#[32,111,102,32,110,105,108,32,45,62,32]⟩ : ByteArray))) (by kernel_rfl) rfl (by kernel_rfl) (by kernel_rfl) rfl rfl (fun w' _=>by simp [go_sem]; omega) ⟨(R.out.at B2.out).2.2.1,(R.out.at B2.out).2.2.2.1⟩ (by simp [go_sem]; exact rfl) ?_
 refine z16 (i:=8) (f:=83) (args:= #[.slice (some ⟨b,off,none⟩) ns.length cap,.int .i64 (t.at_ : Int),.int .i64 1]) rfl (by kernel_rfl) rfl rfl (by simp [go_sem]) ?_;refine (D1.out X2 B2.out).mono ?_;rintro e Xk ⟨rfl,rfl⟩;refine⟨_,rfl,⟨(R.out.at B2.out).2.2.1,(R.out.at B2.out).2.2.2.1⟩,?_⟩;refine z14 (by simp [go_sem]; exact rfl) ?_;refine z16 (i:=9) (f:=22) (args:= #[.slice (some ⟨b,off,none⟩) ns.length cap,.int .i64 ((t.kid 1).at_ : Int),.int .i64 0]) rfl (by kernel_rfl) rfl rfl (by simp [go_sem]) ?_;refine (K1.out X2 B2.out).mono ?_;rintro e X3 ⟨rfl,hb⟩
 have B3:=hid (B2.out.trans (hb.mono B2.out.size));clear hb;refine⟨_,rfl,⟨(R.out.at B3.out).2.2.1,(R.out.at B3.out).2.2.2.1⟩,?_⟩;refine z14 (by simp [go_sem]; exact rfl) ?_;refine z10 (i:=10) (v:= .string ((((⟨#[99,97,115,101,32]⟩ : ByteArray)++tx T0)++(⟨#[32,111,102,32,110,105,108,32,45,62,32]⟩ : ByteArray))++tx T1)) (by kernel_rfl) rfl (by kernel_rfl) (by kernel_rfl) rfl rfl (fun w' _=>by simp [go_sem]; omega) ⟨(R.out.at B3.out).2.2.1,(R.out.at B3.out).2.2.2.1⟩ (by simp [go_sem]; exact rfl) ?_
 refine z10 (i:=11) (v:= .string (((((⟨#[99,97,115,101,32]⟩ : ByteArray)++tx T0)++(⟨#[32,111,102,32,110,105,108,32,45,62,32]⟩ : ByteArray))++tx T1)++(⟨#[32,124,32]⟩ : ByteArray))) (by kernel_rfl) rfl (by kernel_rfl) (by kernel_rfl) rfl rfl (fun w' _=>by simp [go_sem]; omega) ⟨(R.out.at B3.out).2.2.1,(R.out.at B3.out).2.2.2.1⟩ (by simp [go_sem]; exact rfl) ?_
 refine z10 (i:=14) (v:= .string ((((((⟨#[99,97,115,101,32]⟩ : ByteArray)++tx T0)++(⟨#[32,111,102,32,110,105,108,32,45,62,32]⟩ : ByteArray))++tx T1)++(⟨#[32,124,32]⟩ : ByteArray))++t.n.a)) (by kernel_rfl) rfl (by kernel_rfl) (by kernel_rfl) rfl rfl (fun w' _=>by simp [go_sem]; omega) ⟨(R.out.at B3.out).2.2.1,(R.out.at B3.out).2.2.2.1⟩ (by simp [go_sem]; exact rfl) ?_
 refine z10 (i:=15) (v:= .string (((((((⟨#[99,97,115,101,32]⟩ : ByteArray)++tx T0)++(⟨#[32,111,102,32,110,105,108,32,45,62,32]⟩ : ByteArray))++tx T1)++(⟨#[32,124,32]⟩ : ByteArray))++t.n.a)++(⟨#[32,58,58,32]⟩ : ByteArray))) (by kernel_rfl) rfl (by kernel_rfl) (by kernel_rfl) rfl rfl (fun w' _=>by simp [go_sem]; omega) ⟨(R.out.at B3.out).2.2.1,(R.out.at B3.out).2.2.2.1⟩ (by simp [go_sem]; exact rfl) ?_
 refine z10 (i:=18) (v:= .string ((((((((⟨#[99,97,115,101,32]⟩ : ByteArray)++tx T0)++(⟨#[32,111,102,32,110,105,108,32,45,62,32]⟩ : ByteArray))++tx T1)++(⟨#[32,124,32]⟩ : ByteArray))++t.n.a)++(⟨#[32,58,58,32]⟩ : ByteArray))++t.n.b)) (by kernel_rfl) rfl (by kernel_rfl) (by kernel_rfl) rfl rfl (fun w' _=>by simp [go_sem]; omega) ⟨(R.out.at B3.out).2.2.1,(R.out.at B3.out).2.2.2.1⟩ (by simp [go_sem]; exact rfl) ?_
 refine z10 (i:=19) (v:= .string (((((((((⟨#[99,97,115,101,32]⟩ : ByteArray)++tx T0)++(⟨#[32,111,102,32,110,105,108,32,45,62,32]⟩ : ByteArray))++tx T1)++(⟨#[32,124,32]⟩ : ByteArray))++t.n.a)++(⟨#[32,58,58,32]⟩ : ByteArray))++t.n.b)++(⟨#[32,45,62,32]⟩ : ByteArray))) (by kernel_rfl) rfl (by kernel_rfl) (by kernel_rfl) rfl rfl (fun w' _=>by simp [go_sem]; omega) ⟨(R.out.at B3.out).2.2.1,(R.out.at B3.out).2.2.2.1⟩ (by simp [go_sem]; exact rfl) ?_
 refine z16 (i:=23) (f:=83) (args:= #[.slice (some ⟨b,off,none⟩) ns.length cap,.int .i64 (t.at_ : Int),.int .i64 2]) rfl (by kernel_rfl) rfl rfl (by simp [go_sem]) ?_;refine (D2.out X3 B3.out).mono ?_;rintro e Xk ⟨rfl,rfl⟩;refine⟨_,rfl,⟨(R.out.at B3.out).2.2.1,(R.out.at B3.out).2.2.2.1⟩,?_⟩;refine z14 (by simp [go_sem]; exact rfl) ?_;refine z16 (i:=24) (f:=22) (args:= #[.slice (some ⟨b,off,none⟩) ns.length cap,.int .i64 ((t.kid 2).at_ : Int),.int .i64 0]) rfl (by kernel_rfl) rfl rfl (by simp [go_sem]) ?_;refine (K2.out X3 B3.out).mono ?_;rintro e X4 ⟨rfl,hb⟩
 have B4:=hid (B3.out.trans (hb.mono B3.out.size));clear hb;refine⟨_,rfl,⟨(R.out.at B4.out).2.2.1,(R.out.at B4.out).2.2.2.1⟩,?_⟩;refine z14 (by simp [go_sem]; exact rfl) ?_
 refine z10 (i:=25) (v:= .string ((((((((((⟨#[99,97,115,101,32]⟩ : ByteArray)++tx T0)++(⟨#[32,111,102,32,110,105,108,32,45,62,32]⟩ : ByteArray))++tx T1)++(⟨#[32,124,32]⟩ : ByteArray))++t.n.a)++(⟨#[32,58,58,32]⟩ : ByteArray))++t.n.b)++(⟨#[32,45,62,32]⟩ : ByteArray))++tx T2)) (by kernel_rfl) rfl (by kernel_rfl) (by kernel_rfl) rfl rfl (fun w' _=>by simp [go_sem]; omega) ⟨(R.out.at B4.out).2.2.1,(R.out.at B4.out).2.2.2.1⟩ (by simp [go_sem]; exact rfl) ?_
 refine pick_o 26 (.string ((((((((((⟨#[99,97,115,101,32]⟩ : ByteArray)++tx T0)++(⟨#[32,111,102,32,110,105,108,32,45,62,32]⟩ : ByteArray))++tx T1)++(⟨#[32,124,32]⟩ : ByteArray))++t.n.a)++(⟨#[32,58,58,32]⟩ : ByteArray))++t.n.b)++(⟨#[32,45,62,32]⟩ : ByteArray))++tx T2)) ⟨(R.out.at B4.out).2.2.1,(R.out.at B4.out).2.2.2.1⟩ ?_;refine z24 (by kernel_rfl) ?_;obtain⟨e0,e1,e2,e3,e4,e5⟩:=R.out.at B4.out;go_wp2_with fail
 clear e0 e1 e2 e3 e4 e5;go_ret;refine⟨?_,R.out.lo.trans (B4.out.mono R.out.lo.size)⟩;simp only [text20,← z23,z67];rw [HT0.out,HT1.out,HT2.out];rfl
theorem bare_sign (P : PreB b off ns F t W) {l r : Int} {sg : List UInt8} (ih : ShowC b off cap ns F) (ek : t.n.kind=k) (hk : (k=11∧l=3∧r=4∧sg= [43])∨(k=12∧l=3∧r=4∧sg= [45])∨(k=13∧l=4∧r=5∧sg= [42])∨(k=14∧l=3∧r=3∧sg= [61])∨(k=15∧l=3∧r=3∧sg= [60])∨(k=19∧l=2∧r=1∧sg= [58,58])) :
 Calls Tryz.prog 45 #[.slice (some ⟨b,off,none⟩) ns.length cap,.int .i64 (t.at_ : Int)] W (BareP W (showZ F (t.kid 0) l++ [32]++sg++ [32]++showZ F (t.kid 1) r)):=by
 have hc : t.k.count=2:=by rcases hk with h | h | h | h | h | h <;> exact z20 P.hs.toGood (ek.trans h.1) rfl
 have hsg : sg.length≤8:=by rcases hk with h | h | h | h | h | h <;> (rw [h.2.2.2]; decide)
 have HTw:=hid (fun Y (R : PreB b off ns F t Y)=>two_calls (cap:=cap) R.hl R.hnt ih l r sg hsg R.hF R.hs R.hx (by omega) hc R.hb R.hn);have HP:=P.first (by omega);clear hc hsg;rcases hk with ⟨rfl,rfl,rfl,rfl⟩ | ⟨rfl,rfl,rfl,rfl⟩ | ⟨rfl,rfl,rfl,rfl⟩ | ⟨rfl,rfl,rfl,rfl⟩ | ⟨rfl,rfl,rfl,rfl⟩ | ⟨rfl,rfl,rfl,rfl⟩
 all_goals
  obtain⟨Y,HY,R⟩:=P.start ek;obtain⟨⟨c0,c1,c2,c3,c4,c5⟩,hp0,hpl,na,nb⟩:=P.cells ek;have B0:=hid (Below.refl Y.heap.size Y);clear P ek ih;go_enter Tryz.func45,Tryz.ntmps45
  go_upto_region 3 with fail
  rw [HY.out,HP.out];clear HY c0 c1 c2 c3 c4 c5;obtain⟨e0,e1,e2,e3,e4,e5⟩:=R.out.at B0.out;go_wp2_with fail
  clear e0 e1 e2 e3 e4 e5;refine (HTw.out Y R.out.P).mono ?_;rintro e X1 ⟨rfl,hb⟩;have B1:=hid (B0.out.trans (hb.mono B0.out.size));clear hb;generalize hTT : showZ F (t.kid 0) _++_++_++_++showZ F (t.kid 1) _=TT;have HTT:=hid hTT;clear hTT HTw;obtain⟨e0,e1,e2,e3,e4,e5⟩:=R.out.at B1.out;go_wp2_with fail
  clear e0 e1 e2 e3 e4 e5;go_ret;refine⟨?_,R.out.lo.trans (B1.out.mono R.out.lo.size)⟩;rw [HTT.out];rfl
theorem bare_key (P : PreB b off ns F t W) (ih : ShowC b off cap ns F) (ek : t.n.kind=k) (hk : (k=17∧key= [102,115,116,32])∨(k=18∧key= [115,110,100,32])∨(k=21∧key= [112,114,105,110,116,32])) :
 Calls Tryz.prog 45 #[.slice (some ⟨b,off,none⟩) ns.length cap,.int .i64 (t.at_ : Int)] W (BareP W (key++showZ F (t.kid 0) 6)):=by
 rcases hk with ⟨rfl,rfl⟩ | ⟨rfl,rfl⟩ | ⟨rfl,rfl⟩
 all_goals
  obtain⟨Y,HY,R⟩:=P.start ek;obtain⟨⟨c0,c1,c2,c3,c4,c5⟩,hp0,hpl,na,nb⟩:=P.cells ek;have hc:=z20 P.hs.toGood ek (c:=1) rfl;have HP:=P.first (by omega);obtain⟨T0,HT0,hl0,K0⟩:=R.out.kid (cap:=cap) ih 0 6 (by omega) (by omega);have B0:=hid (Below.refl Y.heap.size Y);clear P ek hc ih;go_enter Tryz.func45,Tryz.ntmps45
  go_upto_region 3 with fail
  rw [HY.out,HP.out];clear HY c0 c1 c2 c3 c4 c5;obtain⟨e0,e1,e2,e3,e4,e5⟩:=R.out.at B0.out;go_wp2_with fail
  clear e0 e1 e2 e3 e4 e5;refine (K0.out Y B0.out).mono ?_;rintro e X1 ⟨rfl,hb⟩;have B1:=hid (B0.out.trans (hb.mono B0.out.size));clear hb;obtain⟨e0,e1,e2,e3,e4,e5⟩:=R.out.at B1.out;go_wp2_with fail
  clear e0 e1 e2 e3 e4 e5;go_ret;refine⟨?_,R.out.lo.trans (B1.out.mono R.out.lo.size)⟩;rw [HT0.out];rfl
end
end
end Go.Proofs.YtfbojelpdccjaaaGreatDoor
