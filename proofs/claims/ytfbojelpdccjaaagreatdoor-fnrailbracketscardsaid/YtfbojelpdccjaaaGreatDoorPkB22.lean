import Derived.Test.YtfbojelpdccjaaaGreatDoorPkB21
set_option maxHeartbeats 4000000
set_option maxRecDepth 100000
namespace Go.Proofs.YtfbojelpdccjaaaGreatDoor
open Go.RowKit Go.Deep
variable {s s1 : Cn} {d : Dr} {ks : List Kn} {n1 : List Nd} {C c c' t : Nat} {v v1 ve : Value} {W X : World}
section
open Go.RowKit Go.Deep
theorem knows_owns {B : Nat} (h : W.ownsRow B 189 3 v ks.length (rowZ Kn.cell 3 ks)) (hb : ∀ k∈ks,Brief k.name) (h1 : d.B < B) (h2 : d.G < B) : KnowsD d W v ks:=
 ⟨lies_owns (by decide) h h1 h2,hb⟩
theorem know_lit (W : World) (k : Kn) (h1 : d.B < W.heap.size) (h2 : d.G < W.heap.size) : Lies d (W.alloc (.cells #[.string k.name,.int .i64 k.ty,.int .i64 k.res] 189)) (.slice (some ⟨W.heap.size,0,none⟩) 1 1) [k].length 3 (fun i=>Kn.cell ([k].getD (i / 3) default) (i % 3)):=
 lies_lit (f:=Kn.cell) (sz:=3) (by decide) W 189 [k] _ rfl h1 h2
theorem kadd_step {wr W' : World} {acc : List Kn} {out v' : Value} {o : Obj} (h : wr.ownsRow W.heap.size 189 3 out acc.length (rowZ Kn.cell 3 acc)∧Below W.heap.size W wr∧ ∀ k∈acc,Brief k.name) (hk : ∀ k∈ks,Brief k.name) (h' : W'.ownsRow W.heap.size 189 3 v' (acc++ks).length (rowZ Kn.cell 3 (acc++ks))∧(wr.alloc o).grownBy W' out.ownBlock) :
 W'.ownsRow W.heap.size 189 3 v' (acc++ks).length (rowZ Kn.cell 3 (acc++ks))∧Below W.heap.size W W'∧ ∀ k∈acc++ks,Brief k.name:=
 ⟨h'.1,(h.2.1.alloc h.2.1.size o).grown h'.2 (by have:=h.2.1.size; simp; omega) (fun k hk=>(h.1.lt k hk).1),fun k hx=>by
  rw [List.mem_append] at hx;rcases hx with hx | hx
  ·exact h.2.2 k hx
  ·exact hk k hx⟩
theorem kadd_calls (nm : ByteArray) (ty res : Int) (W : World) (h1 : d.B < W.heap.size) (h2 : d.G < W.heap.size) (hk : KnowsD d W v ks) (hb : Brief nm) (hl : ks.length≤1000) :
 Calls Tryz.prog 108 #[v,.string nm,.int .i64 ty,.int .i64 res] W fun e W'=> ∃ u,e= .returned u∧ ∃ ks',KnowsD d W' u ks'∧ks'.length≤ks.length+1∧Below W.heap.size W W':= by
 obtain⟨L,hL⟩ : ∃ L,ks.length=L:=⟨_,rfl⟩
 have HK:=hid hk;have HL:=hid (And.intro hL (And.intro hl (And.intro hb (And.intro h1 h2))));obtain⟨ad,cp,rfl⟩:=hk.is;rw [hL] at HK ⊢;clear hk hb hl h1 h2 hL;obtain⟨i0,hinf,hz0,hz1,hz2⟩:=info_parts info_know;go_enter Tryz.func108,Tryz.ntmps108
 go_wp2_with fail
 go_loopw [9,10] (fun out i wr=> ∃ (i' : Nat) (acc : List Kn),i= .int .i64 i'∧i'≤L∧Hid (acc.length≤i')∧Hid (wr.ownsRow W.heap.size 189 3 out acc.length (rowZ Kn.cell 3 acc)∧Below W.heap.size W wr∧ ∀ k∈acc,Brief k.name)) (fun _ i _=>L - (intOf i).toNat)
 case atStart=>exact⟨0,[],rfl,Nat.zero_le _,Nat.zero_le _,World.ownsRow_nil _ _ _ _,Below.refl _ _,fun k hk=>by simp at hk⟩
 case round=>
  obtain⟨i',acc,rfl,hle,HA,HO⟩:=hrel;by_cases hi : (i' : Int) < (L : Int)
  ·obtain⟨b,off,xn,xt,xr,rfl,-,hbr,hq,c0,c1,c2⟩:=HK.out.at (i:=i') (by omega);have c0:=(HO.out.2.1.cell (p:=⟨b,off+i'* 3,none⟩) hq.1).trans c0;have c1:=(HO.out.2.1.cell (p:=⟨b,off+i'* 3+1,none⟩) hq.1).trans c1;have c2:=(HO.out.2.1.cell (p:=⟨b,off+i'* 3+2,none⟩) hq.1).trans c2;have hi0 : (0 : Int)≤(i' : Int):=by omega
   have hstep : L - (intOf (.int .i64 ((i'+ 1 : Nat) : Int))).toNat < L - (intOf (.int .i64 (i' : Int))).toNat:=z45 hi;have HBr : Hid (∀ k∈ [(⟨xn,xt,xr⟩ : Kn)],Brief k.name):=fun k hk=>by rw [List.mem_singleton] at hk; rw [hk]; exact hbr
   have HS:=hid (And.intro (show d.B < wr.heap.size by have:=HO.out.2.1.size; have:=HL.out; omega) (show d.G < wr.heap.size by have:=HO.out.2.1.size; have:=HL.out; omega));clear hbr hq;go_wp2_with (at_builtin; refine z21 rfl _ _ 140 rfl _ _ rfl rfl (fun ty=>app_row kn_one Tryz.underlying140 hinf hz0 hz1 hz2 rfl (by decide) (by decide) (HO.out.1.alloc _) (know_lit wr ⟨xn,xt,xr⟩ HS.out.1 HS.out.2) (by have:=HA.out; have:=HL.out; simp; omega) (by have:=HO.out.2.1.size; simp; omega) ty) ?_; intro v5 w5 hv5; have HO5:=hid (kadd_step HO.out HBr.out hv5); clear hv5)
   ·try rw [z17 (by have:=HL.out; omega)]
    exact⟨⟨i'+ 1,acc++ [⟨xn,xt,xr⟩],rfl,by omega,by show _≤_; have:=HA.out; simp; omega,HO5⟩,hstep⟩
   ·try rw [z17 (by have:=HL.out; omega)]
    exact⟨⟨i'+ 1,acc,rfl,by omega,by show _≤_; have:=HA.out; omega,HO⟩,hstep⟩
  ·have e : i'= L:=by omega
   subst e;have HBr : Hid (∀ k∈ [(⟨nm,ty,res⟩ : Kn)],Brief k.name):=fun k hk=>by rw [List.mem_singleton] at hk; rw [hk]; exact HL.out.2.2.1
   have HS:=hid (And.intro (show d.B < wr.heap.size by have:=HO.out.2.1.size; have:=HL.out; omega) (show d.G < wr.heap.size by have:=HO.out.2.1.size; have:=HL.out; omega));go_wp2_with (at_builtin; refine z21 rfl _ _ 140 rfl _ _ rfl rfl (fun ty_=>app_row kn_one Tryz.underlying140 hinf hz0 hz1 hz2 rfl (by decide) (by decide) (HO.out.1.alloc _) (know_lit wr ⟨nm,ty,res⟩ HS.out.1 HS.out.2) (by have:=HA.out; have:=HL.out; simp; omega) (by have:=HO.out.2.1.size; simp; omega) ty_) ?_; intro v5 w5 hv5; have HO5:=hid (kadd_step HO.out HBr.out hv5); clear hv5)
   go_ret;refine⟨_,rfl,acc++ [⟨nm,ty,res⟩],knows_owns HO5.out.1 HO5.out.2.2 HL.out.2.2.2.1 HL.out.2.2.2.2,?_,HO5.out.2.1⟩;have:=HA.out;simp;omega
def NodesPost (d : Dr) (ve : Value) (W : World) (s : Cn) (c : Nat) (e : Ending) (W' : World) : Prop:=
 ∃ v ns s' t,e= .returned v∧NodesD d W' v ns∧(1≤ns.length∧ns.length≤t)∧Gen d ve W' s'∧Grew d W W'∧Spent s s' t c
def NodesPost0 (d : Dr) (ve : Value) (W : World) (s : Cn) (c : Nat) (e : Ending) (W' : World) : Prop:=
 ∃ v ns s' t,e= .returned v∧NodesD d W' v ns∧ns.length≤t∧Gen d ve W' s'∧Grew d W W'∧Spent s s' t c
theorem nodes_none (d : Dr) (W : World) : NodesD d W (.slice none 0 0) []:=⟨Or.inl ⟨rfl,rfl⟩,fun n hn=>by simp at hn⟩
theorem Spent.refl (s : Cn) (c : Nat) : Spent s s 0 c:=⟨by omega,by omega,by omega,by omega,by omega⟩
theorem nd_lit (W : World) (n : Nd) (h1 : d.B < W.heap.size) (h2 : d.G < W.heap.size) (hb : Brief n.a∧Brief n.b∧Brief n.c) : NodesD d (W.alloc (.cells #[.int .i64 n.kind,.int .i64 n.num,.string n.a,.string n.b,.string n.c,.int .i64 n.kids] 60)) (.slice (some ⟨W.heap.size,0,none⟩) 1 1) [n]:=
 ⟨lies_lit (f:=Nd.cell) (sz:=6) (by decide) W 60 [n] _ rfl h1 h2,fun x hx=>by rw [List.mem_singleton] at hx; rw [hx]; exact hb⟩
theorem gknown_calls (ty : Int) (h : Gen d ve W s) (hp : s.p≤1000000) (hk : KnowsD d W v ks) (hl : ks.length≤1000) :
 Calls Tryz.prog 127 #[.pointer (some ⟨d.G,0,none⟩),v,.int .i64 ty] W (NodesPost0 d ve W s 1):=by
 obtain⟨L,hL⟩ : ∃ L,ks.length=L:=⟨_,rfl⟩
 have HK:=hid hk;have HG:=hid h;have HL:=hid (And.intro hL (And.intro hl hp));have g0:=h.c0;obtain⟨ad,cp,rfl⟩:=hk.is;rw [hL] at HK ⊢;obtain⟨G,hGe⟩ : ∃ G,d.G=G:=⟨_,rfl⟩
 have HGe:=hid hGe;obtain⟨B,hBe⟩ : ∃ B,d.B=B:=⟨_,rfl⟩
 have HBe:=hid hBe;rw [hGe,hBe] at g0;rw [hGe];clear hk hl hp hL h hGe hBe;go_enter Tryz.func127,Tryz.ntmps127
 go_wp2_with fail
 go_loopw [7,8] (fun n i wr=> ∃ (i' n' : Nat),n= .int .i64 n'∧i= .int .i64 i'∧i'≤L∧Hid (n'≤i')∧wr=W) (fun _ i _=>L - (intOf i).toNat)
 case atStart=>exact⟨0,0,rfl,rfl,Nat.zero_le _,Nat.zero_le _,rfl⟩
 case round=>
  obtain⟨i',n',rfl,rfl,hle,HN,rfl⟩:=hrel;by_cases hi : (i' : Int) < (L : Int)
  ·obtain⟨b,off,xn,xt,xr,rfl,-,-,hq,c0,c1,c2⟩:=HK.out.at (i:=i') (by omega);have hi0 : (0 : Int)≤(i' : Int):=by omega
   have hstep : L - (intOf (.int .i64 ((i'+ 1 : Nat) : Int))).toNat < L - (intOf (.int .i64 (i' : Int))).toNat:=z45 hi;clear hq c0 c2;go_wp2_with fail
   ·rw [z17 (x:=i') (by have:=HL.out; omega),z17 (x:=n') (by have:=HL.out; have:=HN.out; omega)];exact⟨⟨i'+ 1,n'+ 1,rfl,rfl,by omega,by show _≤_; have:=HN.out; omega,by first | rfl | trivial⟩,hstep⟩
   ·rw [z17 (x:=i') (by have:=HL.out; omega)];exact⟨⟨i'+ 1,n',rfl,rfl,by omega,by show _≤_; have:=HN.out; omega,by first | rfl | trivial⟩,hstep⟩
  ·rename World=>Wo
   by_cases hn0 : n'= 0
   ·subst hn0;go_wp2_with fail
    go_ret;exact⟨_,[],s,0,rfl,nodes_none _ _,by simp,HG.out,Grew.refl _ _,Spent.refl _ _⟩
   ·have hz : ((n' : Int)==0)=false:=by simp; omega
    have HP:=hid (gen_pick HG.out (by have:=HL.out; omega) (n' : Int) (by omega));rw [HBe.out] at HP;go_wp2_with fail
    refine HP.out.mono ?_;rintro e W2 ⟨k0,rfl,hk0,hk1,hg2,hgr2⟩;have HG2:=hid (And.intro hg2 hgr2);have HK2:=hid (HK.out.grew hgr2);have HKk : Hid (k0≤1000):=by show _≤_; have:=HL.out; have:=HN.out; omega
    clear HP hk1 hg2 hgr2 HK HG g0 hz hn0;go_wp2_with fail
    go_loopw [9,10] (fun k i wr=> ∃ (i' : Nat) (k' : Int),k= .int .i64 k'∧i= .int .i64 i'∧i'≤L∧0≤k'∧Hid (k'≤1000)∧wr=W2) (fun _ i _=>L - (intOf i).toNat)
    case atStart=>exact⟨0,k0,rfl,rfl,Nat.zero_le _,hk0,HKk,rfl⟩
    case round=>
     obtain⟨i2,k2,rfl,rfl,hle2,hk20,HK21,rfl⟩:=hrel;by_cases hi2 : (i2 : Int) < (L : Int)
     ·obtain⟨b,off,xn,xt,xr,rfl,-,hbr,hq,c0,c1,c2⟩:=HK2.out.at (i:=i2) (by omega);have HBr:=hid hbr;have hi0 : (0 : Int)≤(i2 : Int):=by omega
      have hstep : L - (intOf (.int .i64 ((i2+1 : Nat) : Int))).toNat < L - (intOf (.int .i64 (i2 : Int))).toNat:=z45 hi2;clear hq c2 hbr;by_cases hk2 : k2=0
      ·subst hk2;go_wp2_with fail
       ·go_ret;exact⟨_,[⟨5,0,xn,ByteArray.empty,ByteArray.empty,0⟩],_,1,rfl,nd_lit wr ⟨5,0,xn,ByteArray.empty,ByteArray.empty,0⟩ HG2.out.1.ltB HG2.out.1.ltG ⟨HBr.out,z11,z11⟩,by simp,HG2.out.1.alloc _,HG2.out.2.alloc _,by unfold Spent; dsimp only; omega⟩
       ·rw [z17 (x:=i2) (by have:=HL.out; omega)];exact⟨⟨i2+1,0,rfl,rfl,by omega,Int.le_refl _,by show _≤_; omega,by first | rfl | trivial⟩,hstep⟩
      ·have hz2 : (k2==0)=false:=by simp [hk2]
       have HW : Hid (wrap64 (k2 - 1)=k2 - 1):=by show _=_; have:=HK21.out; unfold wrap64; omega
       go_wp2_with fail
       ·rw [z17 (x:=i2) (by have:=HL.out; omega)];try rw [HW.out]
        exact⟨⟨i2+1,k2 - 1,rfl,rfl,by omega,by omega,by show _≤_; have:=HK21.out; omega,by first | rfl | trivial⟩,hstep⟩
       ·rw [z17 (x:=i2) (by have:=HL.out; omega)];exact⟨⟨i2+1,k2,rfl,rfl,by omega,hk20,HK21,by first | rfl | trivial⟩,hstep⟩
     ·go_wp2_with fail
      go_ret;exact⟨_,[],_,1,rfl,nodes_none _ _,by simp,HG2.out.1,HG2.out.2,by unfold Spent; dsimp only; omega⟩
def At (d : Dr) (ve : Value) (W : World) (s : Cn) (X : World) (s' : Cn) (t c : Nat) : Prop:=Gen d ve X s'∧Grew d W X∧Spent s s' t c
theorem Spent.trans {s2 : Cn} {t' : Nat} (h : Spent s s1 t c) (g : Spent s1 s2 t' c') : Spent s s2 (t+t') (c+c'):=by
 unfold Spent at h g ⊢;omega
theorem Spent.mono (h : Spent s s1 t c) (hc : c≤c') : Spent s s1 t c':= by
 unfold Spent at h ⊢;omega
theorem At.start (h : Gen d ve W s) : At d ve W s W s 0 0:=⟨h,Grew.refl _ _,Spent.refl _ _⟩
theorem At.step {X' : World} {s2 : Cn} {t' : Nat} (h : At d ve W s X s1 t c) (h1 : Gen d ve X' s2) (h2 : Grew d X X') (h3 : Spent s1 s2 t' c') : At d ve W s X' s2 (t+t') (c+c'):=⟨h1,h.2.1.trans h2,h.2.2.trans h3⟩
theorem At.below {X' : World} (h : At d ve W s X s1 t c) (hb : Below X.heap.size X X') : At d ve W s X' s1 t c:=⟨h.1.below hb,h.2.1.trans (Grew.of_below hb),h.2.2⟩
theorem At.alloc (h : At d ve W s X s1 t c) (o : Obj) : At d ve W s (X.alloc o) s1 t c:=h.below ((Below.refl _ _).alloc (Nat.le_refl _) o)
theorem At.drew (h : At d ve W s X s1 t c) : At d ve W s X.drew s1 t c:=⟨h.1.drew,h.2.1.drew,h.2.2⟩
theorem At.fit (h : At d ve W s X s1 t c) (hf : Fit s C) (C' : Nat) (hc : c+C'≤C) : Fit s1 C':= by
 have h3:=h.2.2;unfold Spent at h3;unfold Fit at hf ⊢;omega
theorem At.done {ns : List Nd} (h : At d ve W s X s1 t c) (k : Nat) (hn : NodesD d X v ns) (hl : 1≤ns.length∧ns.length≤t+k) (hc : c+k≤C) : NodesPost d ve W s C (.returned v) X:=
 ⟨v,ns,s1,t+k,rfl,hn,hl,h.1,h.2.1,by have h3:=h.2.2; unfold Spent at h3 ⊢; omega⟩
theorem At.done0 {ns : List Nd} (h : At d ve W s X s1 t c) (k : Nat) (hn : NodesD d X v ns) (hl : ns.length≤t+k) (hc : c+k≤C) : NodesPost0 d ve W s C (.returned v) X:=
 ⟨v,ns,s1,t+k,rfl,hn,hl,h.1,h.2.1,by have h3:=h.2.2; unfold Spent at h3 ⊢; omega⟩
theorem At.pick (h : At d ve W s X s1 t c) (hf : Fit s C) (hc : c < C) (n : Int) (hn : 0 < n) :
 Calls Tryz.prog 37 #[.pointer (some ⟨d.B,0,none⟩),.int .i64 n] X fun e X'=> ∃ (m : Int) (s2 : Cn),e= .returned (.int .i64 m)∧0≤m∧m < n∧At d ve W s X' s2 (t+1) (c+1)∧Grew d X X':= by
 have hf1:=h.fit hf 1 (by omega);refine (gen_pick h.1 (by unfold Fit at hf1; omega) n hn).mono ?_;rintro e X' ⟨m,rfl,h0,h1,hg,hgr⟩;exact⟨m,_,rfl,h0,h1,h.step hg hgr (by unfold Spent; dsimp only; omega),hgr⟩
theorem At.name (h : At d ve W s X s1 t c) (hf : Fit s C) (hc : c < C) :
 Calls Tryz.prog 107 #[.pointer (some ⟨d.G,0,none⟩)] X fun e X'=> ∃ (x : ByteArray) (s2 : Cn),e= .returned (.string x)∧Brief x∧At d ve W s X' s2 (t+1) (c+1)∧Grew d X X':= by
 have hf1:=h.fit hf 1 (by omega);refine (name_calls h.1 (by unfold Fit at hf1; omega)).mono ?_;rintro e X' ⟨x,rfl,hb,hg,hgr⟩;exact⟨x,_,rfl,hb,h.step hg hgr (by unfold Spent; dsimp only; omega),hgr⟩
theorem At.nodes {f : FuncId} {args : Array Value} (h : At d ve W s X s1 t c) (hc : Calls Tryz.prog f args X (NodesPost d ve X s1 c')) :
 Calls Tryz.prog f args X fun e X'=> ∃ v ns s2 t',e= .returned v∧NodesD d X' v ns∧(1≤ns.length∧ns.length≤t')∧At d ve W s X' s2 (t+t') (c+c')∧Grew d X X':= by
 refine hc.mono ?_;rintro e X' ⟨v,ns,s2,t',rfl,hn,hl,hg,hgr,hsp⟩;exact⟨v,ns,s2,t',rfl,hn,hl,h.step hg hgr hsp,hgr⟩
theorem At.nodes0 {f : FuncId} {args : Array Value} (h : At d ve W s X s1 t c) (hc : Calls Tryz.prog f args X (NodesPost0 d ve X s1 c')) :
 Calls Tryz.prog f args X fun e X'=> ∃ v ns s2 t',e= .returned v∧NodesD d X' v ns∧ns.length≤t'∧At d ve W s X' s2 (t+t') (c+c')∧Grew d X X':= by
 refine hc.mono ?_;rintro e X' ⟨v,ns,s2,t',rfl,hn,hl,hg,hgr,hsp⟩;exact⟨v,ns,s2,t',rfl,hn,hl,h.step hg hgr hsp,hgr⟩
theorem At.node (h : At d ve W s X s1 t c) (k n : Int) :
 Calls Tryz.prog 71 #[.int .i64 k,.int .i64 n] X fun e X'=> ∃ v ns,e= .returned v∧NodesD d X' v ns∧ns.length=1∧At d ve W s X' s1 t c∧Grew d X X':= by
 refine (node_calls (d:=d) k n X h.1.ltB h.1.ltG).mono ?_;rintro e X' ⟨v,rfl,hn,hb⟩;exact⟨v,_,rfl,hn,rfl,h.below hb,Grew.of_below hb⟩
theorem At.add (h : At d ve W s X s1 t c) (nm : ByteArray) (ty res : Int) (hk : KnowsD d X v ks) (hb : Brief nm) (hl : ks.length≤1000) :
 Calls Tryz.prog 108 #[v,.string nm,.int .i64 ty,.int .i64 res] X fun e X'=> ∃ u ks',e= .returned u∧KnowsD d X' u ks'∧ks'.length≤ks.length+1∧At d ve W s X' s1 t c∧Grew d X X':= by
 refine (kadd_calls nm ty res X h.1.ltB h.1.ltG hk hb hl).mono ?_;rintro e X' ⟨u,rfl,ks',hk',hl',hbl⟩;exact⟨u,ks',rfl,hk',hl',h.below hbl,Grew.of_below hbl⟩
theorem z52 (ls : List (Value×List Nd)) (c : Array Value) (hc : c=(ls.map Prod.fst).toArray) (h1 : d.B < X.heap.size) (h2 : d.G < X.heap.size) (h : ∀ x∈ls,NodesD d X x.1 x.2) :
 KidsV d (X.alloc (.cells c 24)) (.slice (some ⟨X.heap.size,0,none⟩) ls.length ls.length) ls:=by
 subst hc;have hh:=(MapKept.heap_alloc X (.cells (ls.map Prod.fst).toArray 24)).1;refine⟨Or.inr ⟨_,0,_,rfl,Nat.le_refl _,rfl,⟨z13 hh,by omega,by omega⟩,fun i hi=>?_⟩,fun x hx=>(h x hx).grew (Grew.of_below ((Below.refl _ _).alloc (Nat.le_refl _) _))⟩;rw [Nat.zero_add,z8 hh i,List.getElem?_toArray];rw [Nat.mul_one] at hi;simp [List.getD,hi]
theorem At.put (h : At d ve W s X s1 t c) (ls : List (Value×List Nd)) (cs : Array Value) (m : Nat) (k nm kd : Int) (a b e' : ByteArray) (hc : cs=(ls.map Prod.fst).toArray) (hm : m=ls.length) (hls : ∀ x∈ls,NodesD d X x.1 x.2) (hb : Brief a∧Brief b∧Brief e') (hl : ls.length≤1000) (hfl : (flatL ls).length≤800000) :
 Calls Tryz.prog 67 #[.agg #[.int .i64 k,.int .i64 nm,.string a,.string b,.string e',.int .i64 kd],.slice (some ⟨X.heap.size,0,none⟩) m m] (X.alloc (.cells cs 24)) fun e X'=> ∃ v ns,e= .returned v∧NodesD d X' v ns∧ns.length=1+(flatL ls).length∧At d ve W s X' s1 t c∧Grew d X X':= by
 subst hm;have hB : (X.alloc (.cells cs 24)).heap.size=X.heap.size+1:=by simp
 refine (gput_calls (d:=d) k nm kd a b e' (X.alloc (.cells cs 24)) _ ls (by rw [hB]; have:=h.1.ltB; omega) (by rw [hB]; have:=h.1.ltG; omega) (z52 ls cs hc h.1.ltB h.1.ltG hls) hb hl hfl).mono ?_;rintro e X' ⟨v,rfl,hn,hbl⟩;exact⟨v,_,rfl,hn,by simp; omega,(h.alloc _).below hbl,(Grew.of_below ((Below.refl _ _).alloc (Nat.le_refl _) _)).trans (Grew.of_below hbl)⟩
theorem At.put1 (h : At d ve W s X s1 t c) (k nm kd : Int) (a b e' : ByteArray) (h1 : NodesD d X v1 n1) (hb : Brief a∧Brief b∧Brief e') (hfl : n1.length≤800000) :
 Calls Tryz.prog 67 #[.agg #[.int .i64 k,.int .i64 nm,.string a,.string b,.string e',.int .i64 kd],.slice (some ⟨X.heap.size,0,none⟩) 1 1] (X.alloc (.cells #[v1] 24)) fun e X'=> ∃ v ns,e= .returned v∧NodesD d X' v ns∧ns.length=1+n1.length∧At d ve W s X' s1 t c∧Grew d X X':= by
 have hf : (flatL [(v1,n1)]).length=n1.length:=by simp [flatL]
 rw [← hf];exact h.put [(v1,n1)] _ 1 k nm kd a b e' rfl rfl (fun x hx=>by simp at hx; subst hx; exact h1) hb (by simp) (by omega)
theorem At.put2 (h : At d ve W s X s1 t c) (k nm kd : Int) (a b e' : ByteArray) {v2 : Value} {n2 : List Nd} (h1 : NodesD d X v1 n1) (h2 : NodesD d X v2 n2) (hb : Brief a∧Brief b∧Brief e') (hfl : n1.length+n2.length≤800000) :
 Calls Tryz.prog 67 #[.agg #[.int .i64 k,.int .i64 nm,.string a,.string b,.string e',.int .i64 kd],.slice (some ⟨X.heap.size,0,none⟩) 2 2] (X.alloc (.cells #[v1,v2] 24)) fun e X'=> ∃ v ns,e= .returned v∧NodesD d X' v ns∧ns.length=1+(n1.length+n2.length)∧At d ve W s X' s1 t c∧Grew d X X':= by
 have hf : (flatL [(v1,n1),(v2,n2)]).length=n1.length+n2.length:=by simp [flatL]
 rw [← hf];exact h.put [(v1,n1),(v2,n2)] _ 2 k nm kd a b e' rfl rfl (fun x hx=>by simp at hx; rcases hx with rfl | rfl; exact h1; exact h2) hb (by simp) (by omega)
theorem At.put3 (h : At d ve W s X s1 t c) (k nm kd : Int) (a b e' : ByteArray) {v2 v3 : Value} {n2 n3 : List Nd} (h1 : NodesD d X v1 n1) (h2 : NodesD d X v2 n2) (h3 : NodesD d X v3 n3) (hb : Brief a∧Brief b∧Brief e') (hfl : n1.length+n2.length+n3.length≤800000) :
 Calls Tryz.prog 67 #[.agg #[.int .i64 k,.int .i64 nm,.string a,.string b,.string e',.int .i64 kd],.slice (some ⟨X.heap.size,0,none⟩) 3 3] (X.alloc (.cells #[v1,v2,v3] 24)) fun e X'=> ∃ v ns,e= .returned v∧NodesD d X' v ns∧ns.length=1+(n1.length+n2.length+n3.length)∧At d ve W s X' s1 t c∧Grew d X X':= by
 have hf : (flatL [(v1,n1),(v2,n2),(v3,n3)]).length=n1.length+n2.length+n3.length:=by simp [flatL]; omega
 rw [← hf];exact h.put [(v1,n1),(v2,n2),(v3,n3)] _ 3 k nm kd a b e' rfl rfl (fun x hx=>by simp at hx; rcases hx with rfl | rfl | rfl; exact h1; exact h2; exact h3) hb (by simp) (by omega)
end
end Go.Proofs.YtfbojelpdccjaaaGreatDoor
