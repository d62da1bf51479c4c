import Derived.Maps.AppendAt
import Derived.OwnWalk
import Derived.Test.YtfbojelpdccjaaaGreatDoorPkB1
import Derived.Test.YtfbojelpdccjaaaGreatDoorPkB20
import Derived.BigQuiet
import Derived.Test.YtfbojelpdccjaaaGreatDoorPkB8
set_option maxHeartbeats 4000000
set_option maxRecDepth 100000
namespace Go.Proofs.YtfbojelpdccjaaaGreatDoor
open Go.RowKit Go.Deep
variable {s : Cn} {sz : Nat} {v ve : Value} {W : World}
section
open Go.RowKit Go.Deep
def rowZ {α : Type} (f : α→Nat→Value) (sz : Nat) (l : List α) : List Value:=l.flatMap fun x=>(List.range sz).map (f x)
theorem rowZ_len {α : Type} (f : α→Nat→Value) (sz : Nat) : ∀ l : List α,(rowZ f sz l).length=l.length*sz
 | []=>by simp [rowZ]
 | x::l=>by
   have:=rowZ_len f sz l;simp only [rowZ,List.flatMap_cons,List.length_append,List.length_map,List.length_range,List.length_cons] at this ⊢;rw [this,Nat.succ_mul];omega
theorem rowZ_app {α : Type} (f : α→Nat→Value) (sz : Nat) (l m : List α) : rowZ f sz (l++m)=rowZ f sz l++rowZ f sz m:=by
 simp [rowZ,List.flatMap_append]
theorem z65 {α : Type} [Inhabited α] (f : α→Nat→Value) (sz : Nat) (hz : 0 < sz) : ∀ (l : List α) (i : Nat),i < l.length*sz→(rowZ f sz l)[i]? =some (f (l.getD (i / sz) default) (i % sz))
 | [],i,h=>by simp at h
 | x::l,i,h=>by
   have e : rowZ f sz (x::l)=(List.range sz).map (f x)++rowZ f sz l:=by simp [rowZ]
   rw [e];by_cases hi : i < sz
   ·rw [List.getElem?_append_left (by simpa using hi),Nat.div_eq_of_lt hi,Nat.mod_eq_of_lt hi];simp [hi]
   ·have hi' : sz≤i:=by omega
    rw [List.length_cons,Nat.succ_mul] at h;rw [List.getElem?_append_right (by simpa using hi')];simp only [List.length_map,List.length_range];rw [z65 f sz hz l (i - sz) (by omega)];have e1 : i / sz=(i - sz) / sz+1:=Nat.div_eq_sub_div hz hi';have e2 : i % sz=(i - sz) % sz:=by rw [Nat.mod_eq_sub_mod hi']
    rw [e1,e2];simp [List.getD]
theorem z21 {P : Program} {ops : Array Oper} {rest : List Oper} {o : Oper} {a : Act} {w : World} {Q : Exit→Act→World→Prop} (hgd : o.guard=none) (s x : Operand) (t : TypeId)
 (ho : o.op= .call { callee:= .builtin .append,args:= #[s,x],argTypes:= #[t,t] }) (v xv : Value) (hs : a.eval s=v) (hx : a.eval x=xv) {R : Value→World→Prop}
 (hr : ∀ ty,∃ v' w',(Builtin.append_ #[t,t] ty #[v,xv]).run P w= .ok v' w'∧R v' w') (h : ∀ v' w',R v' w'→wpList P ops Q rest (a.put o.dst v') w') :
 wpList P ops Q (o::rest) a w:=by
 refine wpList_plain hgd fun K hK=>?_
 obtain⟨v',w',hr,h2⟩:=hr o.type;unfold Oper.wp execOp;simp only [ho,resolve,invoke,builtin,Sem.run_bind,Sem.run_pure,Result.andThen_ok,List.map_toArray,List.map_cons,List.map_nil,hs,hx,hr];exact hK _ _ (h v' w' h2)
section
variable {d : Dr}
theorem lies_owns {α : Type} [Inhabited α] {f : α→Nat→Value} (hz : 0 < sz) {B : Nat} {t : TypeId} {l : List α} (h : W.ownsRow B t sz v l.length (rowZ f sz l)) (h1 : d.B < B) (h2 : d.G < B) : Lies d W v l.length sz (fun i=>f (l.getD (i / sz) default) (i % sz)):=by
 have h':= h;obtain⟨-,⟨rfl,h0⟩ | ⟨g,cap,cur,rfl,hB,hc,hnc,-⟩⟩:=h
 ·exact Or.inl ⟨rfl,h0⟩
 ·refine Or.inr ⟨g,0,cap,rfl,hnc,rfl,⟨z13 hc,by omega,by omega⟩,fun i hi=>?_⟩;rw [Nat.zero_add,h'.cellAt i hi,z65 f sz hz l i hi]
theorem lies_lit {α : Type} [Inhabited α] {f : α→Nat→Value} (hz : 0 < sz) (W : World) (t : TypeId) (l : List α) (c : Array Value) (hc : c=(rowZ f sz l).toArray) (h1 : d.B < W.heap.size) (h2 : d.G < W.heap.size) : Lies d (W.alloc (.cells c t)) (.slice (some ⟨W.heap.size,0,none⟩) l.length l.length) l.length sz (fun i=>f (l.getD (i / sz) default) (i % sz)):=by
 subst hc;have hh:=(MapKept.heap_alloc W (.cells (rowZ f sz l).toArray t)).1;refine Or.inr ⟨_,0,_,rfl,Nat.le_refl _,rfl,⟨z13 hh,by omega,by omega⟩,fun i hi=>?_⟩;rw [Nat.zero_add,z8 hh i,List.getElem?_toArray,z65 f sz hz l i hi]
theorem app_row {α : Type} [Inhabited α] {f : α→Nat→Value} (h1 : ∀ x i,(f x i).oneCell'= true) {B : Nat} {t e : TypeId} {i0 : TypeInfo} {z : Value} {by_ : Nat} (ht : Tryz.prog.underlying t=some (.slice e)) (hi : Tryz.prog.info? e=some i0) (hz0 : i0.zero=some z) (hz1 : i0.size=sz) (hz2 : i0.bytes=by_) (hzs : z.cells.size=sz) (hsz : 0 < sz) (hby : by_≤100) {xv : Value} {l m : List α}
 (hown : W.ownsRow B e sz v l.length (rowZ f sz l)) (hx : Lies d W xv m.length sz (fun i=>f (m.getD (i / sz) default) (i % sz))) (hm : l.length+m.length≤1000000) (hB : B≤W.heap.size) (ty : TypeId) :
 ∃ v' W',(Builtin.append_ #[t,t] ty #[v,xv]).run Tryz.prog W= .ok v' W'∧W'.ownsRow B e sz v' (l++m).length (rowZ f sz (l++m))∧W.grownBy W' v.ownBlock:=by
 rcases hx with ⟨rfl,hl⟩ | ⟨b,off,cap,rfl,-,-,hq,hc⟩
 ·have : m= []:=List.eq_nil_of_length_eq_zero hl;subst this;refine⟨v,W,run_append_owned_none W B t ty e i0 sz ht hi v _ _ hown,?_,⟨rfl,rfl,rfl,Nat.le_refl _,fun _ _ _=>rfl⟩⟩;rw [List.append_nil];exact hown
 ·obtain⟨v',W',hr,h2,h3,-,-⟩:=run_append_own_at (P:=Tryz.prog) W B t ty e i0 z sz by_ ht hi hz0 hz1 hz2 hzs hsz v l.length (rowZ f sz l) hown ⟨b,off,none⟩ m.length cap (rowZ f sz m) (rowZ_len f sz m)
   (fun j u hu=>by
    have hj : j < m.length*sz:=by
     have:=(List.getElem?_eq_some_iff.1 hu).1;rwa [rowZ_len] at this
    rw [z65 f sz hsz m j hj] at hu
    cases hu;rw [Addr.add_lit];exact hc j hj)
   (fun u hu=>by
    unfold rowZ at hu;rw [List.mem_flatMap] at hu;obtain⟨x,-,hu⟩:=hu;rw [List.mem_map] at hu;obtain⟨i,-,rfl⟩:=hu;exact h1 x i) (by unfold maxLen; omega) (by
     have:=Nat.mul_le_mul hm hby;omega) hB
  refine⟨v',W',hr,?_,h3⟩;rw [List.length_append,rowZ_app];exact h2
end
theorem nd_one (n : Nd) (i : Nat) : (n.cell i).oneCell'= true:=by
 match i with
 | 0=>rfl
 | 1=>rfl
 | 2=>rfl
 | 3=>rfl
 | 4=>rfl
 | _+5=>rfl
theorem kn_one (k : Kn) (i : Nat) : (k.cell i).oneCell'= true:=by
 match i with
 | 0=>rfl
 | 1=>rfl
 | _+2=>rfl
theorem info_know : (Tryz.prog.info? 189).map (fun i=>(i.zero,i.size,i.bytes))=some (some (.agg #[.string ByteArray.empty,.int .i64 0,.int .i64 0]),3,32):=by kernel_rfl
theorem z11 : Brief ByteArray.empty:=by unfold Brief; decide
theorem node_calls {d : Dr} (k n : Int) (W : World) (h1 : d.B < W.heap.size) (h2 : d.G < W.heap.size) :
 Calls Tryz.prog 71 #[.int .i64 k,.int .i64 n] W fun e W'=> ∃ v,e= .returned v∧NodesD d W' v [⟨k,n,ByteArray.empty,ByteArray.empty,ByteArray.empty,0⟩]∧Below W.heap.size W W':= by
 go_enter Tryz.func71,Tryz.ntmps71
 go_wp2_with fail
 go_ret;refine⟨_,rfl,⟨lies_lit (f:=Nd.cell) (sz:=6) (by decide) W 60 [⟨k,n,ByteArray.empty,ByteArray.empty,ByteArray.empty,0⟩] _ rfl h1 h2,fun n hn=>?_⟩,(Below.refl _ _).alloc (Nat.le_refl _) _⟩;rw [List.mem_singleton] at hn;subst hn;exact⟨z11,z11,z11⟩
def KidsV (d : Dr) (W : World) (v : Value) (ls : List (Value×List Nd)) : Prop:=
 Lies d W v ls.length 1 (fun i=>(ls.getD i (.slice none 0 0,[])).1)∧ ∀ x∈ls,NodesD d W x.1 x.2
def flatL (ls : List (Value×List Nd)) : List Nd:=ls.flatMap Prod.snd
theorem flatL_take (ls : List (Value×List Nd)) (i : Nat) (h : i < ls.length) : flatL (ls.take (i+1))=flatL (ls.take i)++(ls.getD i (.slice none 0 0,[])).2:=by
 unfold flatL;rw [List.take_add_one,List.flatMap_append];simp [List.getD,h]
theorem flatL_le (ls : List (Value×List Nd)) (i : Nat) : (flatL (ls.take i)).length≤(flatL ls).length:=by
 conv=>rhs; rw [← List.take_append_drop i ls]
 unfold flatL;rw [List.flatMap_append,List.length_append];omega
theorem flatL_mem {ls : List (Value×List Nd)} {n : Nd} (h : n∈flatL ls) : ∃ x∈ls,n∈x.2:=by
 unfold flatL at h;rw [List.mem_flatMap] at h;exact h
theorem put_step {wr W' : World} {acc ns : List Nd} {out v' : Value} (h : wr.ownsRow W.heap.size 60 6 out acc.length (rowZ Nd.cell 6 acc)∧Below W.heap.size W wr) (h' : W'.ownsRow W.heap.size 60 6 v' (acc++ns).length (rowZ Nd.cell 6 (acc++ns))∧wr.grownBy W' out.ownBlock) :
 W'.ownsRow W.heap.size 60 6 v' (acc++ns).length (rowZ Nd.cell 6 (acc++ns))∧Below W.heap.size W W':=
 ⟨h'.1,h.2.grown h'.2 h.2.size (fun k hk=>(h.1.lt k hk).1)⟩
theorem gput_calls {d : Dr} (k nm kd : Int) (a b c : ByteArray) (W : World) (vk : Value) (ls : List (Value×List Nd)) (h1 : d.B < W.heap.size) (h2 : d.G < W.heap.size) (hk : KidsV d W vk ls) (hb : Brief a∧Brief b∧Brief c) (hl : ls.length≤1000) (hm : (flatL ls).length≤800000) :
 Calls Tryz.prog 67 #[.agg #[.int .i64 k,.int .i64 nm,.string a,.string b,.string c,.int .i64 kd],vk] W fun e W'=> ∃ v,e= .returned v∧NodesD d W' v (⟨k,nm,a,b,c,(ls.length : Int)⟩::flatL ls)∧Below W.heap.size W W':= by
 obtain⟨L,hL⟩ : ∃ L,ls.length=L:=⟨_,rfl⟩
 have HK:=hid hk;have HL:=hid (And.intro hL (And.intro hl (And.intro hm (And.intro hb (And.intro h1 h2)))));obtain⟨ad,cp,rfl⟩:=hk.1.is;rw [hL] at HK ⊢;clear hk hb hm hl h1 h2 hL;obtain⟨i0,hinf,hz0,hz1,hz2⟩:=info_parts info_node;go_enter Tryz.func67,Tryz.ntmps67
 go_wp2_with fail
 go_loopw [5,6] (fun out i wr=> ∃ (i' : Nat) (acc : List Nd),i= .int .i64 i'∧i'≤L∧Hid (wr.ownsRow W.heap.size 60 6 out acc.length (rowZ Nd.cell 6 acc)∧Below W.heap.size W wr)∧Hid (acc=⟨k,nm,a,b,c,(L : Int)⟩::flatL (ls.take i'))) (fun _ i _=>L - (intOf i).toNat)
 case atStart=>
  have hw : (W.alloc (.cells #[.int .i64 k,.int .i64 nm,.string a,.string b,.string c,.int .i64 (L : Int)] 60)).heap.size=W.heap.size+1:=by simp
  have ho:=World.ownsRow_lit (base:=W.heap.size) (e:=60) (size:=6) (W.alloc (.cells #[.int .i64 k,.int .i64 nm,.string a,.string b,.string c,.int .i64 (L : Int)] 60)) #[.int .i64 k,.int .i64 nm,.string a,.string b,.string c,.int .i64 (L : Int)] 1 (by rw [hw]; omega) (by unfold maxLen; omega) rfl;rw [hw] at ho;exact⟨0,[⟨k,nm,a,b,c,(L : Int)⟩],rfl,Nat.zero_le _,⟨ho,((Below.refl _ _).alloc (Nat.le_refl _) _).alloc (by rw [hw]; omega) _⟩,by show _=_; simp [flatL]⟩
 case round=>
  obtain⟨i',acc,rfl,hle,HO,HA⟩:=hrel;by_cases hi : (i' : Int) < (L : Int)
  ·have hil : i' < ls.length:=by have:=HL.out.1; omega
   obtain⟨-,-,g,o,rfl,hq,hc⟩:=HK.out.1.at (by omega : 0 < L);have hcell:=(HO.out.2.cell (p:=⟨g,o+i',none⟩) hq.1).trans (hc i' (by omega));have hnd:=HK.out.2 _ (List.mem_of_getElem? (l:=ls) (i:=i') (a:=ls.getD i' (.slice none 0 0,[])) (by simp [List.getD,hil]));have hft:=flatL_take ls i' hil;have hfl:=flatL_le ls (i'+ 1);generalize ls.getD i' (.slice none 0 0,[])=kx at hcell hnd hft;obtain⟨kv,kns⟩:=kx;dsimp only at hcell hnd hft;have HN:=hid (hnd.grew (Grew.of_below HO.out.2));have HF:=hid (And.intro hft hfl);obtain⟨kad,kcp,rfl⟩:=hnd.is;clear hnd hft hfl hc hil
   have hi0 : (0 : Int)≤(i' : Int):=by omega
   have hstep : L - (intOf (.int .i64 ((i'+ 1 : Nat) : Int))).toNat < L - (intOf (.int .i64 (i' : Int))).toNat:=z45 hi;have HS : Hid (acc++kns=⟨k,nm,a,b,c,(L : Int)⟩::flatL (ls.take (i'+ 1))∧acc.length+kns.length≤900000):=by
    have e : acc++kns=⟨k,nm,a,b,c,(L : Int)⟩::flatL (ls.take (i'+ 1)):=by rw [HA.out,HF.out.1]; rfl
    refine⟨e,?_⟩;rw [← List.length_append,e,List.length_cons];have:=HF.out.2;have:=HL.out.2.2.1;omega
   clear HA HF;go_wp2_with (at_builtin; refine z21 rfl _ _ 24 rfl _ _ rfl rfl (fun ty=>app_row nd_one Tryz.underlying24 hinf hz0 hz1 hz2 rfl (by decide) (by decide) HO.out.1 HN.out.1 (by have:=HS.out.2; omega) HO.out.2.size ty) ?_; intro v5 w5 hv5; have HO5:=hid (put_step HO.out hv5); clear hv5)
   try rw [z17 (by have:=HL.out.2.1; have:=HL.out.1; omega)]
   exact⟨⟨i'+ 1,acc++kns,rfl,by omega,HO5,HS.out.1⟩,hstep⟩
  ·have e : i'= L:=by omega
   subst e;have HE : Hid (acc=⟨k,nm,a,b,c,(i' : Int)⟩::flatL ls):=by
    show _=_;rw [HA.out,List.take_of_length_le (by have:=HL.out.1; omega)]
   clear HA;go_wp2_with fail
   go_ret;refine⟨_,rfl,⟨?_,fun n hn=>?_⟩,HO.out.2⟩
   ·rw [← HE.out];exact lies_owns (f:=Nd.cell) (by decide) HO.out.1 HL.out.2.2.2.2.1 HL.out.2.2.2.2.2
   ·rw [List.mem_cons] at hn;rcases hn with rfl | hn
    ·exact HL.out.2.2.2.1
    ·obtain⟨x,hx,hnx⟩:=flatL_mem hn;exact (HK.out.2 x hx).2 n hnx
theorem Gen.setNext {d : Dr} (h : Gen d ve W s) (x : Nat) : Gen d ve (W.setCell ⟨d.G,3,none⟩ (.int .i64 (x : Int))) { s with next:=x }∧Grew d W (W.setCell ⟨d.G,3,none⟩ (.int .i64 (x : Int))):=by
 have ho : ∀ q,q≠d.G→(W.setCell ⟨d.G,3,none⟩ (.int .i64 (x : Int))).heap[q]? =W.heap[q]? :=fun q hq=>Below.heap_setCell W ⟨d.G,3,none⟩ _ q hq
 have hg : Grew d W (W.setCell ⟨d.G,3,none⟩ (.int .i64 (x : Int))):=⟨rfl,rfl,rfl,by simp [World.setCell],fun q hq=>ho q hq.2.2⟩
 exact⟨⟨h.rd.same hg (ho _ h.ne),by simp [World.setCell,Array.getElem?_modify,h.blk],h.ne⟩,hg⟩
theorem Gen.setLeft {d : Dr} (h : Gen d ve W s) (x : Int) : Gen d ve (W.setCell ⟨d.G,2,none⟩ (.int .i64 x)) { s with left:=x }∧Grew d W (W.setCell ⟨d.G,2,none⟩ (.int .i64 x)):=by
 have ho : ∀ q,q≠d.G→(W.setCell ⟨d.G,2,none⟩ (.int .i64 x)).heap[q]? =W.heap[q]? :=fun q hq=>Below.heap_setCell W ⟨d.G,2,none⟩ _ q hq
 have hg : Grew d W (W.setCell ⟨d.G,2,none⟩ (.int .i64 x)):=⟨rfl,rfl,rfl,by simp [World.setCell],fun q hq=>ho q hq.2.2⟩
 exact⟨⟨h.rd.same hg (ho _ h.ne),by simp [World.setCell,Array.getElem?_modify,h.blk],h.ne⟩,hg⟩
theorem Gen.ltG {d : Dr} (h : Gen d ve W s) : d.G < W.heap.size:=z13 h.blk
theorem Gen.ltB {d : Dr} (h : Gen d ve W s) : d.B < W.heap.size:=z13 h.rd.blk
theorem Gen.c0 {d : Dr} (h : Gen d ve W s) : W.cell? ⟨d.G,0,none⟩=some (.pointer (some ⟨d.B,0,none⟩)):=by rw [z8 h.blk]; rfl
theorem Gen.c1 {d : Dr} (h : Gen d ve W s) : W.cell? ⟨d.G,1,none⟩=some ve:=by rw [z8 h.blk]; rfl
theorem Gen.c2 {d : Dr} (h : Gen d ve W s) : W.cell? ⟨d.G,2,none⟩=some (.int .i64 s.left):=by rw [z8 h.blk]; rfl
theorem Gen.c3 {d : Dr} (h : Gen d ve W s) : W.cell? ⟨d.G,3,none⟩=some (.int .i64 (s.next : Int)):=by rw [z8 h.blk]; rfl
theorem Gen.f2 {d : Dr} (h : Gen d ve W s) : W.frozen? ⟨d.G,2,none⟩=false:=z12 h.blk 2
theorem Gen.f3 {d : Dr} (h : Gen d ve W s) : W.frozen? ⟨d.G,3,none⟩=false:=z12 h.blk 3
theorem gen_pick {d : Dr} (h : Gen d ve W s) (hp : s.p≤1000000) (n : Int) (hn : 0 < n) :
 Calls Tryz.prog 37 #[.pointer (some ⟨d.B,0,none⟩),.int .i64 n] W fun e W'=> ∃ m : Int,e= .returned (.int .i64 m)∧0≤m∧m < n∧Gen d ve W' { s with p:=s.p+1 }∧Grew d W W':= by
 refine (z39 h.rd hp n hn).mono ?_;rintro e W' ⟨m,rfl,h0,h1,hr,hg,-,ho⟩;exact⟨m,rfl,h0,h1,⟨hr,(ho _ (Ne.symm h.ne)).trans h.blk,h.ne⟩,hg⟩
theorem cell_old {o : Obj} {p : Addr} (hp : p.block < W.heap.size) (h : W.cell? p=some v) : (W.alloc o).cell? p=some v:=
 (((Below.refl W.heap.size W).alloc (Nat.le_refl _) o).cell hp).trans h
theorem digit_run (m : Int) (h0 : 0 < m) (h1 : m < 7) : ∃ s : ByteArray,s.size=1∧ ∀ W : World,(convert 22 9 (.slice (some ⟨W.heap.size,0,none⟩) 1 1)).run Tryz.prog (W.alloc (.cells #[.int .u8 (48+m)] 5))= .ok (.string s) (W.alloc (.cells #[.int .u8 (48+m)] 5)):=by
 refine⟨⟨#[UInt8.ofNat (48+m.toNat)]⟩,rfl,fun W=>?_⟩;have h:=run_convert_bytes_back (P:=Tryz.prog) (W.alloc (.cells #[.int .u8 (48+m)] 5)) 22 9 5 ⟨W.heap.size,0,none⟩ 1 [UInt8.ofNat (48+m.toNat)] Tryz.underlying22 Tryz.underlying5 Tryz.underlying9 (fun i hi=>by
  have h0 : i=0:=by simpa using hi
  subst h0;simp [Addr.add];omega)
 exact h
theorem digit_zero (W : World) : Calls Tryz.prog 82 #[.int .i64 0] W fun e W'=> e= .returned (.string ⟨#[48]⟩)∧W'= W:=by
 go_enter Tryz.func82,Tryz.ntmps82
 go_wp2_with fail
 go_ret;exact⟨rfl,rfl⟩
theorem digit_calls (m : Int) (x : ByteArray) (hx : x.size=1) (h2 : 0 < m) (h1 : m < 7) (hr : ∀ W : World,(convert 22 9 (.slice (some ⟨W.heap.size,0,none⟩) 1 1)).run Tryz.prog (W.alloc (.cells #[.int .u8 (48+m)] 5))= .ok (.string x) (W.alloc (.cells #[.int .u8 (48+m)] 5))) (W : World) : Calls Tryz.prog 82 #[.int .i64 m] W fun e W'=> e= .returned (.string (x++⟨#[]⟩))∧W'= W.alloc (.cells #[.int .u8 (48+m)] 5):=by
 have hrun:=hr W;have hm : ¬ m=0:=by omega
 have e0 : (m==0)=false:=by simp [hm]
 have e1 : m % 10=m:=by omega
 have e2 : m / 10=0:=by omega
 clear hr;go_enter Tryz.func82,Tryz.ntmps82
 go_wp2_with fail
 refine wp_loop_rounds 2 ?_;rw [rounds_succ];go_wp2_with fail
 rw [e2,rounds_succ];go_wp2_with fail
 go_ret;exact⟨rfl,rfl⟩
theorem digit_any (m : Int) (h0 : 0≤m) (h1 : m < 7) : ∃ x : ByteArray,x.size≤50∧ ∀ W,Calls Tryz.prog 82 #[.int .i64 m] W fun e W'=> e= .returned (.string x)∧Below W.heap.size W W':= by
 by_cases hm : m=0
 ·subst hm;refine⟨⟨#[48]⟩,by decide,fun W=>(digit_zero W).mono ?_⟩;rintro e W' ⟨rfl,rfl⟩;exact⟨rfl,Below.refl _ _⟩
 ·obtain⟨x,hx,hr⟩:=digit_run m (by omega) h1;refine⟨x++⟨#[]⟩,?_,fun W=>(digit_calls m x hx (by omega) h1 hr W).mono ?_⟩
  ·rw [ByteArray.size_append,hx];decide
  ·rintro e W' ⟨rfl,rfl⟩;exact⟨rfl,(Below.refl _ _).alloc (Nat.le_refl _) _⟩
def sixV : Array Value:= #[.string ⟨#[120]⟩,.string ⟨#[121]⟩,.string ⟨#[122]⟩,.string ⟨#[110]⟩,.string ⟨#[109]⟩,.string ⟨#[113]⟩]
theorem six_get (r : Int) (h0 : 0≤r) (h1 : r < 6) : ∃ y : ByteArray,y.size=1∧sixV[r.toNat]? =some (.string y):=by
 have h : r=0∨r=1∨r=2∨r=3∨r=4∨r=5:=by omega
 rcases h with rfl | rfl | rfl | rfl | rfl | rfl <;> exact⟨_,rfl,rfl⟩
theorem six_cell {X : World} (r : Int) (y : ByteArray) (h : sixV[r.toNat]? =some (.string y)) : (X.alloc (.cells sixV 9)).cell? ⟨X.heap.size,r.toNat,none⟩=some (.string y):=by
 rw [z8 (MapKept.heap_alloc X _).1,h]
theorem name_calls {d : Dr} (h : Gen d ve W s) (hn : s.next≤1000000) :
 Calls Tryz.prog 107 #[.pointer (some ⟨d.G,0,none⟩)] W fun e W'=> ∃ x,e= .returned (.string x)∧Brief x∧Gen d ve W' { s with next:=s.next+1 }∧Grew d W W':= by
 have HG:=hid h;have HN:=hid (h.setNext (s.next+1));obtain⟨n,hn'⟩ : ∃ n : Nat,s.next=n:=⟨_,rfl⟩
 have c3:=h.c3;have f3:=h.f3;rw [hn'] at c3 hn HN ⊢;obtain⟨G,hGe⟩ : ∃ G,d.G=G:=⟨_,rfl⟩
 rw [hGe] at c3 f3 HN ⊢;go_enter Tryz.func107,Tryz.ntmps107
 go_wp2_with fail
 have e1 : ((n : Int)+1)=((n+1 : Nat) : Int):=by omega
 rw [e1];have cN:=HN.out.1.c3;have hGl:=HN.out.1.ltG;rw [hGe] at cN hGl;clear c3 f3 HG h e1;generalize W.setCell ⟨G,3,none⟩ (.int .i64 ((n+1 : Nat) : Int))=W1 at*;dsimp only at cN;have hN0 : (0 : Int)≤((n+1 : Nat) : Int):=by omega
 generalize hNe : ((n+1 : Nat) : Int)=N at*;obtain⟨m,hm⟩ : ∃ m,N % 7=m:=⟨_,rfl⟩
 have hm0 : 0≤m:=by omega
 have hm1 : m < 7:=by omega
 obtain⟨x,hx,hD⟩:=digit_any m hm0 hm1;have HD:=hid hD;have HX:=hid hx;obtain⟨r,hr⟩ : ∃ r,N % 6=r:=⟨_,rfl⟩
 have hr0 : 0≤r:=by omega
 have hr1 : r < 6:=by omega
 have ht6 : N.tmod 6=r:=(Int.tmod_eq_emod_of_nonneg hN0).trans hr;have ht7 : N.tmod 7=m:=(Int.tmod_eq_emod_of_nonneg hN0).trans hm;obtain⟨y,hy,hsix⟩:=six_get r hr0 hr1;have HY:=hid hy;have HN1 : Hid (Gen d ve W1.drew { s with next:=n+1 }∧Grew d W W1.drew):=⟨HN.out.1.drew,HN.out.2.drew⟩
 have cD : W1.drew.cell? ⟨G,3,none⟩=some (.int .i64 N):=cN;have hGD : G < W1.drew.heap.size:=hGl;clear hNe hn hn' hGe hm hm0 hm1 hr cN hGl HN hD hx;refine z27 (S:=fun w'=> w'.cell? ⟨G,3,none⟩=some (.int .i64 N)) (by kernel_rfl) rfl rfl ?_;generalize W1.drew=D at*;refine pick_o 1 (.pointer (some ⟨G,0,none⟩)) cD ?_;refine pick_o 2 (.pointer (some ⟨G,0,none⟩)) cD ?_;refine pick_o 3 (.pointer (some ⟨G,3,none⟩)) cD ?_;refine pick_o (hy:=fun w' hw=>by simp [go_sem,hw]) 4 (.int .i64 N) cD ?_;refine pick_o (hy:=fun w' hw=>by simp [go_sem,ht6]) 5 (.int .i64 r) cD ?_
 refine pick_o 8 (.pointer (some ⟨G,0,none⟩)) cD ?_;refine pick_o 9 (.pointer (some ⟨G,0,none⟩)) cD ?_;refine pick_o 10 (.pointer (some ⟨G,3,none⟩)) cD ?_;refine pick_o (hy:=fun w' hw=>by simp [go_sem,hw]) 11 (.int .i64 N) cD ?_;refine pick_o (hy:=fun w' hw=>by simp [go_sem,ht7]) 12 (.int .i64 m) cD ?_;have hx:=HX.out;refine z49 (i:=0) (j:=13) (by kernel_rfl) ?_ ?_
 ·have cy:=six_cell (X:=D) r y hsix;have c1:=cell_old (o:= .cells sixV 9) hGD cD;have HB1 : Hid (Below D.heap.size D (D.alloc (.cells sixV 9))):=(Below.refl _ _).alloc (Nat.le_refl _) _;have hq : D.heap.size < (D.alloc (.cells sixV 9)).heap.size:=by simp
  refine⟨_,.slice (some ⟨D.heap.size,0,none⟩) 6 6,D.alloc (.cells sixV 9),rfl,rfl,by simp [go_sem,sixV],c1,?_⟩;refine z14 (by simp [go_sem]; exact rfl) ?_;generalize D.alloc (.cells sixV 9)=X1 at*;refine pick_o (hy:=fun w' hw=>by simp [go_sem,hr0,hr1]) 6 (.pointer (some ⟨D.heap.size,r.toNat,none⟩)) c1 ?_;refine z43 (fun w'=> w'.cell? ⟨G,3,none⟩=some (.int .i64 N)∧w'.cell? ⟨D.heap.size,r.toNat,none⟩=some (.string y)) (fun w h=>h.1) ?_;refine pick_o (hy:=fun w' hw=>by simp [go_sem,hw.2]) 7 (.string y) ⟨c1,cy⟩ ?_
  refine z16 (i:=13) (f:=82) (args:= #[.int .i64 m]) rfl (by kernel_rfl) rfl rfl (by simp [go_sem]) ?_;refine (HD.out X1).mono ?_;rintro e X2 ⟨rfl,hb⟩;have HB2:=hid hb;have c2:=(hb.cell (p:=⟨G,3,none⟩) (block_lt_of_cell c1)).trans c1;have cy2:=(hb.cell (p:=⟨D.heap.size,r.toNat,none⟩) hq).trans cy;clear hb;refine⟨_,rfl,⟨c2,cy2⟩,?_⟩;refine z14 (by simp [go_sem]; exact rfl) ?_;refine z10 (i:=14) (v:= .string (y++x)) (by kernel_rfl) rfl (by kernel_rfl) (by kernel_rfl) rfl rfl (fun w' hw=>by simp [go_sem,HY.out]; omega) ⟨c2,cy2⟩ (by simp [go_sem]; exact rfl) ?_
  refine pick_o 15 (.string (y++x)) ⟨c2,cy2⟩ ?_;refine z24 (by kernel_rfl) ?_;go_wp2_with fail
  go_ret;exact⟨_,rfl,by unfold Brief; rw [ByteArray.size_append,HY.out]; have:=HX.out; omega,(HN1.out.1.below HB1.out).below HB2.out,HN1.out.2.trans ((Grew.of_below HB1.out).trans (Grew.of_below HB2.out))⟩
 ·refine⟨_,82,#[.int .i64 m],rfl,rfl,by simp [go_sem],?_⟩;refine (HD.out D).mono ?_;rintro e X1 ⟨rfl,hb⟩;have HB1:=hid hb;have c1:=(hb.cell (p:=⟨G,3,none⟩) hGD).trans cD;have hGX : G < X1.heap.size:=block_lt_of_cell c1;clear hb;refine⟨_,rfl,c1,?_⟩;refine z14 (by simp [go_sem]; exact rfl) ?_;have cy:=six_cell (X:=X1) r y hsix;have c2:=cell_old (o:= .cells sixV 9) hGX c1;have HB2 : Hid (Below X1.heap.size X1 (X1.alloc (.cells sixV 9))):=(Below.refl _ _).alloc (Nat.le_refl _) _
  refine z25 (i:=0) (v:= .slice (some ⟨X1.heap.size,0,none⟩) 6 6) (w1:=X1.alloc (.cells sixV 9)) rfl (by kernel_rfl) rfl rfl (by simp [go_sem,sixV]) c2 (by simp [go_sem]; exact rfl) ?_;generalize X1.alloc (.cells sixV 9)=X2 at*;refine pick_o (hy:=fun w' hw=>by simp [go_sem,hr0,hr1]) 6 (.pointer (some ⟨X1.heap.size,r.toNat,none⟩)) c2 ?_;refine z43 (fun w'=> w'.cell? ⟨G,3,none⟩=some (.int .i64 N)∧w'.cell? ⟨X1.heap.size,r.toNat,none⟩=some (.string y)) (fun w h=>h.1) ?_;refine pick_o (hy:=fun w' hw=>by simp [go_sem,hw.2]) 7 (.string y) ⟨c2,cy⟩ ?_
  refine z10 (i:=14) (v:= .string (y++x)) (by kernel_rfl) rfl (by kernel_rfl) (by kernel_rfl) rfl rfl (fun w' hw=>by simp [go_sem,HY.out]; omega) ⟨c2,cy⟩ (by simp [go_sem]; exact rfl) ?_;refine pick_o 15 (.string (y++x)) ⟨c2,cy⟩ ?_;refine z24 (by kernel_rfl) ?_;go_wp2_with fail
  go_ret;exact⟨_,rfl,by unfold Brief; rw [ByteArray.size_append,HY.out]; have:=HX.out; omega,(HN1.out.1.below HB1.out).below HB2.out,HN1.out.2.trans ((Grew.of_below HB1.out).trans (Grew.of_below HB2.out))⟩
end
end Go.Proofs.YtfbojelpdccjaaaGreatDoor
