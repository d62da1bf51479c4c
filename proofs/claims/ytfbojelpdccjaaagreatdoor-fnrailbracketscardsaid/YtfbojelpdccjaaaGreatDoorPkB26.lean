import Derived.Test.YtfbojelpdccjaaaGreatDoorPkB24
import Derived.Test.YtfbojelpdccjaaaGreatDoorPkB25
namespace Go.Proofs.YtfbojelpdccjaaaGreatDoor
open Go.RowKit Go.Deep
variable {s s1 : Cn} {d : Dr} {ms : List Bool} {os : List Nat} {xs : List Value} {B c i n sz t : Nat} {v ve : Value} {W W' X : World}
section
open Go.RowKit Go.Deep
theorem g_type {e : TypeId} (h : W.ownsRow B e sz v n xs) {g : Nat} (hg : v.ownBlock=some g) : B≤g∧ ∃ cur,W.heap[g]? =some (.cells cur e):=by
 obtain⟨-,⟨rfl,h0⟩ | ⟨g',cap,cur,rfl,hB,hc,-⟩⟩:=h
 ·simp [Value.ownBlock] at hg
 ·simp [Value.ownBlock] at hg;subst hg;exact⟨hB,cur,hc⟩
theorem g_same {e : TypeId} (h : W.ownsRow B e sz v n xs) (he : ∀ g,v.ownBlock=some g→W'.heap[g]? =W.heap[g]?) : W'.ownsRow B e sz v n xs:=by
 obtain⟨h0,⟨rfl,h1⟩ | ⟨g,cap,cur,rfl,hB,hc,hr⟩⟩:=h
 ·exact⟨h0,Or.inl ⟨rfl,h1⟩⟩
 ·exact⟨h0,Or.inr ⟨g,cap,cur,rfl,hB,(he g (by simp [Value.ownBlock])).trans hc,hr⟩⟩
theorem g_is {e : TypeId} (h : W.ownsRow B e sz v n xs) : ∃ ad c,v= .slice ad n c:=by
 obtain⟨-,⟨rfl,h0⟩ | ⟨g',cap,cur,rfl,-⟩⟩:=h
 ·exact⟨none,0,by rw [h0]⟩
 ·exact⟨_,_,rfl⟩
theorem g_grew {e : TypeId} (h : W.ownsRow B e sz v n xs) (h1 : d.B < B) (h2 : d.G < B) (g : Grew d W W') : W'.ownsRow B e sz v n xs:=
 g_same h fun k hk=>g.block k ⟨(h.lt k hk).2,by have:=(h.lt k hk).1; omega,by have:=(h.lt k hk).1; omega⟩
theorem g_other {B' : Nat} {e e' : TypeId} {sz' : Nat} {u : Value} {m : Nat} {ys : List Value} (h : W.ownsRow B e sz v n xs) (hu : W.ownsRow B' e' sz' u m ys) (hg : W.grownBy W' u.ownBlock) (hne : e≠e') : W'.ownsRow B e sz v n xs:=
 g_same h fun k hk=>hg.block k (h.lt k hk).2 fun ek=>by
  obtain⟨-,c1,hc1⟩:=g_type h hk;obtain⟨-,c2,hc2⟩:=g_type hu ek.symm;rw [hc1] at hc2
  cases hc2;exact hne rfl
theorem At.own {X' : World} {row : Option Nat} (h : At d ve W s X s1 t c) (h0 : Gen d ve W s) (hg : X.grownBy X' row) (hr : ∀ g,row=some g→W.heap.size≤g) : At d ve W s X' s1 t c:=by
 have hs:=h.2.1.size;have h1:=h0.ltB;have h2:=h0.ltG;have hne : ∀ q,q < W.heap.size→some q≠row:=fun q hq e=>by have:=hr q e.symm; omega
 have hgr : Grew d W X':= ⟨hg.os.trans h.2.1.os,hg.tape.trans h.2.1.tape,hg.output.trans h.2.1.output,Nat.le_trans hs hg.size,fun q hq=>(hg.block q (by have:=hq.1; omega) (hne q hq.1)).trans (h.2.1.block q hq)⟩
 refine⟨⟨⟨(hg.block _ (by omega) (hne _ h1)).trans h.1.rd.blk,fun hl=>?_⟩,(hg.block _ (by omega) (hne _ h2)).trans h.1.blk,h.1.ne⟩,hgr,h.2.2⟩;obtain⟨b,off,ea,hq,hz⟩:=h0.rd.bytes hl;refine⟨b,off,ea,hq.grew hgr,fun i hi=>?_⟩;obtain⟨z,hz,h3⟩:=hz i hi;exact⟨z,(hgr.cell (p:=⟨b,off+i,none⟩) hq).trans hz,h3⟩
theorem Lies.congr {F H : Nat→Value} (h : Lies d W v n sz F) (e : ∀ i,i < n*sz→F i=H i) : Lies d W v n sz H:=by
 rcases h with h | ⟨b,off,cap,h1,h2,h3,h4,h5⟩
 ·exact Or.inl h
 ·exact Or.inr ⟨b,off,cap,h1,h2,h3,h4,fun i hi=>by rw [h5 i hi,e i hi]⟩
def boV (b : Bool) (_ : Nat) : Value:= .bool b
def gnV (j : Nat) (_ : Nat) : Value:= .int .i64 (j : Int)
theorem info_bool : (Tryz.prog.info? 4).map (fun i=>(i.zero,i.size,i.bytes))=some (some (.bool false),1,1):=by kernel_rfl
theorem info_int : (Tryz.prog.info? 3).map (fun i=>(i.zero,i.size,i.bytes))=some (some (.int .i64 0),1,8):=by kernel_rfl
theorem info_list : (Tryz.prog.info? 24).map (fun i=>(i.zero,i.size,i.bytes))=some (some (.slice none 0 0),1,24):=by kernel_rfl
theorem bools_lies (h : BoolsD d W v ms) : Lies d W v ms.length 1 (fun i=>boV (ms.getD (i / 1) default) (i % 1)):=
 Lies.congr h fun i _=>by rw [Nat.div_one]; rfl
theorem bools_own (h : W.ownsRow B 4 1 v ms.length (rowZ boV 1 ms)) (h1 : d.B < B) (h2 : d.G < B) : BoolsD d W v ms:=
 (lies_owns (f:=boV) (by decide) h h1 h2).congr fun i _=>by rw [Nat.div_one]; rfl
theorem rowZ_set (ms : List Bool) (i : Nat) (b : Bool) : (rowZ boV 1 ms).set i (.bool b)=rowZ boV 1 (ms.set i b):=by
 have e : ∀ l : List Bool,rowZ boV 1 l=l.map fun x=> .bool x:=fun l=>by
  unfold rowZ;induction l with
  | nil=>rfl
  | cons x l ih=>rw [List.flatMap_cons,ih]; rfl
 rw [e,e,List.map_set]
theorem bools_set (h : W.ownsRow B 4 1 v ms.length (rowZ boV 1 ms)) (hi : i < ms.length) (b : Bool) :
 ∃ g cap u,v= .slice (some ⟨g,0,none⟩) ms.length cap∧B≤g∧g < W.heap.size∧W.cell? ⟨g,i,none⟩=some u∧W.frozen? ⟨g,i,none⟩=false∧(W.setCell ⟨g,i,none⟩ (.bool b)).ownsRow B 4 1 v (ms.set i b).length (rowZ boV 1 (ms.set i b))∧W.grownBy (W.setCell ⟨g,i,none⟩ (.bool b)) (some g):=by
 have h':= h;obtain⟨-,⟨-,h0⟩ | ⟨g,cap,cur,rfl,hB,hc,hnc,hcm,hsz,htake⟩⟩:=h
 ·omega
 ·refine⟨g,cap,_,rfl,hB,z13 hc,(h'.cellAt i (by omega)).trans (z65 boV 1 (by decide) ms i (by omega)),z12 hc i,?_,kept_set (kept_refl W (some g)) i _⟩;refine⟨rowZ_len _ _ _,Or.inr ⟨g,cap,cur.setIfInBounds i (.bool b),by rw [List.length_set],hB,?_,by rw [List.length_set]; exact hnc,hcm,by simpa using hsz,?_⟩⟩
  ·rw [setCell_eq_setRow W g i cur 4 (0,0) (.bool b) hc];exact setRow_heap W g _ _ 4 _ hc
  ·rw [← rowZ_set,← htake,List.length_set,Array.toList_setIfInBounds,List.take_set]
structure Kd where
 ad : Option Addr
 cp : Nat
 ns : List Nd
instance : Inhabited Kd:=⟨⟨none,0,[]⟩⟩
def Kd.val (k : Kd) : Value:= .slice k.ad k.ns.length k.cp
def kdV (k : Kd) (_ : Nat) : Value:=k.val
theorem kd_one (k : Kd) (i : Nat) : (kdV k i).oneCell'= true:=rfl
theorem in_one (j i : Nat) : (gnV j i).oneCell'= true:=rfl
theorem bo_one (b : Bool) (i : Nat) : (boV b i).oneCell'= true:=rfl
def kdL (ls : List Kd) : List (Value×List Nd):=ls.map fun k=>(k.val,k.ns)
theorem kids_own {ls : List Kd} (h : X.ownsRow B 24 1 v ls.length (rowZ kdV 1 ls)) (h1 : d.B < B) (h2 : d.G < B) (hn : ∀ k∈ls,NodesD d X k.val k.ns) : KidsV d X v (kdL ls):=by
 refine⟨?_,fun x hx=>?_⟩
 ·have hl : (kdL ls).length=ls.length:=by simp [kdL]
  rw [hl];refine (lies_owns (f:=kdV) (by decide) h h1 h2).congr fun i hi=>?_
  rw [Nat.div_one];rw [Nat.mul_one] at hi;simp [kdL,kdV,List.getD,hi]
 ·unfold kdL at hx;rw [List.mem_map] at hx;obtain⟨k,hk,rfl⟩:=hx;exact hn k hk
theorem NodesD.other {X' : World} {u : Value} {ns : List Nd} {ls : List Kd} (h : NodesD d X v ns) (hu : X.ownsRow B 24 1 u ls.length (rowZ kdV 1 ls)) (h1 : 1≤ls.length) (hg : X.grownBy X' u.ownBlock) : NodesD d X' v ns:=by
 obtain⟨h,hb⟩:=h;refine⟨?_,hb⟩;rcases h with h | ⟨b,off,cap,rfl,hn,rfl,hq,hc⟩
 ·exact Or.inl h
 ·refine Or.inr ⟨b,0,cap,rfl,hn,rfl,⟨Nat.lt_of_lt_of_le hq.1 hg.size,hq.2⟩,fun i hi=>?_⟩;have hne : some b≠u.ownBlock:=fun e=>by
   have h':= hu;obtain⟨-,⟨-,h0⟩ | ⟨g,cap',cur,rfl,hB,hcc,-⟩⟩:=hu
   ·omega
   ·simp [Value.ownBlock] at e;subst e;have e1:=h'.cellAt 0 (by omega);rw [z65 kdV 1 (by decide) ls 0 (by omega)] at e1;have e2:=hc 0 (by omega);rw [Nat.zero_add,e1] at e2
    cases e2
  exact (World.cell?_of_block (a:=⟨b,0+i,none⟩) (hg.block b hq.1 hne)).trans (hc i hi)
structure Hn (d : Dr) (ve : Value) (W : World) (s : Cn) (X : World) (s1 : Cn) (t c : Nat) (vk : Value) (ls : List Kd) (vo : Value) (os : List Nat) : Prop where
 at_ : At d ve W s X s1 t c
 kids : X.ownsRow W.heap.size 24 1 vk ls.length (rowZ kdV 1 ls)
 ops : X.ownsRow W.heap.size 3 1 vo os.length (rowZ gnV 1 os)
 nodes : ∀ k∈ls,NodesD d X k.val k.ns
 some_ : 1≤ls.length
theorem kd_lit (X : World) (k : Kd) (h1 : d.B < X.heap.size) (h2 : d.G < X.heap.size) : Lies d (X.alloc (.cells #[.slice k.ad k.ns.length k.cp] 24)) (.slice (some ⟨X.heap.size,0,none⟩) 1 1) [k].length 1 (fun i=>kdV ([k].getD (i / 1) default) (i % 1)):=
 lies_lit (f:=kdV) (sz:=1) (by decide) X 24 [k] _ rfl h1 h2
theorem hn_start {vo : Value} (ha : At d ve W s X s1 t c) (ho : X.ownsRow W.heap.size 3 1 vo os.length (rowZ gnV 1 os)) (k1 k2 : Kd) (h1 : NodesD d X k1.val k1.ns) (h2 : NodesD d X k2.val k2.ns) :
 Hn d ve W s (X.alloc (.cells #[k1.val,k2.val] 24)) s1 t c (.slice (some ⟨X.heap.size,0,none⟩) 2 2) [k1,k2] vo os:=by
 have hg : Grew d X (X.alloc (.cells #[k1.val,k2.val] 24)):=(Grew.refl d X).alloc _;refine⟨ha.alloc _,World.ownsRow_lit (base:=W.heap.size) (e:=24) (size:=1) X #[k1.val,k2.val] 2 ha.2.1.size (by unfold maxLen; omega) rfl,ho.alloc _,fun k hk=>?_,by simp⟩;simp at hk;rcases hk with rfl | rfl
 ·exact h1.grew hg
 ·exact h2.grew hg
def boxW (X : World) (nm : ByteArray) (ar re : Int) : World:=(((X.alloc (.cells #[.string ⟨#[]⟩,.int .i64 0,.int .i64 0] 45)).setCell ⟨X.heap.size,0,none⟩ (.string nm)).setCell ⟨X.heap.size,1,none⟩ (.int .i64 ar)).setCell ⟨X.heap.size,2,none⟩ (.int .i64 re)
theorem z58 {g : Nat} {c : Array Value} {t : TypeId} (h : W.heap[g]? =some (.cells c t)) : (W.setCell ⟨g,i,none⟩ v).heap[g]? =some (.cells (c.setIfInBounds i v) t):=by
 rw [setCell_eq_setRow W g i c t (0,0) v h];exact setRow_heap W g _ _ t _ h
theorem boxW_heap (X : World) (nm : ByteArray) (ar re : Int) : (boxW X nm ar re).heap[X.heap.size]? =some (.cells #[.string nm,.int .i64 ar,.int .i64 re] 45):=
 z58 (z58 (z58 (MapKept.heap_alloc X _).1))
theorem boxW_below (X : World) (nm : ByteArray) (ar re : Int) : Below X.heap.size X (boxW X nm ar re):=
 (((((Below.refl _ _).alloc (Nat.le_refl _) _).setCell (Nat.le_refl _) _).setCell (Nat.le_refl _) _).setCell (Nat.le_refl _) _)
theorem ops_at {ad : Option Addr} {cp : Nat} (h : X.ownsRow B 3 1 (.slice ad n cp) os.length (rowZ gnV 1 os)) (hi : i < os.length) : ∃ g j,ad=some ⟨g,0,none⟩∧j∈os∧B≤g∧g < X.heap.size∧X.cell? ⟨g,i,none⟩=some (.int .i64 (j : Int)):=by
 have h':= h;obtain⟨-,⟨-,h0⟩ | ⟨g,cap,cur,e,hB,hc,-⟩⟩:=h
 ·omega
 ·cases e;exact⟨g,os.getD i default,rfl,getD_mem hi,hB,z13 hc,(h'.cellAt i (by omega)).trans ((z65 gnV 1 (by decide) os i (by omega)).trans (by rw [Nat.div_one]; rfl))⟩
theorem Hn.app {wr : World} {s2 : Cn} {t' c' : Nat} {vk vo : Value} {ls : List Kd} (h : Hn d ve W s wr s1 t c vk ls vo os) (h0 : Gen d ve W s) (ha : At d ve W s X s2 t' c') (hg : Grew d wr X) (k : Kd) (hk : NodesD d X k.val k.ns) (hl : ls.length≤1000) (ty : TypeId) :
 ∃ v' X',(Builtin.append_ #[139,139] ty #[vk,.slice (some ⟨X.heap.size,0,none⟩) 1 1]).run Tryz.prog (X.alloc (.cells #[.slice k.ad k.ns.length k.cp] 24))= .ok v' X'∧Hn d ve W s X' s2 t' c' v' (ls++ [k]) vo os:=by
 obtain⟨i0,hinf,hz0,hz1,hz2⟩:=info_parts info_list;have hkX:=(g_grew h.kids h0.ltB h0.ltG hg).alloc (.cells #[.slice k.ad k.ns.length k.cp] 24);have hoX:=(g_grew h.ops h0.ltB h0.ltG hg).alloc (.cells #[.slice k.ad k.ns.length k.cp] 24);have haX:=ha.alloc (.cells #[.slice k.ad k.ns.length k.cp] 24);have hgX : Grew d X (X.alloc (.cells #[.slice k.ad k.ns.length k.cp] 24)):=(Grew.refl d X).alloc _;have hli:=kd_lit X k ha.1.ltB ha.1.ltG;obtain⟨v',X',hr,ho,hgr⟩:=app_row (d:=d) kd_one Tryz.underlying139 hinf hz0 hz1 hz2 rfl (by decide) (by decide) hkX hli (by simp; omega) haX.2.1.size ty
 refine⟨v',X',hr,haX.own h0 hgr (fun g hg=>(hkX.lt g hg).1),ho,g_other hoX hkX hgr (by decide),fun x hx=>?_,by simp⟩;rw [List.mem_append,List.mem_singleton] at hx;rcases hx with hx | rfl
 ·exact (((h.nodes x hx).grew hg).grew hgX).other hkX h.some_ hgr
 ·exact (hk.grew hgX).other hkX h.some_ hgr
end
end Go.Proofs.YtfbojelpdccjaaaGreatDoor
