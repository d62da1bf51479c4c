import Derived.Test.YtfbojelpdccjaaaGreatDoorRows
import Derived.WalkKit
import Derived.ProofKit
import Derived.Laws.Bits64
import Derived.Test.YtfbojelpdccjaaaGreatDoorPkB5
import Derived.Test.YtfbojelpdccjaaaGreatDoorPkB6
set_option maxRecDepth 100000
namespace Go.Proofs.YtfbojelpdccjaaaGreatDoor
open Go.RowKit
variable {ms : List Bool} {ns : List Nd} {n p sz : Nat} {F : Nat→Value} {v ve : Value} {W W' : World}
section
open Go.RowKit
structure Picked (B : Nat) (p : Nat) (w w' : World) : Prop where
 cell0 : w'.cell? ⟨B,0,none⟩=w.cell? ⟨B,0,none⟩
 cell1 : w'.cell? ⟨B,1,none⟩=some (.int .i64 ((p : Int)+1))
 frozen : w'.frozen? ⟨B,1,none⟩=w.frozen? ⟨B,1,none⟩
 other : ∀ a : Addr,a.block≠B→w'.cell? a=w.cell? a
 below : ∀ n,n≤B→Below n w w'
 how : w'= w.setCell ⟨B,1,none⟩ (.int .i64 ((p : Int)+1))∨w'= (w.setCell ⟨B,1,none⟩ (.int .i64 ((p : Int)+1))).drew
theorem picked_set (B p : Nat) (w : World) (h1 : w.cell? ⟨B,1,none⟩=some (.int .i64 p)) : Picked B p w (w.setCell ⟨B,1,none⟩ (.int .i64 ((p : Int)+1))) where
 cell0:=by simp [go_sem]
 cell1:=World.cell?_setCell_same' _ _ _ (by rw [h1]; rfl)
 frozen:=by simp
 other:=fun a ha=>World.cell?_of_block (w:=w) (Below.heap_setCell w _ _ a.block ha)
 below:=fun n hn=>(Below.refl n w).setCell hn _
 how:=Or.inl rfl
theorem picked_drew (B p : Nat) (w : World) (h1 : w.cell? ⟨B,1,none⟩=some (.int .i64 p)) : Picked B p w (w.setCell ⟨B,1,none⟩ (.int .i64 ((p : Int)+1))).drew where
 cell0:=(picked_set B p w h1).cell0
 cell1:=(picked_set B p w h1).cell1
 frozen:=(picked_set B p w h1).frozen
 other:=(picked_set B p w h1).other
 below:=fun n hn=>((picked_set B p w h1).below n hn).drew
 how:=Or.inr rfl
theorem xor_i64 (a b : Nat) (ha : a < 4611686018427387904) (hb : b < 4611686018427387904) :
 bits .xor .i64 (a : Int) (b : Int)=((a ^^^ b : Nat) : Int):=by
 have hx : a ^^^ b < 2 ^ 62:=Nat.xor_lt_two_pow (by omega) (by omega);have h1 : (BitVec.ofInt 64 (a : Int)).toNat=a:=by
  rw [BitVec.ofInt_natCast,BitVec.toNat_ofNat]; exact Nat.mod_eq_of_lt (by omega)
 have h2 : (BitVec.ofInt 64 (b : Int)).toNat=b:=by
  rw [BitVec.ofInt_natCast,BitVec.toNat_ofNat]; exact Nat.mod_eq_of_lt (by omega)
 show IntKind.i64.wrap ((BitVec.ofInt 64 (a : Int) ^^^ BitVec.ofInt 64 (b : Int)).toNat : Int)=_;rw [BitVec.toNat_xor,h1,h2,IntKind.wrap_i64];omega
def PickPost (B p : Nat) (n : Int) (w : World) (e : Ending) (w' : World) : Prop:=
 (∃ r,e= .returned (.int .i64 r)∧0≤r∧(0 < n→r < n))∧Picked B p w w'
theorem pick_none (B : Nat) (a0 : Option Addr) (len cap : Nat) (p : Nat) (n : Int) (w : World)
 (h0 : w.cell? ⟨B,0,none⟩=some (.slice a0 len cap)) (h1 : w.cell? ⟨B,1,none⟩=some (.int .i64 p))
 (hfz : w.frozen? ⟨B,1,none⟩=false) (hp : p≤1000000) (hn : n < 1∨len=0) :
 Calls Tryz.prog 37 #[.pointer (some ⟨B,0,none⟩),.int .i64 n] w (PickPost B p n w):=by
 have hn' : n < 1∨((len : Int)==0)=true:=by
  rcases hn with h | h
  ·exact Or.inl h
  ·exact Or.inr (by simp [h])
 rcases hn' with hn' | hn'
 all_goals
  go_enter Tryz.func37,Tryz.ntmps37
  go_wp2
  all_goals
   go_ret;exact⟨⟨0,rfl,Int.le_refl _,fun h=>h⟩,picked_set B p w h1⟩
theorem pick_near (B b off : Nat) (len cap : Nat) (p : Nat) (z n : Int) (w : World)
 (h0 : w.cell? ⟨B,0,none⟩=some (.slice (some ⟨b,off,none⟩) len cap)) (h1 : w.cell? ⟨B,1,none⟩=some (.int .i64 p))
 (hfz : w.frozen? ⟨B,1,none⟩=false) (hp : p≤1000000) (hn : 1≤n) (hlt : p < len) (hbB : b≠B)
 (hz : w.cell? ⟨b,off+p,none⟩=some (.int .u8 z)) (hz0 : 0≤z) (hz1 : z≤255) :
 Calls Tryz.prog 37 #[.pointer (some ⟨B,0,none⟩),.int .i64 n] w (PickPost B p n w):=by
 have hl : ((len : Int)==0)=false:=by simp; omega
 go_enter Tryz.func37,Tryz.ntmps37
 go_wp2
 go_ret;exact⟨⟨z % n,rfl,Int.emod_nonneg _ (by omega),fun h=>Int.emod_lt_of_pos _ h⟩,picked_set B p w h1⟩
theorem far_sum (z y : Int) (p len : Nat) (hp : p≤1000000) (hz0 : 0≤z) (hz1 : z≤255) (hy0 : 0≤y) (hy1 : y≤255) :
 ∃ x : Nat,x≤1000000000000∧wrap64 (z*131+y*1117+(p : Int)*29+wrap64 (wrap64 ((p : Int) / (len : Int))*53))=(x : Int):=by
 have hq : ((p : Int) / (len : Int))=((p / len : Nat) : Int):=by omega
 have hq2 : p / len≤p:=Nat.div_le_self _ _;rw [hq];generalize p / len=q at hq2;rw [IntWalk.wrap64_in (q : Int) ⟨by omega,by omega⟩,IntWalk.wrap64_in ((q : Int)*53) ⟨by omega,by omega⟩,IntWalk.wrap64_in _ ⟨by omega,by omega⟩];exact⟨(z*131+y*1117+(p : Int)*29+(q : Int)*53).toNat,by omega,by omega⟩
theorem far_nat (x : Nat) (hx : x≤1000000000000) : bits .xor .i64 (x : Int) (wrap64 ((x : Int) / 64))=((x ^^^ (x / 64) : Nat) : Int):=by
 rw [show ((x : Int) / 64)=((x / 64 : Nat) : Int) by omega,IntWalk.wrap64_in _ ⟨by omega,by omega⟩];exact xor_i64 _ _ (by omega) (by omega)
theorem far_low (x : Nat) (hx : x≤1000000000000) (n : Int) : 0≤(bits .xor .i64 (x : Int) (wrap64 ((x : Int) / 64))).tmod n:=by
 rw [far_nat x hx];exact Int.tmod_nonneg _ (Int.natCast_nonneg _)
theorem far_high (x : Nat) (hx : x≤1000000000000) (n : Int) (hn : 0 < n) : (bits .xor .i64 (x : Int) (wrap64 ((x : Int) / 64))).tmod n < n:=by
 rw [far_nat x hx];exact Int.tmod_lt_of_pos _ hn
theorem pick_far (B b off : Nat) (len cap : Nat) (p : Nat) (z y n : Int) (w : World)
 (h0 : w.cell? ⟨B,0,none⟩=some (.slice (some ⟨b,off,none⟩) len cap)) (h1 : w.cell? ⟨B,1,none⟩=some (.int .i64 p))
 (hfz : w.frozen? ⟨B,1,none⟩=false) (hp : p≤1000000) (hn : 1≤n) (hl1 : 1≤len) (hlt : len≤p) (hbB : b≠B)
 (i j : Nat) (hi : ((p : Int)) % (len : Int)=i) (hj : ((p : Int)*7+3) % (len : Int)=j) (hil : i < len) (hjl : j < len)
 (hz : w.cell? ⟨b,off+i,none⟩=some (.int .u8 z)) (hz0 : 0≤z) (hz1 : z≤255)
 (hy : w.cell? ⟨b,off+j,none⟩=some (.int .u8 y)) (hy0 : 0≤y) (hy1 : y≤255) :
 Calls Tryz.prog 37 #[.pointer (some ⟨B,0,none⟩),.int .i64 n] w (PickPost B p n w):=by
 have hl : ((len : Int)==0)=false:=by simp; omega
 obtain⟨x,hx,ex⟩:=far_sum z y p len hp hz0 hz1 hy0 hy1;have hx' : Hid (x≤1000000000000):=hx;have ex' : Hid (wrap64 (z*131+y*1117+(p : Int)*29+wrap64 (wrap64 ((p : Int) / (len : Int))*53))=(x : Int)):=ex;clear ex hx;go_enter Tryz.func37,Tryz.ntmps37
 go_wp2
 go_region
 rw [ex'.out];go_wp2
 go_ret;refine⟨⟨_,rfl,?_,?_⟩,picked_drew B p w h1⟩
 ·exact far_low x hx'.out n
 ·exact far_high x hx'.out n
theorem pick_calls (B : Nat) (a0 : Option Addr) (len cap : Nat) (p : Nat) (n : Int) (w : World)
 (h0 : w.cell? ⟨B,0,none⟩=some (.slice a0 len cap)) (h1 : w.cell? ⟨B,1,none⟩=some (.int .i64 p))
 (hfz : w.frozen? ⟨B,1,none⟩=false) (hp : p≤1000000)
 (hc : 0 < len→ ∃ b off,a0=some ⟨b,off,none⟩∧b≠B∧ ∀ i,i < len→ ∃ z,w.cell? ⟨b,off+i,none⟩=some (.int .u8 z)∧0≤z∧z≤255) :
 Calls Tryz.prog 37 #[.pointer (some ⟨B,0,none⟩),.int .i64 n] w (PickPost B p n w):=by
 by_cases hn : n < 1∨len=0
 ·exact pick_none B a0 len cap p n w h0 h1 hfz hp hn
 ·have hl : 0 < len:=by omega
  obtain⟨b,off,rfl,hbB,hz⟩:=hc hl;by_cases hlt : p < len
  ·obtain⟨z,hz,hz0,hz1⟩:=hz p hlt;exact pick_near B b off len cap p z n w h0 h1 hfz hp (by omega) hlt hbB hz hz0 hz1
  ·obtain⟨z,hzc,hz0,hz1⟩:=hz (p % len) (Nat.mod_lt _ hl);obtain⟨y,hyc,hy0,hy1⟩:=hz ((p*7+3) % len) (Nat.mod_lt _ hl);exact pick_far B b off len cap p z y n w h0 h1 hfz hp (by omega) hl (by omega) hbB (p % len) ((p*7+3) % len) (by omega) (by first | (push_cast; rfl) | simp)
    (Nat.mod_lt _ hl) (Nat.mod_lt _ hl) hzc hz0 hz1 hyc hy0 hy1
end
section
open Go.RowKit Go.Deep
structure Dr where
 B : Nat
 G : Nat
 a0 : Option Addr
 len : Nat
 cap : Nat
def Dr.free (d : Dr) (W : World) (q : Nat) : Prop:=q < W.heap.size∧q≠d.B∧q≠d.G
structure Grew (d : Dr) (W W' : World) : Prop where
 os : W'.os=W.os
 tape : W'.tape=W.tape
 output : W'.output=W.output
 size : W.heap.size≤W'.heap.size
 block : ∀ q,d.free W q→W'.heap[q]? =W.heap[q]?
theorem Grew.refl (d : Dr) (W : World) : Grew d W W:=⟨rfl,rfl,rfl,Nat.le_refl _,fun _ _=>rfl⟩
theorem Dr.free.grew {d : Dr} {q : Nat} (h : d.free W q) (g : Grew d W W') : d.free W' q:=⟨Nat.lt_of_lt_of_le h.1 g.size,h.2⟩
theorem Grew.trans {d : Dr} {W'' : World} (h : Grew d W W') (g : Grew d W' W'') : Grew d W W'':=
 ⟨g.os.trans h.os,g.tape.trans h.tape,g.output.trans h.output,Nat.le_trans h.size g.size,fun q hq=>(g.block q (hq.grew h)).trans (h.block q hq)⟩
theorem Grew.of_below {d : Dr} (h : Below W.heap.size W W') : Grew d W W':= ⟨h.os,h.tape,h.output,h.size,fun q hq=>h.block q hq.1⟩
theorem Grew.alloc {d : Dr} (h : Grew d W W') (o : Obj) : Grew d W (W'.alloc o):=h.trans (Grew.of_below ((Below.refl _ _).alloc (Nat.le_refl _) _))
theorem Grew.drew {d : Dr} (h : Grew d W W') : Grew d W W'.drew:=⟨h.os,h.tape,h.output,h.size,h.block⟩
theorem Grew.below {d : Dr} (h : Grew d W W') (hn : n≤W.heap.size) (h1 : n≤d.B) (h2 : n≤d.G) : Below n W W':=
 ⟨h.os,h.tape,h.output,h.size,fun q hq=>h.block q ⟨by omega,by omega,by omega⟩⟩
theorem Grew.cell {d : Dr} (h : Grew d W W') {p : Addr} (hq : d.free W p.block) : W'.cell? p=W.cell? p:=World.cell?_of_block (h.block _ hq)
def Lies (d : Dr) (W : World) (v : Value) (n sz : Nat) (F : Nat→Value) : Prop:=
 (v= .slice none 0 0∧n=0)∨ ∃ b off cap,v= .slice (some ⟨b,off,none⟩) n cap∧n≤cap∧off=0∧d.free W b∧ ∀ i,i < n*sz→W.cell? ⟨b,off+i,none⟩=some (F i)
theorem Lies.grew {d : Dr} (h : Lies d W v n sz F) (g : Grew d W W') : Lies d W' v n sz F:=by
 rcases h with h | ⟨b,off,cap,rfl,hn,hz,hq,hc⟩
 ·exact Or.inl h
 ·exact Or.inr ⟨b,off,cap,rfl,hn,hz,hq.grew g,fun i hi=>(g.cell (p:=⟨b,off+i,none⟩) hq).trans (hc i hi)⟩
theorem Lies.is {d : Dr} (h : Lies d W v n sz F) : ∃ ad cp,v= .slice ad n cp:=by
 rcases h with ⟨rfl,rfl⟩ | ⟨b,off,cap,rfl,-⟩
 ·exact⟨_,_,rfl⟩
 ·exact⟨_,_,rfl⟩
theorem Lies.at {d : Dr} {ad : Option Addr} {cp n' : Nat} (h : Lies d W (.slice ad n cp) n' sz F) (h0 : 0 < n) : n'= n∧n≤cp∧ ∃ b off,ad=some ⟨b,off,none⟩∧d.free W b∧ ∀ i,i < n*sz→W.cell? ⟨b,off+i,none⟩=some (F i):=by
 rcases h with ⟨e,rfl⟩ | ⟨b,off,cap,e,hn,-,hq,hc⟩
 ·cases e; omega
 ·cases e;exact⟨rfl,hn,b,off,rfl,hq,hc⟩
structure Kn where
 name : ByteArray
 ty : Int
 res : Int
instance : Inhabited Kn:=⟨⟨ByteArray.empty,0,0⟩⟩
def Kn.cell (k : Kn) : Nat→Value
 | 0=> .string k.name
 | 1=> .int .i64 k.ty
 | _=> .int .i64 k.res
def Brief (s : ByteArray) : Prop:=s.size≤100
def NodesD (d : Dr) (W : World) (v : Value) (ns : List Nd) : Prop:=Lies d W v ns.length 6 (fun i=>(ns.getD (i / 6) default).cell (i % 6))∧ ∀ n∈ns,Brief n.a∧Brief n.b∧Brief n.c
def KnowsD (d : Dr) (W : World) (v : Value) (ks : List Kn) : Prop:=Lies d W v ks.length 3 (fun i=>(ks.getD (i / 3) default).cell (i % 3))∧ ∀ k∈ks,Brief k.name
def BoolsD (d : Dr) (W : World) (v : Value) (ms : List Bool) : Prop:=Lies d W v ms.length 1 (fun i=> .bool (ms.getD i false))
theorem NodesD.grew {d : Dr} (h : NodesD d W v ns) (g : Grew d W W') : NodesD d W' v ns:=⟨h.1.grew g,h.2⟩
theorem KnowsD.grew {d : Dr} {ks : List Kn} (h : KnowsD d W v ks) (g : Grew d W W') : KnowsD d W' v ks:=⟨h.1.grew g,h.2⟩
theorem BoolsD.grew {d : Dr} (h : BoolsD d W v ms) (g : Grew d W W') : BoolsD d W' v ms:=Lies.grew h g
theorem getD_mem {α : Type} [Inhabited α] {l : List α} {k : Nat} (h : k < l.length) : l.getD k default∈l:=by
 rw [show l.getD k default=l[k] by simp [List.getD,h]];exact List.getElem_mem h
theorem cell_div {α : Type} [Inhabited α] (l : List α) (f : α→Nat→Value) (sz k c : Nat) (hc : c < sz) : f (l.getD ((k*sz+c) / sz) default) ((k*sz+c) % sz)=f (l.getD k default) c:=by
 rw [Nat.mul_comm k sz,Nat.mul_add_div (by omega),Nat.div_eq_of_lt hc,Nat.mul_add_mod,Nat.mod_eq_of_lt hc,Nat.add_zero]
theorem NodesD.slice {d : Dr} (h : NodesD d W v ns) : NodeSlice W v ns:=by
 obtain⟨h,-⟩:=h;rcases h with ⟨rfl,h⟩ | ⟨b,off,cap,rfl,hn,-,hq,hc⟩
 ·exact⟨none,0,by rw [h],Or.inl (List.eq_nil_of_length_eq_zero h)⟩
 ·refine⟨_,cap,rfl,Or.inr ⟨b,off,rfl,hq.1,fun k hk c hc'=> ?_⟩⟩;rw [Nat.add_assoc,hc (k*6+c) (by omega)];exact congrArg some (cell_div ns Nd.cell 6 k c hc')
theorem KnowsD.at {d : Dr} {W : World} {ad : Option Addr} {n cp : Nat} {ks : List Kn} (h : KnowsD d W (.slice ad n cp) ks) {i : Nat} (hi : i < n) : ∃ b off nm ty res,ad=some ⟨b,off,none⟩∧ks.getD i default=⟨nm,ty,res⟩∧Brief nm∧d.free W b∧W.cell? ⟨b,off+i*3,none⟩=some (.string nm)∧W.cell? ⟨b,off+i*3+1,none⟩=some (.int .i64 ty)∧W.cell? ⟨b,off+i*3+2,none⟩=some (.int .i64 res):=by
 obtain⟨h,hB⟩:=h;obtain⟨hl,-,b,off,rfl,hq,hc⟩:=h.at (by omega);obtain⟨k,hk⟩ : ∃ k,ks.getD i default=k:=⟨_,rfl⟩
 have hb:=hB _ (getD_mem (l:=ks) (k:=i) (by omega));have e : ∀ c,c < 3→W.cell? ⟨b,off+(i*3+c),none⟩=some (k.cell c):=fun c hc'=> by
  rw [hc (i*3+c) (by omega),← hk];exact congrArg some (cell_div ks Kn.cell 3 i c hc')
 rw [hk] at hb;obtain⟨nm,ty,res⟩:=k;exact⟨b,off,nm,ty,res,rfl,hk,hb,hq,e 0 (by omega),e 1 (by omega),e 2 (by omega)⟩
theorem KnowsD.is {d : Dr} {ks : List Kn} (h : KnowsD d W v ks) : ∃ ad cp,v= .slice ad ks.length cp:=h.1.is
theorem NodesD.is {d : Dr} (h : NodesD d W v ns) : ∃ ad cp,v= .slice ad ns.length cp:=h.1.is
theorem BoolsD.is {d : Dr} (h : BoolsD d W v ms) : ∃ ad cp,v= .slice ad ms.length cp:=Lies.is h
theorem BoolsD.at {d : Dr} {ad : Option Addr} {cp : Nat} (h : BoolsD d W (.slice ad n cp) ms) {i : Nat} (hi : i < n) : ∃ b off,ad=some ⟨b,off,none⟩∧d.free W b∧W.cell? ⟨b,off+i,none⟩=some (.bool (ms.getD i false)):=by
 obtain⟨hl,-,b,off,rfl,hq,hc⟩:=Lies.at h (by omega);exact⟨b,off,rfl,hq,hc i (by omega)⟩
structure Cn where
 p : Nat
 left : Int
 next : Nat
structure Rdr (d : Dr) (W : World) (p : Nat) : Prop where
 blk : W.heap[d.B]? =some (.cells #[.slice d.a0 d.len d.cap,.int .i64 (p : Int)] 79)
 bytes : 0 < d.len→ ∃ b off,d.a0=some ⟨b,off,none⟩∧d.free W b∧ ∀ i,i < d.len→ ∃ z,W.cell? ⟨b,off+i,none⟩=some (.int .u8 z)∧0≤z∧z≤255
structure Gen (d : Dr) (ve : Value) (W : World) (s : Cn) : Prop where
 rd : Rdr d W s.p
 blk : W.heap[d.G]? =some (.cells #[.pointer (some ⟨d.B,0,none⟩),ve,.int .i64 s.left,.int .i64 (s.next : Int)] 111)
 ne : d.B≠d.G
theorem Rdr.same {d : Dr} (h : Rdr d W p) (g : Grew d W W') (e : W'.heap[d.B]? =W.heap[d.B]?) : Rdr d W' p:=by
 refine⟨e.trans h.blk,fun hl=>?_⟩;obtain⟨b,off,ea,hq,hz⟩:=h.bytes hl;refine⟨b,off,ea,hq.grew g,fun i hi=>?_⟩;obtain⟨z,hz,h2⟩:=hz i hi;exact⟨z,(g.cell (p:=⟨b,off+i,none⟩) hq).trans hz,h2⟩
theorem Gen.below {d : Dr} {s : Cn} (h : Gen d ve W s) (hb : Below W.heap.size W W') : Gen d ve W' s:=
 ⟨h.rd.same (Grew.of_below hb) (hb.block _ (z13 h.rd.blk)),(hb.block _ (z13 h.blk)).trans h.blk,h.ne⟩
theorem Gen.alloc {d : Dr} {s : Cn} (h : Gen d ve W s) (o : Obj) : Gen d ve (W.alloc o) s:=h.below ((Below.refl _ _).alloc (Nat.le_refl _) _)
theorem Gen.drew {d : Dr} {s : Cn} (h : Gen d ve W s) : Gen d ve W.drew s:=⟨⟨h.rd.blk,h.rd.bytes⟩,h.blk,h.ne⟩
theorem Rdr.below {d : Dr} (h : Rdr d W p) (hb : Below W.heap.size W W') : Rdr d W' p:=h.same (Grew.of_below hb) (hb.block _ (z13 h.blk))
def Spent (s s' : Cn) (t c : Nat) : Prop:=s'.p≤s.p+t∧s'.next≤s.next+t∧s.left - t≤s'.left∧s'.left≤s.left∧t+300*s'.left.toNat≤300*s.left.toNat+c
def Fit (s : Cn) (c : Nat) : Prop:=s.p+300*s.left.toNat+c≤900000∧s.next+300*s.left.toNat+c≤900000∧ -900000≤s.left - 300*s.left.toNat - c∧s.left≤1000
theorem Rdr.picked {d : Dr} (h : Rdr d W p) (hg : Grew d W W') (hb : W'.heap[d.B]? =some (.cells #[.slice d.a0 d.len d.cap,.int .i64 ((p : Int)+1)] 79)) : Rdr d W' (p+1):=by
 refine⟨by rw [hb]; push_cast; rfl,fun hl=>?_⟩;obtain⟨b,off,ea,hq,hz⟩:=h.bytes hl;refine⟨b,off,ea,hq.grew hg,fun i hi=>?_⟩;obtain⟨z,hz,h2⟩:=hz i hi;exact⟨z,(hg.cell (p:=⟨b,off+i,none⟩) hq).trans hz,h2⟩
theorem z39 {d : Dr} (h : Rdr d W p) (hp : p≤1000000) (n : Int) (hn : 0 < n) :
 Calls Tryz.prog 37 #[.pointer (some ⟨d.B,0,none⟩),.int .i64 n] W fun e W'=> ∃ m : Int,e= .returned (.int .i64 m)∧0≤m∧m < n∧Rdr d W' (p+1)∧Grew d W W'∧W'.heap.size=W.heap.size∧(∀ q,q≠d.B→W'.heap[q]? =W.heap[q]?):=by
 have hc0:=z8 h.blk 0;have hc1:=z8 h.blk 1;refine (pick_calls d.B d.a0 d.len d.cap p n W (by simpa using hc0) (by simpa using hc1) (z12 h.blk 1) hp (fun hl=>?_)).mono ?_
 ·obtain⟨b,off,ea,hq,hz⟩:=h.bytes hl;exact⟨b,off,ea,hq.2.1,hz⟩
 ·rintro e W' ⟨⟨r,rfl,hr0,hr1⟩,hP⟩;have hw:=hP.how;have hs : W'.heap.size=W.heap.size:=by rcases hw with rfl | rfl <;> simp [World.setCell,World.drew]
  have ho : ∀ q,q≠d.B→W'.heap[q]? =W.heap[q]? :=fun q hq=>by
   rcases hw with rfl | rfl
   ·exact Below.heap_setCell W ⟨d.B,1,none⟩ _ q hq
   ·exact Below.heap_setCell W ⟨d.B,1,none⟩ _ q hq
  have hg : Grew d W W':= ⟨by rcases hw with rfl | rfl <;> rfl,by rcases hw with rfl | rfl <;> rfl,by rcases hw with rfl | rfl <;> rfl,Nat.le_of_eq hs.symm,fun q hq=>ho q hq.2.1⟩
  refine⟨r,rfl,hr0,hr1 hn,h.picked hg ?_,hg,hs,ho⟩;rcases hw with rfl | rfl
  ·simp [World.setCell,Array.getElem?_modify,h.blk]
  ·simp [World.setCell,World.drew,Array.getElem?_modify,h.blk]
end
end Go.Proofs.YtfbojelpdccjaaaGreatDoor
