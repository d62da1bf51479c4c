import Derived.Test.YtbbffkiobmbkfaaGreatDoorPkV7
open Go.Proofs.Tryz
open Go.Value Go.IntKind
set_option maxHeartbeats 4000000
set_option maxRecDepth 100000
namespace Go.Proofs.YtbbffkiobmbkfaaGreatDoor
open Go.RowKit
variable {s:Cs}{ls:List (Lt×Value)}{ms:List Bool}{ss:List ByteArray}{ns:List Nd}{B Mb n p sz:Nat}{F:Nat->Value}{v ve vl vo vt:Value}{W W' W0:World}
section
open Go.RowKit
structure Picked (B:Nat) (p:Nat) (w w':World):Prop where
 cell0:w'.cell? ⟨B,0,none⟩=w.cell? ⟨B,0,none⟩
 cell1:w'.cell? ⟨B,1,none⟩=some (int i64 ((p:Int)+1))
 frozen:w'.frozen? ⟨B,1,none⟩=w.frozen? ⟨B,1,none⟩
 other:∀a:Addr,a.block≠B->w'.cell? a=w.cell? a
 below:∀n,n<=B->Below n w w'
 how:w'= w.setCell ⟨B,1,none⟩ (int i64 ((p:Int)+1))\/w'= (w.setCell ⟨B,1,none⟩ (int i64 ((p:Int)+1))).drew
theorem picked_set (B p:Nat) (w:World) (h1:w.cell? ⟨B,1,none⟩=some (int i64 p)):Picked B p w (w.setCell ⟨B,1,none⟩ (int i64 ((p:Int)+1))) where
 cell0:=yf
 cell1:=World.cell?_setCell_same' _ _ _ jp
 frozen:=yq
 other:=fun a ha=>Lj (w:=w) (Lg w _ _ a.block ha)
 below:=fun n hn=>(Below.refl n w).setCell hn _
 how:=Or.inl rfl
theorem picked_drew (B p:Nat) (w:World) (h1:w.cell? ⟨B,1,none⟩=some (int i64 p)):Picked B p w (w.setCell ⟨B,1,none⟩ (int i64 ((p:Int)+1))).drew where
 cell0:=(picked_set B p w h1).cell0
 cell1:=(picked_set B p w h1).cell1
 frozen:=(picked_set B p w h1).frozen
 other:=(picked_set B p w h1).other
 below:=fun n hn=>((picked_set B p w h1).below n hn).drew
 how:=Or.inr rfl
theorem xor_i64 (a b:Nat) (ha:a<4611686018427387904) (hb:b<4611686018427387904) :
 bits .xor .i64 (a:Int) (b:Int)=((a ^^^ b:Nat):Int):=by
 have hx:a ^^^ b<2 ^ 62:=Nat.xor_lt_two_pow ya ya;have h1:(BitVec.ofInt 64 (a:Int)).toNat=a:=by
  rw[BitVec.ofInt_natCast,BitVec.toNat_ofNat];exact Nat.mod_eq_of_lt ya
 have h2:(BitVec.ofInt 64 (b:Int)).toNat=b:=by
  rw[BitVec.ofInt_natCast,BitVec.toNat_ofNat];exact Nat.mod_eq_of_lt ya
 show IntKind.i64.wrap ((BitVec.ofInt 64 (a:Int) ^^^ BitVec.ofInt 64 (b:Int)).toNat:Int)=_;rw[BitVec.toNat_xor,h1,h2,IntKind.wrap_i64];omega
def PickPost (B p:Nat) (n:Int) (w:World) (e:Ending) (w':World):Prop:=
 (∃r,e=.returned (int i64 r)/\0<=r/\(0<n->r<n))/\Picked B p w w'
theorem pick_none (B:Nat) (a0:Option Addr) (len cap:Nat) (p:Nat) (n:Int) (w:World)
 (h0:w.cell? ⟨B,0,none⟩=some (.slice a0 len cap)) (h1:w.cell? ⟨B,1,none⟩=some (int i64 p))
 (hfz:w.frozen? ⟨B,1,none⟩=false) (hp:p<=1000000) (hn:n<1\/len=0) :
 Calls prog 35 #[.pointer (some ⟨B,0,none⟩),int i64 n] w (PickPost B p n w):=by
 have hn':n<1\/((len:Int)==0)=true:=by
  rcases hn with h|h
  .exact Or.inl h
  .exact Or.inr (by simp[h])
 rcases hn' with hn'|hn'
 all_goals
  go_enter func35,ntmps35
  go_wp2
  all_goals
   go_ret;exact⟨⟨0,rfl,Int.le_refl _,fun h=>h⟩,picked_set B p w h1⟩
theorem pick_near (B b off:Nat) (len cap:Nat) (p:Nat) (z n:Int) (w:World)
 (h0:w.cell? ⟨B,0,none⟩=some (.slice (some ⟨b,off,none⟩) len cap)) (h1:w.cell? ⟨B,1,none⟩=some (int i64 p))
 (hfz:w.frozen? ⟨B,1,none⟩=false) (hp:p<=1000000) (hn:1<=n) (hlt:p<len) (hbB:b≠B)
 (hz:w.cell? ⟨b,off+p,none⟩=some (.int .u8 z)) (hz0:0<=z) (hz1:z<=255) :
 Calls prog 35 #[.pointer (some ⟨B,0,none⟩),int i64 n] w (PickPost B p n w):=by
 have hl:((len:Int)==0)=false:=jd;go_enter func35,ntmps35
 go_wp2
 go_ret;exact⟨⟨z % n,rfl,Int.emod_nonneg _ ya,fun h=>Int.emod_lt_of_pos _ h⟩,picked_set B p w h1⟩
theorem far_sum (z y:Int) (p len:Nat) (hp:p<=1000000) (hz0:0<=z) (hz1:z<=255) (hy0:0<=y) (hy1:y<=255) :
 ∃x:Nat,x<=1000000000000/\wrap64 (z*131+y*1117+(p:Int)*29+wrap64 (wrap64 ((p:Int)/(len:Int))*53))=(x:Int):=by
 have hq:((p:Int)/(len:Int))=((p/len:Nat):Int):=ya;have hq2:p/len<=p:=Nat.div_le_self _ _;rw[hq];generalize p/len=q at hq2;rw[IntWalk.wrap64_in (q:Int) ⟨ya,ya⟩,IntWalk.wrap64_in ((q:Int)*53) ⟨ya,ya⟩,IntWalk.wrap64_in _ ⟨ya,ya⟩];exact⟨(z*131+y*1117+(p:Int)*29+(q:Int)*53).toNat,ya,ya⟩
theorem far_nat (x:Nat) (hx:x<=1000000000000):bits .xor .i64 (x:Int) (wrap64 ((x:Int)/64))=((x ^^^ (x/64):Nat):Int):=by
 rw[show((x:Int)/64)=((x/64:Nat):Int) by omega,IntWalk.wrap64_in _ ⟨ya,ya⟩];exact xor_i64 _ _ ya ya
theorem far_low (x:Nat) (hx:x<=1000000000000) (n:Int):0<=(bits .xor .i64 (x:Int) (wrap64 ((x:Int)/64))).tmod n:=by
 rw[far_nat x hx];exact Int.tmod_nonneg _ (Int.natCast_nonneg _)
theorem far_high (x:Nat) (hx:x<=1000000000000) (n:Int) (hn:0<n):(bits .xor .i64 (x:Int) (wrap64 ((x:Int)/64))).tmod n<n:=by
 rw[far_nat x hx];exact Int.tmod_lt_of_pos _ hn
theorem pick_far (B b off:Nat) (len cap:Nat) (p:Nat) (z y n:Int) (w:World)
 (h0:w.cell? ⟨B,0,none⟩=some (.slice (some ⟨b,off,none⟩) len cap)) (h1:w.cell? ⟨B,1,none⟩=some (int i64 p))
 (hfz:w.frozen? ⟨B,1,none⟩=false) (hp:p<=1000000) (hn:1<=n) (hl1:1<=len) (hlt:len<=p) (hbB:b≠B)
 (i j:Nat) (hi:((p:Int)) % (len:Int)=i) (hj:((p:Int)*7+3) % (len:Int)=j) (hil:i<len) (hjl:j<len)
 (hz:w.cell? ⟨b,off+i,none⟩=some (.int .u8 z)) (hz0:0<=z) (hz1:z<=255)
 (hy:w.cell? ⟨b,off+j,none⟩=some (.int .u8 y)) (hy0:0<=y) (hy1:y<=255) :
 Calls prog 35 #[.pointer (some ⟨B,0,none⟩),int i64 n] w (PickPost B p n w):=by
 have hl:((len:Int)==0)=false:=jd;obtain⟨x,hx,ex⟩:=far_sum z y p len hp hz0 hz1 hy0 hy1;have hx':O (x<=1000000000000):=hx;have ex':O (wrap64 (z*131+y*1117+(p:Int)*29+wrap64 (wrap64 ((p:Int)/(len:Int))*53))=(x:Int)):=ex;clear ex hx;go_enter func35,ntmps35
 go_wp2
 go_region
 rw[ex'.o];go_wp2
 go_ret;refine⟨⟨_,rfl,?_,?_⟩,picked_drew B p w h1⟩
 .exact far_low x hx'.o n
 .exact far_high x hx'.o n
theorem pick_calls (B:Nat) (a0:Option Addr) (len cap:Nat) (p:Nat) (n:Int) (w:World)
 (h0:w.cell? ⟨B,0,none⟩=some (.slice a0 len cap)) (h1:w.cell? ⟨B,1,none⟩=some (int i64 p))
 (hfz:w.frozen? ⟨B,1,none⟩=false) (hp:p<=1000000)
 (hc:0<len-> ∃b off,a0=some ⟨b,off,none⟩/\b≠B/\ ∀i,i<len-> ∃z,w.cell? ⟨b,off+i,none⟩=some (.int .u8 z)/\0<=z/\z<=255) :
 Calls prog 35 #[.pointer (some ⟨B,0,none⟩),int i64 n] w (PickPost B p n w):=by
 by_cases hn:n<1\/len=0
 .exact pick_none B a0 len cap p n w h0 h1 hfz hp hn
 .have hl:0<len:=by omega
  obtain⟨b,off,rfl,hbB,hz⟩:=hc hl;by_cases hlt:p<len
  .obtain⟨z,hz,hz0,hz1⟩:=hz p hlt;exact pick_near B b off len cap p z n w h0 h1 hfz hp ya hlt hbB hz hz0 hz1
  ·obtain⟨z,hzc,hz0,hz1⟩:=hz (p % len) (Nat.mod_lt _ hl);obtain⟨y,hyc,hy0,hy1⟩:=hz ((p*7+3) % len) (Nat.mod_lt _ hl);exact pick_far B b off len cap p z y n w h0 h1 hfz hp ya hl ya hbB (p % len) ((p*7+3) % len) ya (by first|(push_cast;rfl)|simp)
    (Nat.mod_lt _ hl) (Nat.mod_lt _ hl) hzc hz0 hz1 hyc hy0 hy1
end
section
open Go.RowKit Go.Deep
structure Dr where
 B:Nat
 G:Nat
 a0:Option Addr
 len:Nat
 cap:Nat
def Dr.free (d:Dr) (W:World) (q:Nat):Prop:=q<W.heap.size/\q≠d.B/\q≠d.G
structure Grew (d:Dr) (W W':World):Prop where
 os:W'.os=W.os
 tape:W'.tape=W.tape
 output:W'.output=W.output
 size:W.heap.size<=W'.heap.size
 block:∀q,d.free W q->W'.heap[q]?=W.heap[q]?
theorem Grew.refl (d:Dr) (W:World):Grew d W W:=⟨rfl,rfl,rfl,La,fun _ _=>rfl⟩
theorem Dr.free.grew {d:Dr}{q:Nat}(h:d.free W q) (g:Grew d W W'):d.free W' q:=⟨Le h.1 g.size,h.2⟩
theorem Grew.trans {d:Dr}{W'':World}(h:Grew d W W') (g:Grew d W' W''):Grew d W W'':=
 ⟨g.os.trans h.os,g.tape.trans h.tape,g.output.trans h.output,Lf h.size g.size,fun q hq=>(g.block q (hq.grew h)).trans (h.block q hq)⟩
theorem Grew.of_below {d:Dr}(h:Below W.heap.size W W'):Grew d W W':= ⟨h.os,h.tape,h.output,h.size,fun q hq=>h.block q hq.1⟩
theorem Grew.alloc {d:Dr}(h:Grew d W W') (o:Obj):Grew d W (W'.alloc o):=h.trans (Grew.of_below (Lb.alloc La _))
theorem Grew.drew {d:Dr}(h:Grew d W W'):Grew d W W'.drew:=⟨h.os,h.tape,h.output,h.size,h.block⟩
theorem Grew.below {d:Dr}(h:Grew d W W') (hn:n<=W.heap.size) (h1:n<=d.B) (h2:n<=d.G):Below n W W':=
 ⟨h.os,h.tape,h.output,h.size,fun q hq=>h.block q ⟨ya,ya,ya⟩⟩
theorem Grew.cell {d:Dr}(h:Grew d W W') {p:Addr}(hq:d.free W p.block):W'.cell? p=W.cell? p:=Lj (h.block _ hq)
def Lies (d:Dr) (W:World) (v:Value) (n sz:Nat) (F:Nat->Value):Prop:=
 (v=.slice none 0 0/\n=0)\/ ∃b off cap,v=.slice (some ⟨b,off,none⟩) n cap/\n<=cap/\off=0/\d.free W b/\ ∀i,i<n*sz->W.cell? ⟨b,off+i,none⟩=some (F i)
theorem Lies.grew {d:Dr}(h:Lies d W v n sz F) (g:Grew d W W'):Lies d W' v n sz F:=by
 rcases h with h|⟨b,off,cap,rfl,hn,hz,hq,hc⟩
 .exact Or.inl h
 .exact Or.inr ⟨b,off,cap,rfl,hn,hz,hq.grew g,fun i hi=>(g.cell (p:=⟨b,off+i,none⟩) hq).trans (hc i hi)⟩
theorem Lies.is {d:Dr}(h:Lies d W v n sz F):∃ad cp,v=.slice ad n cp:=by
 rcases h with ⟨rfl,rfl⟩|⟨b,off,cap,rfl,-⟩
 .exact⟨_,_,rfl⟩
 .exact⟨_,_,rfl⟩
theorem Lies.at {d:Dr}{ad:Option Addr}{cp n':Nat}(h:Lies d W (.slice ad n cp) n' sz F) (h0:0<n):n'= n/\n<=cp/\ ∃b off,ad=some ⟨b,off,none⟩/\d.free W b/\ ∀i,i<n*sz->W.cell? ⟨b,off+i,none⟩=some (F i):=by
 rcases h with ⟨e,rfl⟩|⟨b,off,cap,e,hn,-,hq,hc⟩
 .cases e;omega
 .cases e;exact⟨rfl,hn,b,off,rfl,hq,hc⟩
structure Kn where
 name:ByteArray
 ty:Int
 res:Int
instance:Inhabited Kn:=⟨⟨ByteArray.empty,0,0⟩⟩
def Kn.cell (k:Kn):Nat->Value
 |0=> .string k.name
 |1=>int i64 k.ty
 |_=>int i64 k.res
def Brief (s:ByteArray):Prop:=s.size<=100
def NodesD (d:Dr) (W:World) (v:Value) (ns:List Nd):Prop:=Lies d W v ns.length 6 (fun i=>(ns.getD (i/6) default).cell (i % 6))/\ ∀n∈ns,Brief n.a/\Brief n.b/\Brief n.c
def KnowsD (d:Dr) (W:World) (v:Value) (ks:List Kn):Prop:=Lies d W v ks.length 3 (fun i=>(ks.getD (i/3) default).cell (i % 3))/\ ∀k∈ks,Brief k.name
def BoolsD (d:Dr) (W:World) (v:Value) (ms:List Bool):Prop:=Lies d W v ms.length 1 (fun i=> .bool (ms.getD i false))
theorem NodesD.grew {d:Dr}(h:NodesD d W v ns) (g:Grew d W W'):NodesD d W' v ns:=⟨h.1.grew g,h.2⟩
theorem KnowsD.grew {d:Dr}{ks:List Kn}(h:KnowsD d W v ks) (g:Grew d W W'):KnowsD d W' v ks:=⟨h.1.grew g,h.2⟩
theorem BoolsD.grew {d:Dr}(h:BoolsD d W v ms) (g:Grew d W W'):BoolsD d W' v ms:=Lies.grew h g
theorem getD_mem {α:Type}[Inhabited α] {l:List α}{k:Nat}(h:k<l.length):l.getD k default∈l:=by
 rw[show l.getD k default=l[k] by simp[List.getD,h]];exact List.getElem_mem h
theorem cell_div {α:Type}[Inhabited α] (l:List α) (f:α->Nat->Value) (sz k c:Nat) (hc:c<sz):f (l.getD ((k*sz+c)/sz) default) ((k*sz+c) % sz)=f (l.getD k default) c:=by
 rw[Nat.mul_comm k sz,Nat.mul_add_div ya,Nat.div_eq_of_lt hc,Nat.mul_add_mod,Nat.mod_eq_of_lt hc,Nat.add_zero]
theorem NodesD.slice {d:Dr}(h:NodesD d W v ns):NodeSlice W v ns:=by
 obtain⟨h,-⟩:=h;rcases h with ⟨rfl,h⟩|⟨b,off,cap,rfl,hn,-,hq,hc⟩
 .exact⟨none,0,by rw[h],Or.inl (Lu h)⟩
 .refine⟨_,cap,rfl,Or.inr ⟨b,off,rfl,hq.1,fun k hk c hc'=> ?_⟩⟩;rw[Nat.add_assoc,hc (k*6+c) ya];exact congrArg some (cell_div ns Nd.cell 6 k c hc')
theorem KnowsD.at {d:Dr}{W:World}{ad:Option Addr}{n cp:Nat}{ks:List Kn}(h:KnowsD d W (.slice ad n cp) ks) {i:Nat}(hi:i<n):∃b off nm ty res,ad=some ⟨b,off,none⟩/\ks.getD i default=⟨nm,ty,res⟩/\Brief nm/\d.free W b/\W.cell? ⟨b,off+i*3,none⟩=some (.string nm)/\W.cell? ⟨b,off+i*3+1,none⟩=some (int i64 ty)/\W.cell? ⟨b,off+i*3+2,none⟩=some (int i64 res):=by
 obtain⟨h,hB⟩:=h;obtain⟨hl,-,b,off,rfl,hq,hc⟩:=h.at ya;obtain⟨k,hk⟩:∃k,ks.getD i default=k:=⟨_,rfl⟩
 have hb:=hB _ (getD_mem (l:=ks) (k:=i) ya);have e:∀c,c<3->W.cell? ⟨b,off+(i*3+c),none⟩=some (k.cell c):=fun c hc'=> by
  rw[hc (i*3+c) ya,<-hk];exact congrArg some (cell_div ks Kn.cell 3 i c hc')
 rw[hk]at hb;obtain⟨nm,ty,res⟩:=k;exact⟨b,off,nm,ty,res,rfl,hk,hb,hq,e 0 ya,e 1 ya,e 2 ya⟩
theorem KnowsD.is {d:Dr}{ks:List Kn}(h:KnowsD d W v ks):∃ad cp,v=.slice ad ks.length cp:=h.1.is
theorem NodesD.is {d:Dr}(h:NodesD d W v ns):∃ad cp,v=.slice ad ns.length cp:=h.1.is
theorem BoolsD.is {d:Dr}(h:BoolsD d W v ms):∃ad cp,v=.slice ad ms.length cp:=Lies.is h
theorem BoolsD.at {d:Dr}{ad:Option Addr}{cp:Nat}(h:BoolsD d W (.slice ad n cp) ms) {i:Nat}(hi:i<n):∃b off,ad=some ⟨b,off,none⟩/\d.free W b/\W.cell? ⟨b,off+i,none⟩=some (.bool (ms.getD i false)):=by
 obtain⟨hl,-,b,off,rfl,hq,hc⟩:=Lies.at h ya;exact⟨b,off,rfl,hq,hc i ya⟩
structure Cn where
 p:Nat
 left:Int
 next:Nat
structure Rdr (d:Dr) (W:World) (p:Nat):Prop where
 blk:W.heap[d.B]?=some (.cells #[.slice d.a0 d.len d.cap,int i64 (p:Int)] 84)
 bytes:0<d.len-> ∃b off,d.a0=some ⟨b,off,none⟩/\d.free W b/\ ∀i,i<d.len-> ∃z,W.cell? ⟨b,off+i,none⟩=some (.int .u8 z)/\0<=z/\z<=255
structure Gen (d:Dr) (ve:Value) (W:World) (s:Cn):Prop where
 rd:Rdr d W s.p
 blk:W.heap[d.G]?=some (.cells #[.pointer (some ⟨d.B,0,none⟩),ve,int i64 s.left,int i64 (s.next:Int)] 162)
 ne:d.B≠d.G
theorem Rdr.same {d:Dr}(h:Rdr d W p) (g:Grew d W W') (e:W'.heap[d.B]?=W.heap[d.B]?):Rdr d W' p:=by
 refine⟨e.trans h.blk,fun hl=>?_⟩;obtain⟨b,off,ea,hq,hz⟩:=h.bytes hl;refine⟨b,off,ea,hq.grew g,fun i hi=>?_⟩;obtain⟨z,hz,h2⟩:=hz i hi;exact⟨z,(g.cell (p:=⟨b,off+i,none⟩) hq).trans hz,h2⟩
theorem Gen.below {d:Dr}{s:Cn}(h:Gen d ve W s) (hb:Below W.heap.size W W'):Gen d ve W' s:=
 ⟨h.rd.same (Grew.of_below hb) (hb.block _ (z13 h.rd.blk)),(hb.block _ (z13 h.blk)).trans h.blk,h.ne⟩
theorem Gen.alloc {d:Dr}{s:Cn}(h:Gen d ve W s) (o:Obj):Gen d ve (W.alloc o) s:=h.below (Lb.alloc La _)
theorem Gen.drew {d:Dr}{s:Cn}(h:Gen d ve W s):Gen d ve W.drew s:=⟨⟨h.rd.blk,h.rd.bytes⟩,h.blk,h.ne⟩
theorem Rdr.below {d:Dr}(h:Rdr d W p) (hb:Below W.heap.size W W'):Rdr d W' p:=h.same (Grew.of_below hb) (hb.block _ (z13 h.blk))
def Spent (s s':Cn) (t c:Nat):Prop:=s'.p<=s.p+t/\s'.next<=s.next+t/\s.left-t<=s'.left/\s'.left<=s.left/\t+300*s'.left.toNat<=300*s.left.toNat+c
def Fit (s:Cn) (c:Nat):Prop:=s.p+300*s.left.toNat+c<=900000/\s.next+300*s.left.toNat+c<=900000/\ -900000<=s.left-300*s.left.toNat-c/\s.left<=1000
theorem Rdr.picked {d:Dr}(h:Rdr d W p) (hg:Grew d W W') (hb:W'.heap[d.B]?=some (.cells #[.slice d.a0 d.len d.cap,int i64 ((p:Int)+1)] 84)):Rdr d W' (p+1):=by
 refine⟨by rw[hb];push_cast;rfl,fun hl=>?_⟩;obtain⟨b,off,ea,hq,hz⟩:=h.bytes hl;refine⟨b,off,ea,hq.grew hg,fun i hi=>?_⟩;obtain⟨z,hz,h2⟩:=hz i hi;exact⟨z,(hg.cell (p:=⟨b,off+i,none⟩) hq).trans hz,h2⟩
theorem z52 {d:Dr}(h:Rdr d W p) (hp:p<=1000000) (n:Int) (hn:0<n) :
 Calls prog 35 #[.pointer (some ⟨d.B,0,none⟩),int i64 n] W fun e W'=> ∃m:Int,e=.returned (int i64 m)/\0<=m/\m<n/\Rdr d W' (p+1)/\Grew d W W'/\W'.heap.size=W.heap.size/\(∀q,q≠d.B->W'.heap[q]?=W.heap[q]?):=by
 have hc0:=z11 h.blk 0;have hc1:=z11 h.blk 1;refine(pick_calls d.B d.a0 d.len d.cap p n W (by simpa using hc0) (by simpa using hc1) (z15 h.blk 1) hp (fun hl=>?_)).mono ?_
 .obtain⟨b,off,ea,hq,hz⟩:=h.bytes hl;exact⟨b,off,ea,hq.2.1,hz⟩
 .rintro e W' ⟨⟨r,rfl,hr0,hr1⟩,hP⟩;have hw:=hP.how;have hs:W'.heap.size=W.heap.size:=by rcases hw with rfl|rfl<;>simp[World.setCell,World.drew]
  have ho:∀q,q≠d.B->W'.heap[q]?=W.heap[q]? :=fun q hq=>by
   rcases hw with rfl|rfl
   .exact Lg W ⟨d.B,1,none⟩ _ q hq
   .exact Lg W ⟨d.B,1,none⟩ _ q hq
  have hg:Grew d W W':= ⟨vw,vw,vw,Nat.le_of_eq hs.symm,fun q hq=>ho q hq.2.1⟩
  refine⟨r,rfl,hr0,hr1 hn,h.picked hg ?_,hg,hs,ho⟩;rcases hw with rfl|rfl
  .simp[World.setCell,Array.getElem?_modify,h.blk]
  .simp[World.setCell,World.drew,Array.getElem?_modify,h.blk]
def rowZ {α:Type}(f:α->Nat->Value) (sz:Nat) (l:List α):List Value:=l.flatMap fun x=>(List.range sz).map (f x)
theorem z78 {α:Type}(f:α->Nat->Value) (sz:Nat):∀l:List α,(rowZ f sz l).length=l.length*sz
 |[]=>by simp[rowZ]
 | x::l=>by
   have:=z78 f sz l;simp only[rowZ,List.flatMap_cons,Lk,List.length_map,List.length_range,Ll]at this |-;rw[this,Nat.succ_mul];omega
theorem rowZ_app {α:Type}(f:α->Nat->Value) (sz:Nat) (l m:List α):rowZ f sz (l++m)=rowZ f sz l++rowZ f sz m:=by
 simp[rowZ,List.flatMap_append]
theorem z51 {α:Type}[Inhabited α] (f:α->Nat->Value) (sz:Nat) (hz:0<sz):∀(l:List α) (i:Nat),i<l.length*sz->(rowZ f sz l)[i]?=some (f (l.getD (i/sz) default) (i % sz))
 |[],i,h=>vy
 | x::l,i,h=>by
   have e:rowZ f sz (x::l)=(List.range sz).map (f x)++rowZ f sz l:=by simp[rowZ]
   rw[e];by_cases hi:i<sz
   .rw[List.getElem?_append_left (by simpa using hi),Nat.div_eq_of_lt hi,Nat.mod_eq_of_lt hi];simp[hi]
   .have hi':sz<=i:=by omega
    rw[Ll,Nat.succ_mul]at h;rw[List.getElem?_append_right (by simpa using hi')];simp only[List.length_map,List.length_range];rw[z51 f sz hz l (i-sz) ya];have e1:i/sz=(i-sz)/sz+1:=Nat.div_eq_sub_div hz hi';have e2:i % sz=(i-sz) % sz:=by rw[Nat.mod_eq_sub_mod hi']
    rw[e1,e2];simp[List.getD]
theorem z34 {P:Program}{ops:Array Oper}{rest:List Oper}{o:Oper}{a:Act}{w:World}{Q:Exit->Act->World->Prop}(hgd:o.guard=none) (s x:Operand) (t:TypeId)
 (ho:o.op=.call { callee:=.builtin .append,args:= #[s,x],argTypes:= #[t,t] }) (v xv:Value) (hs:a.eval s=v) (hx:a.eval x=xv) {R:Value->World->Prop}
 (hr:∀ty,∃v' w',(Builtin.append_ #[t,t] ty #[v,xv]).run P w=.ok v' w'/\R v' w') (h:∀v' w',R v' w'->wpList P ops Q rest (a.put o.dst v') w') :
 wpList P ops Q (o::rest) a w:=by
 refine wpList_plain hgd fun K hK=>?_
 obtain⟨v',w',hr,h2⟩:=hr o.type;unfold Oper.wp execOp;simp only[ho,resolve,invoke,builtin,Sem.run_bind,Sem.run_pure,Result.andThen_ok,List.map_toArray,List.map_cons,List.map_nil,hs,hx,hr];exact hK _ _ (h v' w' h2)
section
variable {d:Dr}
theorem lies_owns {α:Type}[Inhabited α] {f:α->Nat->Value}(hz:0<sz) {t:TypeId}{l:List α}(h:W.ownsRow B t sz v l.length (rowZ f sz l)) (h1:d.B<B) (h2:d.G<B):Lies d W v l.length sz (fun i=>f (l.getD (i/sz) default) (i % sz)):=by
 have h':= h;obtain⟨-,⟨rfl,h0⟩|⟨g,cap,cur,rfl,hB,hc,hnc,-⟩⟩:=h
 .exact Or.inl ⟨rfl,h0⟩
 .refine Or.inr ⟨g,0,cap,rfl,hnc,rfl,⟨z13 hc,ya,ya⟩,fun i hi=>?_⟩;rw[Nat.zero_add,h'.cellAt i hi,z51 f sz hz l i hi]
theorem lies_lit {α:Type}[Inhabited α] {f:α->Nat->Value}(hz:0<sz) (W:World) (t:TypeId) (l:List α) (c:Array Value) (hc:c=(rowZ f sz l).toArray) (h1:d.B<W.heap.size) (h2:d.G<W.heap.size):Lies d (W.alloc (.cells c t)) (.slice (some ⟨W.heap.size,0,none⟩) l.length l.length) l.length sz (fun i=>f (l.getD (i/sz) default) (i % sz)):=by
 subst hc;have hh:=(Ld W (.cells (rowZ f sz l).toArray t)).1;refine Or.inr ⟨_,0,_,rfl,La,rfl,⟨z13 hh,ya,ya⟩,fun i hi=>?_⟩;rw[Nat.zero_add,z11 hh i,List.getElem?_toArray,z51 f sz hz l i hi]
theorem app_row {α:Type}[Inhabited α] {f:α->Nat->Value}(h1:∀x i,(f x i).oneCell'= true) {t e:TypeId}{i0:TypeInfo}{z:Value}{by_:Nat}(ht:prog.underlying t=some (.slice e)) (hi:prog.info? e=some i0) (hz0:i0.zero=some z) (hz1:i0.size=sz) (hz2:i0.bytes=by_) (hzs:z.cells.size=sz) (hsz:0<sz) (hby:by_<=100) {xv:Value}{l m:List α}
 (hown:W.ownsRow B e sz v l.length (rowZ f sz l)) (hx:Lies d W xv m.length sz (fun i=>f (m.getD (i/sz) default) (i % sz))) (hm:l.length+m.length<=1000000) (hB:B<=W.heap.size) (ty:TypeId) :
 ∃v' W',(Builtin.append_ #[t,t] ty #[v,xv]).run prog W=.ok v' W'/\W'.ownsRow B e sz v' (l++m).length (rowZ f sz (l++m))/\W.grownBy W' v.ownBlock:=by
 rcases hx with ⟨rfl,hl⟩|⟨b,off,cap,rfl,-,-,hq,hc⟩
 .have:m= []:=Lu hl;subst this;refine⟨v,W,run_append_owned_none W B t ty e i0 sz ht hi v _ _ hown,?_,⟨rfl,rfl,rfl,La,fun _ _ _=>rfl⟩⟩;rw[List.append_nil];exact hown
 ·obtain⟨v',W',hr,h2,h3,-,-⟩:=run_append_own_at (P:=prog) W B t ty e i0 z sz by_ ht hi hz0 hz1 hz2 hzs hsz v l.length (rowZ f sz l) hown ⟨b,off,none⟩ m.length cap (rowZ f sz m) (z78 f sz m)
   (fun j u hu=>by
    have hj:j<m.length*sz:=by
     have:=(List.getElem?_eq_some_iff.1 hu).1;rwa[z78]at this
    rw[z51 f sz hsz m j hj]at hu
    cases hu;rw[Addr.add_lit];exact hc j hj)
   (fun u hu=>by
    unfold rowZ at hu;rw[List.mem_flatMap]at hu;obtain⟨x,-,hu⟩:=hu;rw[List.mem_map]at hu;obtain⟨i,-,rfl⟩:=hu;exact h1 x i) zz (by
     have:=Nat.mul_le_mul hm hby;omega) hB
  refine⟨v',W',hr,?_,h3⟩;rw[Lk,rowZ_app];exact h2
end
theorem nd_one (n:Nd) (i:Nat):(n.cell i).oneCell'= true:=by
 match i with
 |0=>rfl
 |1=>rfl
 |2=>rfl
 |3=>rfl
 |4=>rfl
 |_+5=>rfl
theorem kn_one (k:Kn) (i:Nat):(k.cell i).oneCell'= true:=by
 match i with
 |0=>rfl
 |1=>rfl
 |_+2=>rfl
theorem info_know:(prog.info? 276).map (fun i=>(i.zero,i.size,i.bytes))=some (some (.agg #[.string ByteArray.empty,int i64 0,int i64 0]),3,32):=ye
theorem z14:Brief ByteArray.empty:=uc
theorem node_calls {d:Dr}(k n:Int) (W:World) (h1:d.B<W.heap.size) (h2:d.G<W.heap.size) :
 Calls prog 84 #[int i64 k,int i64 n] W fun e W'=> ∃v,e=.returned v/\NodesD d W' v [⟨k,n,ByteArray.empty,ByteArray.empty,ByteArray.empty,0⟩]/\Below W.heap.size W W':= by
 go_enter func84,ntmps84
 go_wp2_with fail
 go_ret;refine⟨_,rfl,⟨lies_lit (f:=Nd.cell) (sz:=6) yk W 68 [⟨k,n,ByteArray.empty,ByteArray.empty,ByteArray.empty,0⟩] _ rfl h1 h2,fun n hn=>?_⟩,Lb.alloc La _⟩;rw[Ls]at hn;subst hn;exact⟨z14,z14,z14⟩
def KidsV (d:Dr) (W:World) (v:Value) (ls:List (Value×List Nd)):Prop:=
 Lies d W v ls.length 1 (fun i=>(ls.getD i (.slice none 0 0,[])).1)/\ ∀x∈ls,NodesD d W x.1 x.2
def flatL (ls:List (Value×List Nd)):List Nd:=ls.flatMap Prod.snd
theorem flatL_take (ls:List (Value×List Nd)) (i:Nat) (h:i<ls.length):flatL (ls.take (i+1))=flatL (ls.take i)++(ls.getD i (.slice none 0 0,[])).2:=by
 unfold flatL;rw[List.take_add_one,List.flatMap_append];simp[List.getD,h]
theorem flatL_le (ls:List (Value×List Nd)) (i:Nat):(flatL (ls.take i)).length<=(flatL ls).length:=by
 conv=>rhs;rw[<-List.take_append_drop i ls]
 unfold flatL;rw[List.flatMap_append,Lk];omega
theorem flatL_mem {ls:List (Value×List Nd)}{n:Nd}(h:n∈flatL ls):∃x∈ls,n∈x.2:=by
 unfold flatL at h;rw[List.mem_flatMap]at h;exact h
theorem put_step {wr:World}{acc:List Nd}{out v':Value}(h:wr.ownsRow W.heap.size 68 6 out acc.length (rowZ Nd.cell 6 acc)/\Below W.heap.size W wr) (h':W'.ownsRow W.heap.size 68 6 v' (acc++ns).length (rowZ Nd.cell 6 (acc++ns))/\wr.grownBy W' out.ownBlock) :
 W'.ownsRow W.heap.size 68 6 v' (acc++ns).length (rowZ Nd.cell 6 (acc++ns))/\Below W.heap.size W W':=
 ⟨h'.1,h.2.grown h'.2 h.2.size (fun k hk=>(h.1.lt k hk).1)⟩
theorem gput_calls {d:Dr}(k nm kd:Int) (a b c:ByteArray) (W:World) (vk:Value) (ls:List (Value×List Nd)) (h1:d.B<W.heap.size) (h2:d.G<W.heap.size) (hk:KidsV d W vk ls) (hb:Brief a/\Brief b/\Brief c) (hl:ls.length<=1000) (hm:(flatL ls).length<=800000) :
 Calls prog 120 #[.agg #[int i64 k,int i64 nm,.string a,.string b,.string c,int i64 kd],vk] W fun e W'=> ∃v,e=.returned v/\NodesD d W' v (⟨k,nm,a,b,c,(ls.length:Int)⟩::flatL ls)/\Below W.heap.size W W':= by
 obtain⟨L,hL⟩:∃L,ls.length=L:=⟨_,rfl⟩
 have HK:=U hk;have HL:=U (Lc hL (Lc hl (Lc hm (Lc hb (Lc h1 h2)))));obtain⟨ad,cp,rfl⟩:=hk.1.is;rw[hL]at HK |-;clear hk hb hm hl h1 h2 hL;obtain⟨i0,hinf,hz0,hz1,hz2⟩:=info_parts info_node;go_enter func120,ntmps120
 go_wp2_with fail
 go_loopw [5,6] (fun out i wr=> ∃(i':Nat) (acc:List Nd),i=int i64 i'/\i'<=L/\O (wr.ownsRow W.heap.size 68 6 out acc.length (rowZ Nd.cell 6 acc)/\Below W.heap.size W wr)/\O (acc=⟨k,nm,a,b,c,(L:Int)⟩::flatL (ls.take i'))) (fun _ i _=>L-(intOf i).toNat)
 case atStart=>
  have hw:(W.alloc (.cells #[int i64 k,int i64 nm,.string a,.string b,.string c,int i64 (L:Int)] 68)).heap.size=W.heap.size+1:=yq;have ho:=World.ownsRow_lit (base:=W.heap.size) (e:=68) (size:=6) (W.alloc (.cells #[int i64 k,int i64 nm,.string a,.string b,.string c,int i64 (L:Int)] 68)) #[int i64 k,int i64 nm,.string a,.string b,.string c,int i64 (L:Int)] 1 (by rw[hw];omega) zz rfl;rw[hw]at ho;exact⟨0,[⟨k,nm,a,b,c,(L:Int)⟩],rfl,Li _,⟨ho,(Lb.alloc La _).alloc (by rw[hw];omega) _⟩,by show _=_;simp[flatL]⟩
 case round=>
  obtain⟨i',acc,rfl,hle,HO,HA⟩:=hrel;by_cases hi:(i':Int)<(L:Int)
  .have hil:i'<ls.length:=by have:=HL.o.1;omega
   obtain⟨-,-,g,o,rfl,hq,hc⟩:=HK.o.1.at (by omega:0<L);have hcell:=(HO.o.2.cell (p:=⟨g,o+i',none⟩) hq.1).trans (hc i' ya);have hnd:=HK.o.2 _ (Lh (l:=ls) (i:=i') (a:=ls.getD i' (.slice none 0 0,[])) (by simp[List.getD,hil]));have hft:=flatL_take ls i' hil;have hfl:=flatL_le ls (i'+ 1);generalize ls.getD i' (.slice none 0 0,[])=kx at hcell hnd hft;obtain⟨kv,kns⟩:=kx;dsimp only at hcell hnd hft;have HN:=U (hnd.grew (Grew.of_below HO.o.2));have HF:=U (Lc hft hfl);obtain⟨kad,kcp,rfl⟩:=hnd.is;clear hnd hft hfl hc hil;have hi0:(0:Int)<=(i':Int):=ya
   have hstep:L-(intOf (int i64 ((i'+ 1:Nat):Int))).toNat<L-(intOf (int i64 (i':Int))).toNat:=z55 hi;have HS:O (acc++kns=⟨k,nm,a,b,c,(L:Int)⟩::flatL (ls.take (i'+ 1))/\acc.length+kns.length<=900000):=by
    have e:acc++kns=⟨k,nm,a,b,c,(L:Int)⟩::flatL (ls.take (i'+ 1)):=by rw[HA.o,HF.o.1];rfl
    refine⟨e,?_⟩;rw[<-Lk,e,Ll];have:=HF.o.2;have:=HL.o.2.2.1;omega
   clear HA HF;go_wp2_with (at_builtin;refine z34 rfl _ _ 24 rfl _ _ rfl rfl (fun ty=>app_row nd_one underlying24 hinf hz0 hz1 hz2 rfl yk yk HO.o.1 HN.o.1 (by have:=HS.o.2;omega) HO.o.2.size ty) ?_;intro v5 w5 hv5;have HO5:=U (put_step HO.o hv5);clear hv5)
   try rw[z30 (by have:=HL.o.2.1;have:=HL.o.1;omega)]
   exact⟨⟨i'+ 1,acc++kns,rfl,ya,HO5,HS.o.1⟩,hstep⟩
  .have e:i'= L:=by omega
   subst e;have HE:O (acc=⟨k,nm,a,b,c,(i':Int)⟩::flatL ls):=by
    show _=_;rw[HA.o,List.take_of_length_le ud]
   clear HA;go_wp2_with fail
   go_ret;refine⟨_,rfl,⟨?_,fun n hn=>?_⟩,HO.o.2⟩
   .rw[<-HE.o];exact lies_owns (f:=Nd.cell) yk HO.o.1 HL.o.2.2.2.2.1 HL.o.2.2.2.2.2
   .rw[List.mem_cons]at hn;rcases hn with rfl|hn
    .exact HL.o.2.2.2.1
    .obtain⟨x,hx,hnx⟩:=flatL_mem hn;exact(HK.o.2 x hx).2 n hnx
def NmT (W:World) (v:Value) (ss:List ByteArray):Prop:=
 (v=.slice none 0 0/\ss= [])\/ ∃g c cur,v=.slice (some ⟨g,0,none⟩) ss.length c/\W.heap[g]?=some (.cells cur 9)/\ ∀j,j<ss.length->cur[j]?=some (.string (ss.getD j ⟨#[]⟩))
theorem NmT.names (h:NmT W v ss):NamesV W v ss:=by
 rcases h with h|⟨g,c,cur,e,hg,hc⟩
 .exact Or.inl h
 .exact Or.inr ⟨g,0,c,e,z13 hg,fun j hj=>by rw[Nat.zero_add,z11 hg j];exact hc j hj⟩
theorem NmT.is (h:NmT W v ss):∃ad c,v=.slice ad ss.length c:=h.names.slice
theorem nmT_owns (h:W.ownsRow B 9 1 v n (strRow ss)):NmT W v ss:=by
 have hl:n=ss.length:=(names_owns h).2;subst hl;obtain⟨-,⟨rfl,h0⟩|⟨g,cap,cur,rfl,hB,hg,h1,h2,h3,h4⟩⟩:=h
 .exact Or.inl ⟨rfl,Lu h0⟩
 .refine Or.inr ⟨g,cap,cur,rfl,hg,fun j hj=>?_⟩;have e:=congrArg (fun l=>l[j]?) h4;simp only[List.getElem?_take_of_lt (show j<ss.length*1 by omega),strRow_get ss j hj,Array.getElem?_toList]at e;exact e
structure Cf (W W':World):Prop where
 os:W'.os=W.os
 tape:W'.tape=W.tape
 output:W'.output=W.output
 size:W.heap.size<=W'.heap.size
 block:∀(q:Nat) (c:Array Value) (t:TypeId),W.heap[q]?=some (Obj.cells c t)->t≠53->t≠60->t≠57->W'.heap[q]?=W.heap[q]?
theorem Cf.of_below (h:Below W.heap.size W W'):Cf W W':= ⟨h.os,h.tape,h.output,h.size,fun q _ _ hq _ _ _=>h.block q (z13 hq)⟩
theorem Cf.refl (W:World):Cf W W:=Cf.of_below Lb
theorem Cf.trans {W'':World}(h:Cf W W') (h':Cf W' W''):Cf W W'':=
 ⟨h'.os.trans h.os,h'.tape.trans h.tape,h'.output.trans h.output,Lf h.size h'.size,fun q c t hq h1 h2 h3=>by
  have e:=h.block q c t hq h1 h2 h3;exact(h'.block q c t (e.trans hq) h1 h2 h3).trans e⟩
theorem NmT.frame (h:NmT W v ss) (hf:Cf W W'):NmT W' v ss:=by
 rcases h with h|⟨g,c,cur,e,hg,hc⟩
 .exact Or.inl h
 .exact Or.inr ⟨g,c,cur,e,(hf.block g cur _ hg yk yk yk).trans hg,hc⟩
def ltV (x:Lt×Value):Nat->Value
 |0=>int i64 (x.1.t.at_:Int)
 |1=>x.2
 |2=>int i64 (x.1.fr:Int)
 |_=>int i64 (x.1.wh:Int)
instance:Inhabited Lt:=⟨⟨default,[],0,0⟩⟩
structure Cm (W0:World) (Mb:Nat) (ve vt:Value) (s:Cs) (ls:List (Lt×Value)) (vo vl:Value) (W:World):Prop where
 blk:W.heap[Mb]?=some (.cells #[ve,vt,vo,vl] 57)
 orow:W.ownsRow W0.heap.size 53 4 vo s.o.length (rowZ In.cell 4 s.o)
 lrow:W.ownsRow W0.heap.size 60 4 vl ls.length (rowZ ltV 4 ls)
 lnam:∀x∈ls,NmT W x.2 x.1.names
 lfst:ls.map Prod.fst=s.later
 os:W.os=W0.os
 tape:W.tape=W0.tape
 output:W.output=W0.output
 size:W0.heap.size<=W.heap.size
 kept:∀q,q<W0.heap.size->q≠Mb->W.heap[q]?=W0.heap[q]?
 nb:Mb<W0.heap.size
def CmE (W0:World) (Mb:Nat) (ve vt:Value) (s:Cs) (W:World):Prop:= ∃ls vo vl,Cm W0 Mb ve vt s ls vo vl W
theorem z49 {e:TypeId}{xs:List Value}(h:W.ownsRow B e sz v n xs) (he:∀g c,W.heap[g]?=some (.cells c e)->B<=g->W'.heap[g]?=W.heap[g]?):W'.ownsRow B e sz v n xs:=
 own_same h (fun g eg=>by obtain⟨hB,c,hc⟩:=z40 h eg;exact he g c hc hB)
theorem Cm.below (h:Cm W0 Mb ve vt s ls vo vl W) (hb:Below W.heap.size W W'):Cm W0 Mb ve vt s ls vo vl W':=
 ⟨(hb.block _ (z13 h.blk)).trans h.blk,z49 h.orow (fun g _ hc _=>hb.block g (z13 hc)),z49 h.lrow (fun g _ hc _=>hb.block g (z13 hc)),fun x hx=>(h.lnam x hx).frame (Cf.of_below hb),h.lfst,
  hb.os.trans h.os,hb.tape.trans h.tape,hb.output.trans h.output,Lf h.size hb.size,fun q hq hn=>(hb.block q (Le hq h.size)).trans (h.kept q hq hn),h.nb⟩
theorem CmE.below (h:CmE W0 Mb ve vt s W) (hb:Below W.heap.size W W'):CmE W0 Mb ve vt s W':= by
 obtain⟨ls,vo,vl,h⟩:=h;exact⟨ls,vo,vl,h.below hb⟩
theorem maker_set2 {a b c d:Value}(h:W.heap[Mb]?=some (.cells #[a,b,c,d] 57)) (v:Value):(W.setCell ⟨Mb,2,none⟩ v).heap[Mb]?=some (.cells #[a,b,v,d] 57):=by
 simp[World.setCell,Array.getElem?_modify,h]
theorem maker_set3 {a b c d:Value}(h:W.heap[Mb]?=some (.cells #[a,b,c,d] 57)) (v:Value):(W.setCell ⟨Mb,3,none⟩ v).heap[Mb]?=some (.cells #[a,b,c,v] 57):=by
 simp[World.setCell,Array.getElem?_modify,h]
theorem row_ne {e:TypeId}{xs:List Value}(h:W.ownsRow B e sz v n xs) {q:Nat}{c:Array Value}{t:TypeId}(hq:W.heap[q]?=some (.cells c t)) (ht:t≠e):some q≠v.ownBlock:=fun e2=>by
 obtain⟨-,cur,hc⟩:=z40 h e2.symm;rw[hq]at hc
 cases hc;exact ht rfl
theorem cm_put (h:Cm W0 Mb ve vt s ls vo vl W) (i:In) {vo':Value}(ho:W'.ownsRow W0.heap.size 53 4 vo' (s.o.length+1) (rowZ In.cell 4 s.o++ [int i64 i.op,int i64 i.a,int i64 i.b,int i64 i.c])) (hg:W.grownBy W' vo.ownBlock) :
 CmE W0 Mb ve vt (s.put i) (W'.setCell ⟨Mb,2,none⟩ vo')/\Cf W (W'.setCell ⟨Mb,2,none⟩ vo'):=by
 have e:∀q,q≠Mb->(W'.setCell ⟨Mb,2,none⟩ vo').heap[q]?=W'.heap[q]? :=fun q hq=>Lg W' ⟨Mb,2,none⟩ _ q hq
 have hs:(W'.setCell ⟨Mb,2,none⟩ vo').heap.size=W'.heap.size:=qo;have hb':= (hg.block Mb (z13 h.blk) (row_ne h.orow h.blk yk)).trans h.blk;have hf:Cf W (W'.setCell ⟨Mb,2,none⟩ vo'):=⟨hg.os,hg.tape,hg.output,ue,fun q c t hq h1 _ h3=>(e q (fun e2=>uf)).trans (hg.block q (z13 hq) (row_ne h.orow hq h1))⟩
 refine⟨⟨ls,vo',vl,maker_set2 hb' _,?_,?_,fun x hx=>(h.lnam x hx).frame hf,h.lfst,hg.os.trans h.os,hg.tape.trans h.tape,hg.output.trans h.output,ug,fun q hq hn=>?_,h.nb⟩,hf⟩
 .have e3:rowZ In.cell 4 (s.o++ [i])=rowZ In.cell 4 s.o++ [int i64 i.op,int i64 i.a,int i64 i.b,int i64 i.c]:=by rw[rowZ_app];rfl
  show(W'.setCell ⟨Mb,2,none⟩ vo').ownsRow _ _ _ _ (s.o++ [i]).length (rowZ In.cell 4 (s.o++ [i]));rw[e3,Lk];exact z49 ho (fun g c hc _=>e g (fun e2=>uh))
 .exact z49 h.lrow (fun g c hc _=>(e g (fun e2=>ui)).trans (hg.block g (z13 hc) (row_ne h.orow hc yk)))
 .refine(e q hn).trans ((hg.block q (Le hq h.size) (fun e2=>?_)).trans (h.kept q hq hn));have:=(z40 h.orow e2.symm).1;omega
theorem cm_wait (h:Cm W0 Mb ve vt s ls vo vl W) (l:Lt) (hn:NmT W v l.names) {vl':Value}(ho:W'.ownsRow W0.heap.size 60 4 vl' (ls.length+1) (rowZ ltV 4 ls++ [int i64 (l.t.at_:Int),v,int i64 (l.fr:Int),int i64 (l.wh:Int)])) (hg:W.grownBy W' vl.ownBlock) :
 CmE W0 Mb ve vt (s.wait l) (W'.setCell ⟨Mb,3,none⟩ vl')/\Cf W (W'.setCell ⟨Mb,3,none⟩ vl'):=by
 have e:∀q,q≠Mb->(W'.setCell ⟨Mb,3,none⟩ vl').heap[q]?=W'.heap[q]? :=fun q hq=>Lg W' ⟨Mb,3,none⟩ _ q hq
 have hs:(W'.setCell ⟨Mb,3,none⟩ vl').heap.size=W'.heap.size:=qo;have hb':= (hg.block Mb (z13 h.blk) (row_ne h.lrow h.blk yk)).trans h.blk;have hf:Cf W (W'.setCell ⟨Mb,3,none⟩ vl'):=⟨hg.os,hg.tape,hg.output,ue,fun q c t hq _ h1 h3=>(e q (fun e2=>uf)).trans (hg.block q (z13 hq) (row_ne h.lrow hq h1))⟩
 refine⟨⟨ls++ [(l,v)],vo,vl',maker_set3 hb' _,?_,?_,fun x hx=>?_,?_,hg.os.trans h.os,hg.tape.trans h.tape,hg.output.trans h.output,ug,fun q hq hn=>?_,h.nb⟩,hf⟩
 .exact z49 h.orow (fun g c hc _=>(e g (fun e2=>ui)).trans (hg.block g (z13 hc) (row_ne h.lrow hc yk)))
 .have e3:rowZ ltV 4 (ls++ [(l,v)])=rowZ ltV 4 ls++ [int i64 (l.t.at_:Int),v,int i64 (l.fr:Int),int i64 (l.wh:Int)]:=by rw[rowZ_app];rfl
  rw[e3,Lk];exact z49 ho (fun g c hc _=>e g (fun e2=>uh))
 .rw[List.mem_append,Ls]at hx;rcases hx with hx|rfl
  .exact(h.lnam x hx).frame hf
  .exact hn.frame hf
 .rw[List.map_append,h.lfst];rfl
 .refine(e q hn).trans ((hg.block q (Le hq h.size) (fun e2=>?_)).trans (h.kept q hq hn));have:=(z40 h.lrow e2.symm).1;omega
def quad (X:World) (g k:Nat) (i:In):World:=(((X.setCell ⟨g,k*4,none⟩ (int i64 i.op)).setCell ⟨g,k*4+1,none⟩ (int i64 i.a)).setCell ⟨g,k*4+2,none⟩ (int i64 i.b)).setCell ⟨g,k*4+3,none⟩ (int i64 i.c)
theorem quad_other (X:World) (g k:Nat) (i:In):(∀j,j≠g->(quad X g k i).heap[j]?=X.heap[j]?)/\(quad X g k i).heap.size=X.heap.size:=by
 refine⟨fun j hj=>?_,by simp[quad,World.setCell]⟩;unfold quad;rw[Lg _ ⟨g,k*4+3,none⟩ _ j hj,Lg _ ⟨g,k*4+2,none⟩ _ j hj,Lg _ ⟨g,k*4+1,none⟩ _ j hj,Lg _ ⟨g,k*4,none⟩ _ j hj]
theorem quad_os (X:World) (g k:Nat) (i:In):(quad X g k i).os=X.os/\(quad X g k i).tape=X.tape/\(quad X g k i).output=X.output:=by
 simp[quad,World.setCell]
theorem quad_list (l:List In) (k:Nat) (hk:k<l.length) (i:In):((((rowZ In.cell 4 l).set (k*4) (int i64 i.op)).set (k*4+1) (int i64 i.a)).set (k*4+2) (int i64 i.b)).set (k*4+3) (int i64 i.c)=rowZ In.cell 4 (l.set k i):=by
 apply List.ext_getElem?;intro j;by_cases hj:j<l.length*4
 .rw[z51 In.cell 4 yk (l.set k i) j (by rw[List.length_set];exact hj)];have hl:=z78 In.cell 4 l;have h0:=z51 In.cell 4 yk l j hj;by_cases hik:j/4=k
  .have hgd:(l.set k i).getD (j/4) default=i:=by rw[hik];simp[List.getD,hk]
   rw[hgd];have hr:j % 4=0\/j % 4=1\/j % 4=2\/j % 4=3:=ya;rcases hr with hr|hr|hr|hr
   .rw[List.getElem?_set_ne ya,List.getElem?_set_ne ya,List.getElem?_set_ne ya,show k*4=j by omega,List.getElem?_set_self ya,hr];rfl
   .rw[List.getElem?_set_ne ya,List.getElem?_set_ne ya,show k*4+1=j by omega,List.getElem?_set_self jd,hr];rfl
   .rw[List.getElem?_set_ne ya,show k*4+2=j by omega,List.getElem?_set_self jd,hr];rfl
   .rw[show k*4+3=j by omega,List.getElem?_set_self jd,hr];rfl
  .rw[List.getElem?_set_ne ya,List.getElem?_set_ne ya,List.getElem?_set_ne ya,List.getElem?_set_ne ya,h0];have hgd:(l.set k i).getD (j/4) default=l.getD (j/4) default:=by simp[List.getD,List.getElem?_set_ne (Ne.symm hik)]
   rw[hgd]
 .rw[List.getElem?_eq_none uj,List.getElem?_eq_none uj]
theorem quad_row {X:World}{g cap k:Nat}{l:List In}(h:X.ownsRow B 53 4 (.slice (some ⟨g,0,none⟩) l.length cap) l.length (rowZ In.cell 4 l)) (hk:k<l.length) (i:In):(quad X g k i).ownsRow B 53 4 (.slice (some ⟨g,0,none⟩) (l.set k i).length cap) (l.set k i).length (rowZ In.cell 4 (l.set k i)):=by
 have h1:=(h.stored (k*4) (int i64 i.op)).1;have h2:=(h1.stored (k*4+1) (int i64 i.a)).1;have h3:=(h2.stored (k*4+2) (int i64 i.b)).1;have h4:=(h3.stored (k*4+3) (int i64 i.c)).1;rw[quad_list l k hk i]at h4;rw[List.length_set];exact h4
theorem cm_lead {g cap:Nat}(h:Cm W0 Mb ve vt s ls (.slice (some ⟨g,0,none⟩) s.o.length cap) vl W) {fr:Nat}(hfr:fr<s.o.length) (wh:Nat) :
 CmE W0 Mb ve vt (s.lead fr wh) (quad W g fr ((s.o.getD fr default).lead wh s.o.length))/\Cf W (quad W g fr ((s.o.getD fr default).lead wh s.o.length)):=by
 obtain⟨e,hs⟩:=quad_other W g fr ((s.o.getD fr default).lead wh s.o.length);obtain⟨o1,o2,o3⟩:=quad_os W g fr ((s.o.getD fr default).lead wh s.o.length);obtain⟨hB,cur,hc⟩:=z40 h.orow (g:=g) rfl;have hf:Cf W (quad W g fr ((s.o.getD fr default).lead wh s.o.length)):=⟨o1,o2,o3,qr,fun q c t hq h1 _ _=>e q (fun e2=>uk)⟩
 refine⟨⟨ls,.slice (some ⟨g,0,none⟩) s.o.length cap,vl,(e Mb (fun e2=>ui)).trans h.blk,?_,z49 h.lrow (fun q c hq _=>e q (fun e2=>by subst e2;rw[hc]at hq;cases hq)),fun x hx=>(h.lnam x hx).frame hf,h.lfst,o1.trans h.os,o2.trans h.tape,o3.trans h.output,qq,fun q hq hn=>(e q ya).trans (h.kept q hq hn),h.nb⟩,hf⟩;have:=quad_row h.orow hfr ((s.o.getD fr default).lead wh s.o.length);rw[List.length_set]at this;show(quad W g fr _).ownsRow _ _ _ _ (s.o.set fr _).length _;rw[List.length_set];exact this
end
end Go.Proofs.YtbbffkiobmbkfaaGreatDoor
