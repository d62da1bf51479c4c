import Derived.Maps.AppendAt
import Derived.Test.YtfbojelpdccjaaaGreatDoorPkT12
open Go.Proofs.Tryz
set_option maxHeartbeats 4000000
set_option maxRecDepth 100000
namespace Go.Proofs.YtfbojelpdccjaaaGreatDoor
open Go.RowKit Go.Deep
variable {args:Array Value}{s s1:Cn}{f:FuncId}{ks:List Kn}{n1 ns:List Nd}{B C c c' sz t:Nat}{v v1 ve:Value}{W X:World}
section
open Go.RowKit Go.Deep
def rowZ {α:Type}(f:α->Nat->Value) (sz:Nat) (l:List α):List Value:=l.flatMap fun x=>(List.range sz).map (f x)
theorem rowZ_len {α:Type}(f:α->Nat->Value) (sz:Nat):∀l:List α,(rowZ f sz l).length=l.length*sz
 |[]=>by simp[rowZ]
 | x::l=>by
   have:=rowZ_len f sz l;simp only[rowZ,List.flatMap_cons,List.length_append,List.length_map,List.length_range,List.length_cons]at this |-;rw[this,Nat.succ_mul];omega
theorem rowZ_app {α:Type}(f:α->Nat->Value) (sz:Nat) (l m:List α):rowZ f sz (l++m)=rowZ f sz l++rowZ f sz m:=by
 simp[rowZ,List.flatMap_append]
theorem z61 {α:Type}[Inhabited α] (f:α->Nat->Value) (sz:Nat) (hz:0<sz):∀(l:List α) (i:Nat),i<l.length*sz->(rowZ f sz l)[i]?=some (f (l.getD (i/sz) default) (i % sz))
 |[],i,h=>by simp at h
 | x::l,i,h=>by
   have e:rowZ f sz (x::l)=(List.range sz).map (f x)++rowZ f sz l:=by simp[rowZ]
   rw[e];by_cases hi:i<sz
   .rw[List.getElem?_append_left (by simpa using hi),Nat.div_eq_of_lt hi,Nat.mod_eq_of_lt hi];simp[hi]
   .have hi':sz<=i:=by omega
    rw[List.length_cons,Nat.succ_mul]at h;rw[List.getElem?_append_right (by simpa using hi')];simp only[List.length_map,List.length_range];rw[z61 f sz hz l (i-sz) yf];have e1:i/sz=(i-sz)/sz+1:=Nat.div_eq_sub_div hz hi';have e2:i % sz=(i-sz) % sz:=by rw[Nat.mod_eq_sub_mod hi']
    rw[e1,e2];simp[List.getD]
theorem z21 {P:Program}{ops:Array Oper}{rest:List Oper}{o:Oper}{a:Act}{w:World}{Q:Exit->Act->World->Prop}(hgd:o.guard=none) (s x:Operand) (t:TypeId)
 (ho:o.op=.call { callee:=.builtin .append,args:= #[s,x],argTypes:= #[t,t] }) (v xv:Value) (hs:a.eval s=v) (hx:a.eval x=xv) {R:Value->World->Prop}
 (hr:∀ty,∃v' w',(Builtin.append_ #[t,t] ty #[v,xv]).run P w=.ok v' w'/\R v' w') (h:∀v' w',R v' w'->wpList P ops Q rest (a.put o.dst v') w') :
 wpList P ops Q (o::rest) a w:=by
 refine wpList_plain hgd fun K hK=>?_
 obtain⟨v',w',hr,h2⟩:=hr o.type;unfold Oper.wp execOp;simp only[ho,resolve,invoke,builtin,Sem.run_bind,Sem.run_pure,Result.andThen_ok,List.map_toArray,List.map_cons,List.map_nil,hs,hx,hr];exact hK _ _ (h v' w' h2)
section
variable {d:Dr}
theorem lies_owns {α:Type}[Inhabited α] {f:α->Nat->Value}(hz:0<sz) {t:TypeId}{l:List α}(h:W.ownsRow B t sz v l.length (rowZ f sz l)) (h1:d.B<B) (h2:d.G<B):Lies d W v l.length sz (fun i=>f (l.getD (i/sz) default) (i % sz)):=by
 have h':= h;obtain⟨-,⟨rfl,h0⟩|⟨g,cap,cur,rfl,hB,hc,hnc,-⟩⟩:=h
 .exact Or.inl ⟨rfl,h0⟩
 .refine Or.inr ⟨g,0,cap,rfl,hnc,rfl,⟨z12 hc,yf,yf⟩,fun i hi=>?_⟩;rw[Nat.zero_add,h'.cellAt i hi,z61 f sz hz l i hi]
theorem lies_lit {α:Type}[Inhabited α] {f:α->Nat->Value}(hz:0<sz) (W:World) (t:TypeId) (l:List α) (c:Array Value) (hc:c=(rowZ f sz l).toArray) (h1:d.B<W.heap.size) (h2:d.G<W.heap.size):Lies d (W.alloc (.cells c t)) (.slice (some ⟨W.heap.size,0,none⟩) l.length l.length) l.length sz (fun i=>f (l.getD (i/sz) default) (i % sz)):=by
 subst hc;have hh:=(Ld W (.cells (rowZ f sz l).toArray t)).1;refine Or.inr ⟨_,0,_,rfl,La,rfl,⟨z12 hh,yf,yf⟩,fun i hi=>?_⟩;rw[Nat.zero_add,z8 hh i,List.getElem?_toArray,z61 f sz hz l i hi]
theorem z70 {α:Type}[Inhabited α] {f:α->Nat->Value}(h1:∀x i,(f x i).oneCell'= true) {t e:TypeId}{i0:TypeInfo}{z:Value}{by_:Nat}(ht:prog.underlying t=some (.slice e)) (hi:prog.info? e=some i0) (hz0:i0.zero=some z) (hz1:i0.size=sz) (hz2:i0.bytes=by_) (hzs:z.cells.size=sz) (hsz:0<sz) (hby:by_<=100) {xv:Value}{l m:List α}
 (hown:W.ownsRow B e sz v l.length (rowZ f sz l)) (hx:Lies d W xv m.length sz (fun i=>f (m.getD (i/sz) default) (i % sz))) (hm:l.length+m.length<=1000000) (hB:B<=W.heap.size) (ty:TypeId) :
 ∃v' W',(Builtin.append_ #[t,t] ty #[v,xv]).run prog W=.ok v' W'/\W'.ownsRow B e sz v' (l++m).length (rowZ f sz (l++m))/\W.grownBy W' v.ownBlock:=by
 rcases hx with ⟨rfl,hl⟩|⟨b,off,cap,rfl,-,-,hq,hc⟩
 .have:m= []:=Lk hl;subst this;refine⟨v,W,run_append_owned_none W B t ty e i0 sz ht hi v _ _ hown,?_,⟨rfl,rfl,rfl,La,fun _ _ _=>rfl⟩⟩;rw[List.append_nil];exact hown
 ·obtain⟨v',W',hr,h2,h3,-,-⟩:=run_append_own_at (P:=prog) W B t ty e i0 z sz by_ ht hi hz0 hz1 hz2 hzs hsz v l.length (rowZ f sz l) hown ⟨b,off,none⟩ m.length cap (rowZ f sz m) (rowZ_len f sz m)
   (fun j u hu=>by
    have hj:j<m.length*sz:=by
     have:=(List.getElem?_eq_some_iff.1 hu).1;rwa[rowZ_len]at this
    rw[z61 f sz hsz m j hj]at hu
    cases hu;rw[Addr.add_lit];exact hc j hj)
   (fun u hu=>by
    unfold rowZ at hu;rw[List.mem_flatMap]at hu;obtain⟨x,-,hu⟩:=hu;rw[List.mem_map]at hu;obtain⟨i,-,rfl⟩:=hu;exact h1 x i) zp (by
     have:=Nat.mul_le_mul hm hby;omega) hB
  refine⟨v',W',hr,?_,h3⟩;rw[List.length_append,rowZ_app];exact h2
end
theorem nd_one (n:Nd) (i:Nat):(n.cell i).oneCell'= true:=by
 match i with
 |0=>rfl
 |1=>rfl
 |2=>rfl
 |3=>rfl
 |4=>rfl
 |_+5=>rfl
theorem kn_one (k:Kn) (i:Nat):(k.cell i).oneCell'= true:=by
 match i with
 |0=>rfl
 |1=>rfl
 |_+2=>rfl
theorem info_know:(prog.info? 189).map (fun i=>(i.zero,i.size,i.bytes))=some (some (.agg #[.string ByteArray.empty,.int .i64 0,.int .i64 0]),3,32):=yb
theorem z13:Brief ByteArray.empty:=vf
theorem node_calls {d:Dr}(k n:Int) (W:World) (h1:d.B<W.heap.size) (h2:d.G<W.heap.size) :
 Calls prog 71 #[.int .i64 k,.int .i64 n] W fun e W'=> ∃v,e=.returned v/\NodesD d W' v [⟨k,n,ByteArray.empty,ByteArray.empty,ByteArray.empty,0⟩]/\Below W.heap.size W W':= by
 go_enter func71,ntmps71
 go_wp2_with fail
 go_ret;refine⟨_,rfl,⟨lies_lit (f:=Nd.cell) (sz:=6) yh W 60 [⟨k,n,ByteArray.empty,ByteArray.empty,ByteArray.empty,0⟩] _ rfl h1 h2,fun n hn=>?_⟩,Lb.alloc La _⟩;rw[List.mem_singleton]at hn;subst hn;exact⟨z13,z13,z13⟩
def KidsV (d:Dr) (W:World) (v:Value) (ls:List (Value×List Nd)):Prop:=
 Lies d W v ls.length 1 (fun i=>(ls.getD i (.slice none 0 0,[])).1)/\ ∀x∈ls,NodesD d W x.1 x.2
def flatL (ls:List (Value×List Nd)):List Nd:=ls.flatMap Prod.snd
theorem flatL_take (ls:List (Value×List Nd)) (i:Nat) (h:i<ls.length):flatL (ls.take (i+1))=flatL (ls.take i)++(ls.getD i (.slice none 0 0,[])).2:=by
 unfold flatL;rw[List.take_add_one,List.flatMap_append];simp[List.getD,h]
theorem flatL_le (ls:List (Value×List Nd)) (i:Nat):(flatL (ls.take i)).length<=(flatL ls).length:=by
 conv=>rhs;rw[<-List.take_append_drop i ls]
 unfold flatL;rw[List.flatMap_append,List.length_append];omega
theorem flatL_mem {ls:List (Value×List Nd)}{n:Nd}(h:n∈flatL ls):∃x∈ls,n∈x.2:=by
 unfold flatL at h;rw[List.mem_flatMap]at h;exact h
theorem put_step {wr W':World}{acc:List Nd}{out v':Value}(h:wr.ownsRow W.heap.size 60 6 out acc.length (rowZ Nd.cell 6 acc)/\Below W.heap.size W wr) (h':W'.ownsRow W.heap.size 60 6 v' (acc++ns).length (rowZ Nd.cell 6 (acc++ns))/\wr.grownBy W' out.ownBlock) :
 W'.ownsRow W.heap.size 60 6 v' (acc++ns).length (rowZ Nd.cell 6 (acc++ns))/\Below W.heap.size W W':=
 ⟨h'.1,h.2.grown h'.2 h.2.size (fun k hk=>(h.1.lt k hk).1)⟩
theorem gput_calls {d:Dr}(k nm kd:Int) (a b c:ByteArray) (W:World) (vk:Value) (ls:List (Value×List Nd)) (h1:d.B<W.heap.size) (h2:d.G<W.heap.size) (hk:KidsV d W vk ls) (hb:Brief a/\Brief b/\Brief c) (hl:ls.length<=1000) (hm:(flatL ls).length<=800000) :
 Calls prog 67 #[.agg #[.int .i64 k,.int .i64 nm,.string a,.string b,.string c,.int .i64 kd],vk] W fun e W'=> ∃v,e=.returned v/\NodesD d W' v (⟨k,nm,a,b,c,(ls.length:Int)⟩::flatL ls)/\Below W.heap.size W W':= by
 obtain⟨L,hL⟩:∃L,ls.length=L:=⟨_,rfl⟩
 have HK:=J hk;have HL:=J (Lc hL (Lc hl (Lc hm (Lc hb (Lc h1 h2)))));obtain⟨ad,cp,rfl⟩:=hk.1.is;rw[hL]at HK |-;clear hk hb hm hl h1 h2 hL;obtain⟨i0,hinf,hz0,hz1,hz2⟩:=info_parts info_node;go_enter func67,ntmps67
 go_wp2_with fail
 go_loopw [5,6] (fun out i wr=> ∃(i':Nat) (acc:List Nd),i=.int .i64 i'/\i'<=L/\I (wr.ownsRow W.heap.size 60 6 out acc.length (rowZ Nd.cell 6 acc)/\Below W.heap.size W wr)/\I (acc=⟨k,nm,a,b,c,(L:Int)⟩::flatL (ls.take i'))) (fun _ i _=>L-(intOf i).toNat)
 case atStart=>
  have hw:(W.alloc (.cells #[.int .i64 k,.int .i64 nm,.string a,.string b,.string c,.int .i64 (L:Int)] 60)).heap.size=W.heap.size+1:=yn;have ho:=World.ownsRow_lit (base:=W.heap.size) (e:=60) (size:=6) (W.alloc (.cells #[.int .i64 k,.int .i64 nm,.string a,.string b,.string c,.int .i64 (L:Int)] 60)) #[.int .i64 k,.int .i64 nm,.string a,.string b,.string c,.int .i64 (L:Int)] 1 (by rw[hw];omega) zp rfl;rw[hw]at ho;exact⟨0,[⟨k,nm,a,b,c,(L:Int)⟩],rfl,Li _,⟨ho,(Lb.alloc La _).alloc (by rw[hw];omega) _⟩,by show _=_;simp[flatL]⟩
 case round=>
  obtain⟨i',acc,rfl,hle,HO,HA⟩:=hrel;by_cases hi:(i':Int)<(L:Int)
  .have hil:i'<ls.length:=by have:=HL.o.1;omega
   obtain⟨-,-,g,o,rfl,hq,hc⟩:=HK.o.1.at (by omega:0<L);have hcell:=(HO.o.2.cell (p:=⟨g,o+i',none⟩) hq.1).trans (hc i' yf);have hnd:=HK.o.2 _ (Lh (l:=ls) (i:=i') (a:=ls.getD i' (.slice none 0 0,[])) (by simp[List.getD,hil]));have hft:=flatL_take ls i' hil;have hfl:=flatL_le ls (i'+ 1);generalize ls.getD i' (.slice none 0 0,[])=kx at hcell hnd hft;obtain⟨kv,kns⟩:=kx;dsimp only at hcell hnd hft;have HN:=J (hnd.grew (Grew.of_below HO.o.2));have HF:=J (Lc hft hfl);obtain⟨kad,kcp,rfl⟩:=hnd.is;clear hnd hft hfl hc hil;have hi0:(0:Int)<=(i':Int):=yf
   have hstep:L-(intOf (.int .i64 ((i'+ 1:Nat):Int))).toNat<L-(intOf (.int .i64 (i':Int))).toNat:=z47 hi;have HS:I (acc++kns=⟨k,nm,a,b,c,(L:Int)⟩::flatL (ls.take (i'+ 1))/\acc.length+kns.length<=900000):=by
    have e:acc++kns=⟨k,nm,a,b,c,(L:Int)⟩::flatL (ls.take (i'+ 1)):=by rw[HA.o,HF.o.1];rfl
    refine⟨e,?_⟩;rw[<-List.length_append,e,List.length_cons];have:=HF.o.2;have:=HL.o.2.2.1;omega
   clear HA HF;go_wp2_with (at_builtin;refine z21 rfl _ _ 24 rfl _ _ rfl rfl (fun ty=>z70 nd_one underlying24 hinf hz0 hz1 hz2 rfl yh yh HO.o.1 HN.o.1 (by have:=HS.o.2;omega) HO.o.2.size ty) ?_;intro v5 w5 hv5;have HO5:=J (put_step HO.o hv5);clear hv5)
   try rw[z18 (by have:=HL.o.2.1;have:=HL.o.1;omega)]
   exact⟨⟨i'+ 1,acc++kns,rfl,yf,HO5,HS.o.1⟩,hstep⟩
  .have e:i'= L:=by omega
   subst e;have HE:I (acc=⟨k,nm,a,b,c,(i':Int)⟩::flatL ls):=by
    show _=_;rw[HA.o,List.take_of_length_le vg]
   clear HA;go_wp2_with fail
   go_ret;refine⟨_,rfl,⟨?_,fun n hn=>?_⟩,HO.o.2⟩
   .rw[<-HE.o];exact lies_owns (f:=Nd.cell) yh HO.o.1 HL.o.2.2.2.2.1 HL.o.2.2.2.2.2
   .rw[List.mem_cons]at hn;rcases hn with rfl|hn
    .exact HL.o.2.2.2.1
    .obtain⟨x,hx,hnx⟩:=flatL_mem hn;exact(HK.o.2 x hx).2 n hnx
theorem Gen.setNext {d:Dr}(h:Gen d ve W s) (x:Nat):Gen d ve (W.setCell ⟨d.G,3,none⟩ (.int .i64 (x:Int))) { s with next:=x }/\Grew d W (W.setCell ⟨d.G,3,none⟩ (.int .i64 (x:Int))):=by
 have ho:∀q,q≠d.G->(W.setCell ⟨d.G,3,none⟩ (.int .i64 (x:Int))).heap[q]?=W.heap[q]? :=fun q hq=>Lg W ⟨d.G,3,none⟩ _ q hq
 have hg:Grew d W (W.setCell ⟨d.G,3,none⟩ (.int .i64 (x:Int))):=⟨rfl,rfl,rfl,vh,fun q hq=>ho q hq.2.2⟩
 exact⟨⟨h.rd.same hg (ho _ h.ne),by simp[World.setCell,Array.getElem?_modify,h.blk],h.ne⟩,hg⟩
theorem Gen.setLeft {d:Dr}(h:Gen d ve W s) (x:Int):Gen d ve (W.setCell ⟨d.G,2,none⟩ (.int .i64 x)) { s with left:=x }/\Grew d W (W.setCell ⟨d.G,2,none⟩ (.int .i64 x)):=by
 have ho:∀q,q≠d.G->(W.setCell ⟨d.G,2,none⟩ (.int .i64 x)).heap[q]?=W.heap[q]? :=fun q hq=>Lg W ⟨d.G,2,none⟩ _ q hq
 have hg:Grew d W (W.setCell ⟨d.G,2,none⟩ (.int .i64 x)):=⟨rfl,rfl,rfl,vh,fun q hq=>ho q hq.2.2⟩
 exact⟨⟨h.rd.same hg (ho _ h.ne),by simp[World.setCell,Array.getElem?_modify,h.blk],h.ne⟩,hg⟩
theorem Gen.ltG {d:Dr}(h:Gen d ve W s):d.G<W.heap.size:=z12 h.blk
theorem Gen.ltB {d:Dr}(h:Gen d ve W s):d.B<W.heap.size:=z12 h.rd.blk
theorem Gen.c0 {d:Dr}(h:Gen d ve W s):W.cell? ⟨d.G,0,none⟩=some (.pointer (some ⟨d.B,0,none⟩)):=vj
theorem Gen.c1 {d:Dr}(h:Gen d ve W s):W.cell? ⟨d.G,1,none⟩=some ve:=vj
theorem Gen.c2 {d:Dr}(h:Gen d ve W s):W.cell? ⟨d.G,2,none⟩=some (.int .i64 s.left):=vj
theorem Gen.c3 {d:Dr}(h:Gen d ve W s):W.cell? ⟨d.G,3,none⟩=some (.int .i64 (s.next:Int)):=vj
theorem Gen.f2 {d:Dr}(h:Gen d ve W s):W.frozen? ⟨d.G,2,none⟩=false:=z11 h.blk 2
theorem Gen.f3 {d:Dr}(h:Gen d ve W s):W.frozen? ⟨d.G,3,none⟩=false:=z11 h.blk 3
theorem gen_pick {d:Dr}(h:Gen d ve W s) (hp:s.p<=1000000) (n:Int) (hn:0<n) :
 Calls prog 37 #[.pointer (some ⟨d.B,0,none⟩),.int .i64 n] W fun e W'=> ∃m:Int,e=.returned (.int .i64 m)/\0<=m/\m<n/\Gen d ve W' { s with p:=s.p+1 }/\Grew d W W':= by
 refine(z31 h.rd hp n hn).mono ?_;rintro e W' ⟨m,rfl,h0,h1,hr,hg,-,ho⟩;exact⟨m,rfl,h0,h1,⟨hr,(ho _ (Ne.symm h.ne)).trans h.blk,h.ne⟩,hg⟩
theorem cell_old {o:Obj}{p:Addr}(hp:p.block<W.heap.size) (h:W.cell? p=some v):(W.alloc o).cell? p=some v:=
 (((Below.refl W.heap.size W).alloc La o).cell hp).trans h
theorem digit_run (m:Int) (h0:0<m) (h1:m<7):∃s:ByteArray,s.size=1/\ ∀W:World,(convert 22 9 (.slice (some ⟨W.heap.size,0,none⟩) 1 1)).run prog (W.alloc (.cells #[.int .u8 (48+m)] 5))=.ok (.string s) (W.alloc (.cells #[.int .u8 (48+m)] 5)):=by
 refine⟨⟨#[UInt8.ofNat (48+m.toNat)]⟩,rfl,fun W=>?_⟩;have h:=run_convert_bytes_back (P:=prog) (W.alloc (.cells #[.int .u8 (48+m)] 5)) 22 9 5 ⟨W.heap.size,0,none⟩ 1 [UInt8.ofNat (48+m.toNat)] underlying22 underlying5 underlying9 (fun i hi=>by
  have h0:i=0:=by simpa using hi
  subst h0;simp[Addr.add];omega)
 exact h
theorem digit_zero (W:World):Calls prog 82 #[.int .i64 0] W fun e W'=> e=.returned (.string ⟨#[48]⟩)/\W'= W:=by
 go_enter func82,ntmps82
 go_wp2_with fail
 go_ret;exact⟨rfl,rfl⟩
theorem digit_calls (m:Int) (x:ByteArray) (hx:x.size=1) (h2:0<m) (h1:m<7) (hr:∀W:World,(convert 22 9 (.slice (some ⟨W.heap.size,0,none⟩) 1 1)).run prog (W.alloc (.cells #[.int .u8 (48+m)] 5))=.ok (.string x) (W.alloc (.cells #[.int .u8 (48+m)] 5))) (W:World):Calls prog 82 #[.int .i64 m] W fun e W'=> e=.returned (.string (x++⟨#[]⟩))/\W'= W.alloc (.cells #[.int .u8 (48+m)] 5):=by
 have hrun:=hr W;have hm:¬ m=0:=yf;have e0:(m==0)=false:=by simp[hm]
 have e1:m % 10=m:=yf;have e2:m/10=0:=yf;clear hr;go_enter func82,ntmps82
 go_wp2_with fail
 refine wp_loop_rounds 2 ?_;rw[rounds_succ];go_wp2_with fail
 rw[e2,rounds_succ];go_wp2_with fail
 go_ret;exact⟨rfl,rfl⟩
theorem digit_any (m:Int) (h0:0<=m) (h1:m<7):∃x:ByteArray,x.size<=50/\ ∀W,Calls prog 82 #[.int .i64 m] W fun e W'=> e=.returned (.string x)/\Below W.heap.size W W':= by
 by_cases hm:m=0
 .subst hm;refine⟨⟨#[48]⟩,yh,fun W=>(digit_zero W).mono ?_⟩;rintro e W' ⟨rfl,rfl⟩;exact⟨rfl,Lb⟩
 .obtain⟨x,hx,hr⟩:=digit_run m yf h1;refine⟨x++⟨#[]⟩,?_,fun W=>(digit_calls m x hx yf h1 hr W).mono ?_⟩
  .rw[ByteArray.size_append,hx];decide
  .rintro e W' ⟨rfl,rfl⟩;exact⟨rfl,Lb.alloc La _⟩
def sixV:Array Value:= #[.string ⟨#[120]⟩,.string ⟨#[121]⟩,.string ⟨#[122]⟩,.string ⟨#[110]⟩,.string ⟨#[109]⟩,.string ⟨#[113]⟩]
theorem six_get (r:Int) (h0:0<=r) (h1:r<6):∃y:ByteArray,y.size=1/\sixV[r.toNat]?=some (.string y):=by
 have h:r=0\/r=1\/r=2\/r=3\/r=4\/r=5:=yf;rcases h with rfl|rfl|rfl|rfl|rfl|rfl<;>exact⟨_,rfl,rfl⟩
theorem six_cell (r:Int) (y:ByteArray) (h:sixV[r.toNat]?=some (.string y)):(X.alloc (.cells sixV 9)).cell? ⟨X.heap.size,r.toNat,none⟩=some (.string y):=by
 rw[z8 (Ld X _).1,h]
theorem name_calls {d:Dr}(h:Gen d ve W s) (hn:s.next<=1000000) :
 Calls prog 107 #[.pointer (some ⟨d.G,0,none⟩)] W fun e W'=> ∃x,e=.returned (.string x)/\Brief x/\Gen d ve W' { s with next:=s.next+1 }/\Grew d W W':= by
 have HG:=J h;have HN:=J (h.setNext (s.next+1));obtain⟨n,hn'⟩:∃n:Nat,s.next=n:=⟨_,rfl⟩
 have c3:=h.c3;have f3:=h.f3;rw[hn']at c3 hn HN |-;obtain⟨G,hGe⟩:∃G,d.G=G:=⟨_,rfl⟩
 rw[hGe]at c3 f3 HN |-;go_enter func107,ntmps107
 go_wp2_with fail
 have e1:((n:Int)+1)=((n+1:Nat):Int):=yf;rw[e1];have cN:=HN.o.1.c3;have hGl:=HN.o.1.ltG;rw[hGe]at cN hGl;clear c3 f3 HG h e1;generalize W.setCell ⟨G,3,none⟩ (.int .i64 ((n+1:Nat):Int))=W1 at*;dsimp only at cN;have hN0:(0:Int)<=((n+1:Nat):Int):=yf;generalize hNe:((n+1:Nat):Int)=N at*;obtain⟨m,hm⟩:∃m,N % 7=m:=⟨_,rfl⟩
 have hm0:0<=m:=yf;have hm1:m<7:=yf;obtain⟨x,hx,hD⟩:=digit_any m hm0 hm1;have HD:=J hD;have HX:=J hx;obtain⟨r,hr⟩:∃r,N % 6=r:=⟨_,rfl⟩
 have hr0:0<=r:=yf;have hr1:r<6:=yf;have ht6:N.tmod 6=r:=(Int.tmod_eq_emod_of_nonneg hN0).trans hr;have ht7:N.tmod 7=m:=(Int.tmod_eq_emod_of_nonneg hN0).trans hm;obtain⟨y,hy,hsix⟩:=six_get r hr0 hr1;have HY:=J hy;have HN1:I (Gen d ve W1.drew { s with next:=n+1 }/\Grew d W W1.drew):=⟨HN.o.1.drew,HN.o.2.drew⟩
 have cD:W1.drew.cell? ⟨G,3,none⟩=some (.int .i64 N):=cN;have hGD:G<W1.drew.heap.size:=hGl;clear hNe hn hn' hGe hm hm0 hm1 hr cN hGl HN hD hx;refine z30 (S:=fun w'=> w'.cell? ⟨G,3,none⟩=some (.int .i64 N)) yb rfl rfl ?_;generalize W1.drew=D at*;refine pick_o 1 (.pointer (some ⟨G,0,none⟩)) cD ?_;refine pick_o 2 (.pointer (some ⟨G,0,none⟩)) cD ?_;refine pick_o 3 (.pointer (some ⟨G,3,none⟩)) cD ?_;refine pick_o (hy:=fun w' hw=>ym) 4 (.int .i64 N) cD ?_;refine pick_o (hy:=fun w' hw=>by simp[go_sem,ht6]) 5 (.int .i64 r) cD ?_;refine pick_o 8 (.pointer (some ⟨G,0,none⟩)) cD ?_
 refine pick_o 9 (.pointer (some ⟨G,0,none⟩)) cD ?_;refine pick_o 10 (.pointer (some ⟨G,3,none⟩)) cD ?_;refine pick_o (hy:=fun w' hw=>ym) 11 (.int .i64 N) cD ?_;refine pick_o (hy:=fun w' hw=>by simp[go_sem,ht7]) 12 (.int .i64 m) cD ?_;have hx:=HX.o;refine z45 (i:=0) (j:=13) yb ?_ ?_
 .have cy:=six_cell (X:=D) r y hsix;have c1:=cell_old (o:=.cells sixV 9) hGD cD;have HB1:I (Below D.heap.size D (D.alloc (.cells sixV 9))):=Lb.alloc La _;have hq:D.heap.size<(D.alloc (.cells sixV 9)).heap.size:=yn;refine⟨_,.slice (some ⟨D.heap.size,0,none⟩) 6 6,D.alloc (.cells sixV 9),rfl,rfl,by simp[go_sem,sixV],c1,?_⟩;refine z15 yd ?_;generalize D.alloc (.cells sixV 9)=X1 at*;refine pick_o (hy:=fun w' hw=>by simp[go_sem,hr0,hr1]) 6 (.pointer (some ⟨D.heap.size,r.toNat,none⟩)) c1 ?_
  refine z43 (fun w'=> w'.cell? ⟨G,3,none⟩=some (.int .i64 N)/\w'.cell? ⟨D.heap.size,r.toNat,none⟩=some (.string y)) (fun w h=>h.1) ?_;refine pick_o (hy:=fun w' hw=>vn) 7 (.string y) ⟨c1,cy⟩ ?_;refine z16 (i:=13) (f:=82) (args:= #[.int .i64 m]) rfl yb rfl rfl yc ?_;refine(HD.o X1).mono ?_;rintro e X2 ⟨rfl,hb⟩;have HB2:=J hb;have c2:=(hb.cell (p:=⟨G,3,none⟩) (block_lt_of_cell c1)).trans c1;have cy2:=(hb.cell (p:=⟨D.heap.size,r.toNat,none⟩) hq).trans cy;clear hb;refine⟨_,rfl,⟨c2,cy2⟩,?_⟩;refine z15 yd ?_
  refine z10 (i:=14) (v:=.string (y++x)) yb rfl yb yb rfl rfl (fun w' hw=>by simp[go_sem,HY.o];omega) ⟨c2,cy2⟩ yd ?_;refine pick_o 15 (.string (y++x)) ⟨c2,cy2⟩ ?_;refine zb87 ?_;go_ret;exact⟨_,rfl,vr,(HN1.o.1.below HB1.o).below HB2.o,HN1.o.2.trans ((Grew.of_below HB1.o).trans (Grew.of_below HB2.o))⟩
 .refine⟨_,82,#[.int .i64 m],rfl,rfl,yc,?_⟩;refine(HD.o D).mono ?_;rintro e X1 ⟨rfl,hb⟩;have HB1:=J hb;have c1:=(hb.cell (p:=⟨G,3,none⟩) hGD).trans cD;have hGX:G<X1.heap.size:=block_lt_of_cell c1;clear hb;refine⟨_,rfl,c1,?_⟩;refine z15 yd ?_;have cy:=six_cell (X:=X1) r y hsix;have c2:=cell_old (o:=.cells sixV 9) hGX c1;have HB2:I (Below X1.heap.size X1 (X1.alloc (.cells sixV 9))):=Lb.alloc La _;refine z23 (i:=0) (v:=.slice (some ⟨X1.heap.size,0,none⟩) 6 6) (w1:=X1.alloc (.cells sixV 9)) rfl yb rfl rfl (by simp[go_sem,sixV]) c2 yd ?_;generalize X1.alloc (.cells sixV 9)=X2 at*
  refine pick_o (hy:=fun w' hw=>by simp[go_sem,hr0,hr1]) 6 (.pointer (some ⟨X1.heap.size,r.toNat,none⟩)) c2 ?_;refine z43 (fun w'=> w'.cell? ⟨G,3,none⟩=some (.int .i64 N)/\w'.cell? ⟨X1.heap.size,r.toNat,none⟩=some (.string y)) (fun w h=>h.1) ?_;refine pick_o (hy:=fun w' hw=>vn) 7 (.string y) ⟨c2,cy⟩ ?_;refine z10 (i:=14) (v:=.string (y++x)) yb rfl yb yb rfl rfl (fun w' hw=>by simp[go_sem,HY.o];omega) ⟨c2,cy⟩ yd ?_;refine pick_o 15 (.string (y++x)) ⟨c2,cy⟩ ?_;refine zb87 ?_;go_ret
  exact⟨_,rfl,vr,(HN1.o.1.below HB1.o).below HB2.o,HN1.o.2.trans ((Grew.of_below HB1.o).trans (Grew.of_below HB2.o))⟩
theorem knows_owns {d:Dr}(h:W.ownsRow B 189 3 v ks.length (rowZ Kn.cell 3 ks)) (hb:∀k∈ks,Brief k.name) (h1:d.B<B) (h2:d.G<B):KnowsD d W v ks:=
 ⟨lies_owns yh h h1 h2,hb⟩
theorem know_lit {d:Dr}(W:World) (k:Kn) (h1:d.B<W.heap.size) (h2:d.G<W.heap.size):Lies d (W.alloc (.cells #[.string k.name,.int .i64 k.ty,.int .i64 k.res] 189)) (.slice (some ⟨W.heap.size,0,none⟩) 1 1) [k].length 3 (fun i=>Kn.cell ([k].getD (i/3) default) (i % 3)):=
 lies_lit (f:=Kn.cell) (sz:=3) yh W 189 [k] _ rfl h1 h2
theorem kadd_step {wr W':World}{acc:List Kn}{out v':Value}{o:Obj}(h:wr.ownsRow W.heap.size 189 3 out acc.length (rowZ Kn.cell 3 acc)/\Below W.heap.size W wr/\ ∀k∈acc,Brief k.name) (hk:∀k∈ks,Brief k.name) (h':W'.ownsRow W.heap.size 189 3 v' (acc++ks).length (rowZ Kn.cell 3 (acc++ks))/\(wr.alloc o).grownBy W' out.ownBlock) :
 W'.ownsRow W.heap.size 189 3 v' (acc++ks).length (rowZ Kn.cell 3 (acc++ks))/\Below W.heap.size W W'/\ ∀k∈acc++ks,Brief k.name:=
 ⟨h'.1,(h.2.1.alloc h.2.1.size o).grown h'.2 (by have:=h.2.1.size;simp;omega) (fun k hk=>(h.1.lt k hk).1),fun k hx=>by
  rw[List.mem_append]at hx;rcases hx with hx|hx
  .exact h.2.2 k hx
  .exact hk k hx⟩
theorem kadd_calls {d:Dr}(nm:ByteArray) (ty res:Int) (W:World) (h1:d.B<W.heap.size) (h2:d.G<W.heap.size) (hk:KnowsD d W v ks) (hb:Brief nm) (hl:ks.length<=1000) :
 Calls prog 108 #[v,.string nm,.int .i64 ty,.int .i64 res] W fun e W'=> ∃u,e=.returned u/\ ∃ks',KnowsD d W' u ks'/\ks'.length<=ks.length+1/\Below W.heap.size W W':= by
 obtain⟨L,hL⟩:∃L,ks.length=L:=⟨_,rfl⟩
 have HK:=J hk;have HL:=J (Lc hL (Lc hl (Lc hb (Lc h1 h2))));obtain⟨ad,cp,rfl⟩:=hk.is;rw[hL]at HK |-;clear hk hb hl h1 h2 hL;obtain⟨i0,hinf,hz0,hz1,hz2⟩:=info_parts info_know;go_enter func108,ntmps108
 go_wp2_with fail
 go_loopw [9,10] (fun out i wr=> ∃(i':Nat) (acc:List Kn),i=.int .i64 i'/\i'<=L/\I (acc.length<=i')/\I (wr.ownsRow W.heap.size 189 3 out acc.length (rowZ Kn.cell 3 acc)/\Below W.heap.size W wr/\ ∀k∈acc,Brief k.name)) (fun _ i _=>L-(intOf i).toNat)
 case atStart=>exact⟨0,[],rfl,Li _,Li _,World.ownsRow_nil _ _ _ _,Lb,fun k hk=>vu⟩
 case round=>
  obtain⟨i',acc,rfl,hle,HA,HO⟩:=hrel;by_cases hi:(i':Int)<(L:Int)
  .obtain⟨b,off,xn,xt,xr,rfl,-,hbr,hq,c0,c1,c2⟩:=HK.o.at (i:=i') yf;have c0:=(HO.o.2.1.cell (p:=⟨b,off+i'* 3,none⟩) hq.1).trans c0;have c1:=(HO.o.2.1.cell (p:=⟨b,off+i'* 3+1,none⟩) hq.1).trans c1;have c2:=(HO.o.2.1.cell (p:=⟨b,off+i'* 3+2,none⟩) hq.1).trans c2;have hi0:(0:Int)<=(i':Int):=yf;have hstep:L-(intOf (.int .i64 ((i'+ 1:Nat):Int))).toNat<L-(intOf (.int .i64 (i':Int))).toNat:=z47 hi;have HBr:I (∀k∈ [(⟨xn,xt,xr⟩:Kn)],Brief k.name):=fun k hk=>by rw[List.mem_singleton]at hk;rw[hk];exact hbr
   have HS:=J (Lc (show d.B<wr.heap.size by have:=HO.o.2.1.size;have:=HL.o;omega) (show d.G<wr.heap.size by have:=HO.o.2.1.size;have:=HL.o;omega));clear hbr hq;go_wp2_with (at_builtin;refine z21 rfl _ _ 140 rfl _ _ rfl rfl (fun ty=>z70 kn_one underlying140 hinf hz0 hz1 hz2 rfl yh yh (HO.o.1.alloc _) (know_lit wr ⟨xn,xt,xr⟩ HS.o.1 HS.o.2) vv vw ty) ?_;intro v5 w5 hv5;have HO5:=J (kadd_step HO.o HBr.o hv5);clear hv5)
   .try rw[z18 zy]
    exact⟨⟨i'+ 1,acc++ [⟨xn,xt,xr⟩],rfl,yf,vy,HO5⟩,hstep⟩
   .try rw[z18 zy]
    exact⟨⟨i'+ 1,acc,rfl,yf,by show _<=_;have:=HA.o;omega,HO⟩,hstep⟩
  .have e:i'= L:=by omega
   subst e;have HBr:I (∀k∈ [(⟨nm,ty,res⟩:Kn)],Brief k.name):=fun k hk=>by rw[List.mem_singleton]at hk;rw[hk];exact HL.o.2.2.1
   have HS:=J (Lc (show d.B<wr.heap.size by have:=HO.o.2.1.size;have:=HL.o;omega) (show d.G<wr.heap.size by have:=HO.o.2.1.size;have:=HL.o;omega));go_wp2_with (at_builtin;refine z21 rfl _ _ 140 rfl _ _ rfl rfl (fun ty_=>z70 kn_one underlying140 hinf hz0 hz1 hz2 rfl yh yh (HO.o.1.alloc _) (know_lit wr ⟨nm,ty,res⟩ HS.o.1 HS.o.2) vv vw ty_) ?_;intro v5 w5 hv5;have HO5:=J (kadd_step HO.o HBr.o hv5);clear hv5)
   go_ret;refine⟨_,rfl,acc++ [⟨nm,ty,res⟩],knows_owns HO5.o.1 HO5.o.2.2 HL.o.2.2.2.1 HL.o.2.2.2.2,?_,HO5.o.2.1⟩;have:=HA.o;simp;omega
def NodesPost (d:Dr) (ve:Value) (W:World) (s:Cn) (c:Nat) (e:Ending) (W':World):Prop:=
 ∃v ns s' t,e=.returned v/\NodesD d W' v ns/\(1<=ns.length/\ns.length<=t)/\Gen d ve W' s'/\Grew d W W'/\Spent s s' t c
def NodesPost0 (d:Dr) (ve:Value) (W:World) (s:Cn) (c:Nat) (e:Ending) (W':World):Prop:=
 ∃v ns s' t,e=.returned v/\NodesD d W' v ns/\ns.length<=t/\Gen d ve W' s'/\Grew d W W'/\Spent s s' t c
theorem nodes_none (d:Dr) (W:World):NodesD d W (.slice none 0 0) []:=⟨Or.inl ⟨rfl,rfl⟩,fun n hn=>by simp at hn⟩
theorem Spent.refl (s:Cn) (c:Nat):Spent s s 0 c:=⟨yf,yf,yf,yf,yf⟩
theorem nd_lit {d:Dr}(W:World) (n:Nd) (h1:d.B<W.heap.size) (h2:d.G<W.heap.size) (hb:Brief n.a/\Brief n.b/\Brief n.c):NodesD d (W.alloc (.cells #[.int .i64 n.kind,.int .i64 n.num,.string n.a,.string n.b,.string n.c,.int .i64 n.kids] 60)) (.slice (some ⟨W.heap.size,0,none⟩) 1 1) [n]:=
 ⟨lies_lit (f:=Nd.cell) (sz:=6) yh W 60 [n] _ rfl h1 h2,fun x hx=>by rw[List.mem_singleton]at hx;rw[hx];exact hb⟩
theorem gknown_calls {d:Dr}(ty:Int) (h:Gen d ve W s) (hp:s.p<=1000000) (hk:KnowsD d W v ks) (hl:ks.length<=1000) :
 Calls prog 127 #[.pointer (some ⟨d.G,0,none⟩),v,.int .i64 ty] W (NodesPost0 d ve W s 1):=by
 obtain⟨L,hL⟩:∃L,ks.length=L:=⟨_,rfl⟩
 have HK:=J hk;have HG:=J h;have HL:=J (Lc hL (Lc hl hp));have g0:=h.c0;obtain⟨ad,cp,rfl⟩:=hk.is;rw[hL]at HK |-;obtain⟨G,hGe⟩:∃G,d.G=G:=⟨_,rfl⟩
 have HGe:=J hGe;obtain⟨B,hBe⟩:∃B,d.B=B:=⟨_,rfl⟩
 have HBe:=J hBe;rw[hGe,hBe]at g0;rw[hGe];clear hk hl hp hL h hGe hBe;go_enter func127,ntmps127
 go_wp2_with fail
 go_loopw [7,8] (fun n i wr=> ∃(i' n':Nat),n=.int .i64 n'/\i=.int .i64 i'/\i'<=L/\I (n'<=i')/\wr=W) (fun _ i _=>L-(intOf i).toNat)
 case atStart=>exact⟨0,0,rfl,rfl,Li _,Li _,rfl⟩
 case round=>
  obtain⟨i',n',rfl,rfl,hle,HN,rfl⟩:=hrel;by_cases hi:(i':Int)<(L:Int)
  .obtain⟨b,off,xn,xt,xr,rfl,-,-,hq,c0,c1,c2⟩:=HK.o.at (i:=i') yf;have hi0:(0:Int)<=(i':Int):=yf;have hstep:L-(intOf (.int .i64 ((i'+ 1:Nat):Int))).toNat<L-(intOf (.int .i64 (i':Int))).toNat:=z47 hi;clear hq c0 c2;go_wp2_with fail
   .rw[z18 (x:=i') zy,z18 (x:=n') (by have:=HL.o;have:=HN.o;omega)];exact⟨⟨i'+ 1,n'+ 1,rfl,rfl,yf,by show _<=_;have:=HN.o;omega,ua⟩,hstep⟩
   .rw[z18 (x:=i') zy];exact⟨⟨i'+ 1,n',rfl,rfl,yf,by show _<=_;have:=HN.o;omega,ua⟩,hstep⟩
  .rename World=>Wo
   by_cases hn0:n'= 0
   .subst hn0;go_wp2_with fail
    go_ret;exact⟨_,[],s,0,rfl,nodes_none _ _,yn,HG.o,Grew.refl _ _,Spent.refl _ _⟩
   .have hz:((n':Int)==0)=false:=by simp;omega
    have HP:=J (gen_pick HG.o zy (n':Int) yf);rw[HBe.o]at HP;go_wp2_with fail
    refine HP.o.mono ?_;rintro e W2 ⟨k0,rfl,hk0,hk1,hg2,hgr2⟩;have HG2:=J (Lc hg2 hgr2);have HK2:=J (HK.o.grew hgr2);have HKk:I (k0<=1000):=by show _<=_;have:=HL.o;have:=HN.o;omega
    clear HP hk1 hg2 hgr2 HK HG g0 hz hn0;go_wp2_with fail
    go_loopw [9,10] (fun k i wr=> ∃(i':Nat) (k':Int),k=.int .i64 k'/\i=.int .i64 i'/\i'<=L/\0<=k'/\I (k'<=1000)/\wr=W2) (fun _ i _=>L-(intOf i).toNat)
    case atStart=>exact⟨0,k0,rfl,rfl,Li _,hk0,HKk,rfl⟩
    case round=>
     obtain⟨i2,k2,rfl,rfl,hle2,hk20,HK21,rfl⟩:=hrel;by_cases hi2:(i2:Int)<(L:Int)
     .obtain⟨b,off,xn,xt,xr,rfl,-,hbr,hq,c0,c1,c2⟩:=HK2.o.at (i:=i2) yf;have HBr:=J hbr;have hi0:(0:Int)<=(i2:Int):=yf;have hstep:L-(intOf (.int .i64 ((i2+1:Nat):Int))).toNat<L-(intOf (.int .i64 (i2:Int))).toNat:=z47 hi2;clear hq c2 hbr;by_cases hk2:k2=0
      .subst hk2;go_wp2_with fail
       .go_ret;exact⟨_,[⟨5,0,xn,ByteArray.empty,ByteArray.empty,0⟩],_,1,rfl,nd_lit wr ⟨5,0,xn,ByteArray.empty,ByteArray.empty,0⟩ HG2.o.1.ltB HG2.o.1.ltG ⟨HBr.o,z13,z13⟩,yn,HG2.o.1.alloc _,HG2.o.2.alloc _,ub⟩
       .rw[z18 (x:=i2) zy];exact⟨⟨i2+1,0,rfl,rfl,yf,Int.le_refl _,je,ua⟩,hstep⟩
      .have hz2:(k2==0)=false:=by simp[hk2]
       have HW:I (wrap64 (k2-1)=k2-1):=by show _=_;have:=HK21.o;unfold wrap64;omega
       go_wp2_with fail
       .rw[z18 (x:=i2) zy];try rw[HW.o]
        exact⟨⟨i2+1,k2-1,rfl,rfl,yf,yf,by show _<=_;have:=HK21.o;omega,ua⟩,hstep⟩
       .rw[z18 (x:=i2) zy];exact⟨⟨i2+1,k2,rfl,rfl,yf,hk20,HK21,ua⟩,hstep⟩
     .go_wp2_with fail
      go_ret;exact⟨_,[],_,1,rfl,nodes_none _ _,yn,HG2.o.1,HG2.o.2,ub⟩
def At (d:Dr) (ve:Value) (W:World) (s:Cn) (X:World) (s':Cn) (t c:Nat):Prop:=Gen d ve X s'/\Grew d W X/\Spent s s' t c
theorem Spent.trans {s2:Cn}{t':Nat}(h:Spent s s1 t c) (g:Spent s1 s2 t' c'):Spent s s2 (t+t') (c+c'):=by
 unfold Spent at h g |-;omega
theorem Spent.mono (h:Spent s s1 t c) (hc:c<=c'):Spent s s1 t c':= by
 unfold Spent at h |-;omega
theorem At.start {d:Dr}(h:Gen d ve W s):At d ve W s W s 0 0:=⟨h,Grew.refl _ _,Spent.refl _ _⟩
theorem At.step {d:Dr}{X':World}{s2:Cn}{t':Nat}(h:At d ve W s X s1 t c) (h1:Gen d ve X' s2) (h2:Grew d X X') (h3:Spent s1 s2 t' c'):At d ve W s X' s2 (t+t') (c+c'):=⟨h1,h.2.1.trans h2,h.2.2.trans h3⟩
theorem At.below {d:Dr}{X':World}(h:At d ve W s X s1 t c) (hb:Below X.heap.size X X'):At d ve W s X' s1 t c:=⟨h.1.below hb,h.2.1.trans (Grew.of_below hb),h.2.2⟩
theorem At.alloc {d:Dr}(h:At d ve W s X s1 t c) (o:Obj):At d ve W s (X.alloc o) s1 t c:=h.below (Lb.alloc La o)
theorem At.drew {d:Dr}(h:At d ve W s X s1 t c):At d ve W s X.drew s1 t c:=⟨h.1.drew,h.2.1.drew,h.2.2⟩
theorem At.fit {d:Dr}(h:At d ve W s X s1 t c) (hf:Fit s C) (C':Nat) (hc:c+C'<=C):Fit s1 C':= by
 have h3:=h.2.2;unfold Spent at h3;unfold Fit at hf |-;omega
theorem At.done {d:Dr}(h:At d ve W s X s1 t c) (k:Nat) (hn:NodesD d X v ns) (hl:1<=ns.length/\ns.length<=t+k) (hc:c+k<=C):NodesPost d ve W s C (.returned v) X:=
 ⟨v,ns,s1,t+k,rfl,hn,hl,h.1,h.2.1,uc⟩
theorem At.done0 {d:Dr}(h:At d ve W s X s1 t c) (k:Nat) (hn:NodesD d X v ns) (hl:ns.length<=t+k) (hc:c+k<=C):NodesPost0 d ve W s C (.returned v) X:=
 ⟨v,ns,s1,t+k,rfl,hn,hl,h.1,h.2.1,uc⟩
theorem At.pick {d:Dr}(h:At d ve W s X s1 t c) (hf:Fit s C) (hc:c<C) (n:Int) (hn:0<n) :
 Calls prog 37 #[.pointer (some ⟨d.B,0,none⟩),.int .i64 n] X fun e X'=> ∃(m:Int) (s2:Cn),e=.returned (.int .i64 m)/\0<=m/\m<n/\At d ve W s X' s2 (t+1) (c+1)/\Grew d X X':= by
 have hf1:=h.fit hf 1 yf;refine(gen_pick h.1 (by unfold Fit at hf1;omega) n hn).mono ?_;rintro e X' ⟨m,rfl,h0,h1,hg,hgr⟩;exact⟨m,_,rfl,h0,h1,h.step hg hgr ub,hgr⟩
theorem At.name {d:Dr}(h:At d ve W s X s1 t c) (hf:Fit s C) (hc:c<C) :
 Calls prog 107 #[.pointer (some ⟨d.G,0,none⟩)] X fun e X'=> ∃(x:ByteArray) (s2:Cn),e=.returned (.string x)/\Brief x/\At d ve W s X' s2 (t+1) (c+1)/\Grew d X X':= by
 have hf1:=h.fit hf 1 yf;refine(name_calls h.1 (by unfold Fit at hf1;omega)).mono ?_;rintro e X' ⟨x,rfl,hb,hg,hgr⟩;exact⟨x,_,rfl,hb,h.step hg hgr ub,hgr⟩
theorem At.nodes {d:Dr}(h:At d ve W s X s1 t c) (hc:Calls prog f args X (NodesPost d ve X s1 c')) :
 Calls prog f args X fun e X'=> ∃v ns s2 t',e=.returned v/\NodesD d X' v ns/\(1<=ns.length/\ns.length<=t')/\At d ve W s X' s2 (t+t') (c+c')/\Grew d X X':= by
 refine hc.mono ?_;rintro e X' ⟨v,ns,s2,t',rfl,hn,hl,hg,hgr,hsp⟩;exact⟨v,ns,s2,t',rfl,hn,hl,h.step hg hgr hsp,hgr⟩
theorem At.nodes0 {d:Dr}(h:At d ve W s X s1 t c) (hc:Calls prog f args X (NodesPost0 d ve X s1 c')) :
 Calls prog f args X fun e X'=> ∃v ns s2 t',e=.returned v/\NodesD d X' v ns/\ns.length<=t'/\At d ve W s X' s2 (t+t') (c+c')/\Grew d X X':= by
 refine hc.mono ?_;rintro e X' ⟨v,ns,s2,t',rfl,hn,hl,hg,hgr,hsp⟩;exact⟨v,ns,s2,t',rfl,hn,hl,h.step hg hgr hsp,hgr⟩
theorem At.node {d:Dr}(h:At d ve W s X s1 t c) (k n:Int) :
 Calls prog 71 #[.int .i64 k,.int .i64 n] X fun e X'=> ∃v ns,e=.returned v/\NodesD d X' v ns/\ns.length=1/\At d ve W s X' s1 t c/\Grew d X X':= by
 refine(node_calls (d:=d) k n X h.1.ltB h.1.ltG).mono ?_;rintro e X' ⟨v,rfl,hn,hb⟩;exact⟨v,_,rfl,hn,rfl,h.below hb,Grew.of_below hb⟩
theorem nE {d:Dr}{L:List Nd->Nat->Prop}{R:World->Cn->Nat->Prop}{G:World->Prop}{Q:Ending->World->Prop}(h:Calls prog f args X fun e X'=> ∃v ns s t,e=.returned v/\NodesD d X' v ns/\L ns t/\R X' s t/\G X') (k:∀X' ad cp ns s t,I (NodesD d X' (.slice ad ns.length cp) ns/\L ns t)->I (R X' s t)->I (G X')->Q (.returned (.slice ad ns.length cp)) X'):Calls prog f args X Q:=by
 refine h.mono ?_;rintro e X' ⟨v,ns,s,t,rfl,hn,hl,ha,hg⟩;obtain⟨ad,cp,rfl⟩:=hn.is;exact k X' ad cp ns s t (J ⟨hn,hl⟩) (J ha) (J hg)
theorem vE {d:Dr}{L:List Nd->Prop}{R G:World->Prop}{Q:Ending->World->Prop}(h:Calls prog f args X fun e X'=> ∃v ns,e=.returned v/\NodesD d X' v ns/\L ns/\R X'/\G X') (k:∀X' ad cp ns,I (NodesD d X' (.slice ad ns.length cp) ns/\L ns)->I (R X')->I (G X')->Q (.returned (.slice ad ns.length cp)) X'):Calls prog f args X Q:=by
 refine h.mono ?_;rintro e X' ⟨v,ns,rfl,hn,hl,ha,hg⟩;obtain⟨ad,cp,rfl⟩:=hn.is;exact k X' ad cp ns (J ⟨hn,hl⟩) (J ha) (J hg)
theorem At.add {d:Dr}(h:At d ve W s X s1 t c) (nm:ByteArray) (ty res:Int) (hk:KnowsD d X v ks) (hb:Brief nm) (hl:ks.length<=1000) :
 Calls prog 108 #[v,.string nm,.int .i64 ty,.int .i64 res] X fun e X'=> ∃u ks',e=.returned u/\KnowsD d X' u ks'/\ks'.length<=ks.length+1/\At d ve W s X' s1 t c/\Grew d X X':= by
 refine(kadd_calls nm ty res X h.1.ltB h.1.ltG hk hb hl).mono ?_;rintro e X' ⟨u,rfl,ks',hk',hl',hbl⟩;exact⟨u,ks',rfl,hk',hl',h.below hbl,Grew.of_below hbl⟩
theorem kids_lit {d:Dr}(ls:List (Value×List Nd)) (c:Array Value) (hc:c=(ls.map Prod.fst).toArray) (h1:d.B<X.heap.size) (h2:d.G<X.heap.size) (h:∀x∈ls,NodesD d X x.1 x.2) :
 KidsV d (X.alloc (.cells c 24)) (.slice (some ⟨X.heap.size,0,none⟩) ls.length ls.length) ls:=by
 subst hc;refine zb65 ?_;unhygienic intros
 simp[List.getD,hi]
theorem At.put {d:Dr}(h:At d ve W s X s1 t c) (ls:List (Value×List Nd)) (cs:Array Value) (m:Nat) (k nm kd:Int) (a b e':ByteArray) (hc:cs=(ls.map Prod.fst).toArray) (hm:m=ls.length) (hls:∀x∈ls,NodesD d X x.1 x.2) (hb:Brief a/\Brief b/\Brief e') (hl:ls.length<=1000) (hfl:(flatL ls).length<=800000) :
 Calls prog 67 #[.agg #[.int .i64 k,.int .i64 nm,.string a,.string b,.string e',.int .i64 kd],.slice (some ⟨X.heap.size,0,none⟩) m m] (X.alloc (.cells cs 24)) fun e X'=> ∃v ns,e=.returned v/\NodesD d X' v ns/\ns.length=1+(flatL ls).length/\At d ve W s X' s1 t c/\Grew d X X':= by
 subst hm;have hB:(X.alloc (.cells cs 24)).heap.size=X.heap.size+1:=yn;refine(gput_calls (d:=d) k nm kd a b e' (X.alloc (.cells cs 24)) _ ls (by rw[hB];have:=h.1.ltB;omega) (by rw[hB];have:=h.1.ltG;omega) (kids_lit ls cs hc h.1.ltB h.1.ltG hls) hb hl hfl).mono ?_;rintro e X' ⟨v,rfl,hn,hbl⟩;exact⟨v,_,rfl,hn,yk,(h.alloc _).below hbl,(Grew.of_below (Lb.alloc La _)).trans (Grew.of_below hbl)⟩
theorem At.put1 {d:Dr}(h:At d ve W s X s1 t c) (k nm kd:Int) (a b e':ByteArray) (h1:NodesD d X v1 n1) (hb:Brief a/\Brief b/\Brief e') (hfl:n1.length<=800000) :
 Calls prog 67 #[.agg #[.int .i64 k,.int .i64 nm,.string a,.string b,.string e',.int .i64 kd],.slice (some ⟨X.heap.size,0,none⟩) 1 1] (X.alloc (.cells #[v1] 24)) fun e X'=> ∃v ns,e=.returned v/\NodesD d X' v ns/\ns.length=1+n1.length/\At d ve W s X' s1 t c/\Grew d X X':= by
 have hf:(flatL [(v1,n1)]).length=n1.length:=by simp[flatL]
 rw[<-hf];exact h.put [(v1,n1)] _ 1 k nm kd a b e' rfl rfl (fun x hx=>ud) hb yn yf
theorem At.put2 {d:Dr}(h:At d ve W s X s1 t c) (k nm kd:Int) (a b e':ByteArray) {v2:Value}{n2:List Nd}(h1:NodesD d X v1 n1) (h2:NodesD d X v2 n2) (hb:Brief a/\Brief b/\Brief e') (hfl:n1.length+n2.length<=800000) :
 Calls prog 67 #[.agg #[.int .i64 k,.int .i64 nm,.string a,.string b,.string e',.int .i64 kd],.slice (some ⟨X.heap.size,0,none⟩) 2 2] (X.alloc (.cells #[v1,v2] 24)) fun e X'=> ∃v ns,e=.returned v/\NodesD d X' v ns/\ns.length=1+(n1.length+n2.length)/\At d ve W s X' s1 t c/\Grew d X X':= by
 have hf:(flatL [(v1,n1),(v2,n2)]).length=n1.length+n2.length:=by simp[flatL]
 rw[<-hf];exact h.put [(v1,n1),(v2,n2)] _ 2 k nm kd a b e' rfl rfl (fun x hx=>ue) hb yn yf
theorem At.put3 {d:Dr}(h:At d ve W s X s1 t c) (k nm kd:Int) (a b e':ByteArray) {v2 v3:Value}{n2 n3:List Nd}(h1:NodesD d X v1 n1) (h2:NodesD d X v2 n2) (h3:NodesD d X v3 n3) (hb:Brief a/\Brief b/\Brief e') (hfl:n1.length+n2.length+n3.length<=800000) :
 Calls prog 67 #[.agg #[.int .i64 k,.int .i64 nm,.string a,.string b,.string e',.int .i64 kd],.slice (some ⟨X.heap.size,0,none⟩) 3 3] (X.alloc (.cells #[v1,v2,v3] 24)) fun e X'=> ∃v ns,e=.returned v/\NodesD d X' v ns/\ns.length=1+(n1.length+n2.length+n3.length)/\At d ve W s X' s1 t c/\Grew d X X':= by
 have hf:(flatL [(v1,n1),(v2,n2),(v3,n3)]).length=n1.length+n2.length+n3.length:=uf;rw[<-hf];exact h.put [(v1,n1),(v2,n2),(v3,n3)] _ 3 k nm kd a b e' rfl rfl (fun x hx=>ug) hb yn yf
end
end Go.Proofs.YtfbojelpdccjaaaGreatDoor
