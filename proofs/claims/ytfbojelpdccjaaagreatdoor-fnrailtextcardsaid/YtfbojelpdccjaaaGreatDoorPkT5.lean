import Derived.Test.YtfbojelpdccjaaaGreatDoorPkT4
import Derived.Deep.RegionHeld3
open Go.Proofs.Tryz
set_option maxHeartbeats 2000000
set_option maxRecDepth 100000
namespace Go.Proofs.YtfbojelpdccjaaaGreatDoor
open Go.RowKit Go.Deep
variable {a a':Act}{ls ls':Array Bool}{ns:List Nd}{i n:Nat}{o:Oper}{t:Tp}{v:Value}{w:World}
section
open Go.RowKit Go.Deep
theorem kidsAt_first (f:Fo) (p:Nat) (h:0<f.count):((kidsAt f p).getD 0 default).at_=p:=by
 cases f with
 |none=>simp[Fo.count]at h
 |tree n k r=>rfl
theorem kidsAt_next:∀(f:Fo) (p i:Nat),i+1<f.count->((kidsAt f p).getD (i+1) default).at_=((kidsAt f p).getD i default).at_+1+((kidsAt f p).getD i default).k.flat.length
 |.none,p,i,h=>by simp[Fo.count]at h
 | .tree n k r,p,0,h=>by
   have h1:=kidsAt_first r (p+1+k.flat.length) (by simp only[Fo.count]at h;omega);simp only[kidsAt,List.getD_cons_succ,List.getD_cons_zero];exact h1
 | .tree n k r,p,i+1,h=>by
   have h1:=kidsAt_next r (p+1+k.flat.length) i (by simp only[Fo.count]at h;omega);simp only[kidsAt,List.getD_cons_succ];exact h1
theorem Stands.end (h:Stands ns t):treeEnd ns (t.at_:Int)=((t.at_+1+t.k.flat.length:Nat):Int):=by
 obtain⟨suf,hd⟩:=h.drop;exact treeEnd_at hd h.kids h.good.wf
theorem Stands.first (_h:Stands ns t) (h0:0<t.k.count):(t.kid 0).at_=t.at_+1:=kidsAt_first t.k _ h0
theorem Stands.next (h:Stands ns t) (hi:i+1<t.k.count):treeEnd ns ((t.kid i).at_:Int)=((t.kid (i+1)).at_:Int):=by
 rw[(h.kid yf).end];exact congrArg _ (kidsAt_next t.k _ i hi).symm
theorem Stands.lt (h:Stands ns t):t.at_<ns.length/\ns.getD t.at_ default=t.n/\t.at_+t.size<=ns.length:=by
 obtain⟨suf,hd⟩:=h.drop;have hl:=congrArg List.length hd;simp only[List.length_drop,List.length_cons,List.length_append]at hl;refine⟨yf,?_,by unfold Tp.size;omega⟩;have:ns.getD t.at_ default=(ns.drop t.at_).getD 0 default:=by simp[List.getD,List.getElem?_drop]
 rw[this,hd];rfl
theorem kid_calls {b off cap:Nat}(i:Nat) (W:World) (hn:NodesAt W b off ns) (hm:ns.length<=300) (h:Stands ns t) (hi:i<t.k.count) :
 Calls prog 83 #[.slice (some ⟨b,off,none⟩) ns.length cap,.int .i64 (t.at_:Int),.int .i64 (i:Int)] W fun e W'=> e=.returned (.int .i64 ((t.kid i).at_:Int))/\W=W':= by
 have HE:=J (fun(at_:Int)=>z59 b off cap ns at_ W hn yf);have HS:=J (Lc h (Lc hi hm));have hlt:=h.lt.1;have HW:I (wrap64 ((t.at_:Int)+1)=((t.kid 0).at_:Int)):=by
  show _=_;rw[h.first yf];unfold wrap64;omega
 have HI:I (i<=300):=by
  show _<=_;have h1:=t.kids_len;have h2:=Fo.count_le t.k;have h3:=h.lt.2.2;unfold Tp.size at h3;omega
 clear hn hm h hi hlt;generalize ns.length=len at*;generalize t.at_=p at*;go_enter func83,ntmps83
 go_wp2_with fail
 rw[HW.o];go_loopw [1,7] (fun at_ j wr=> ∃(k:Nat),k<=i/\at_=.int .i64 ((t.kid k).at_:Int)/\j=.int .i64 (k:Int)/\wr=W) (fun _ j _=>i-(intOf j).toNat)
 case atStart=>exact⟨0,Li _,rfl,rfl,rfl⟩
 case round=>
  obtain⟨k,hk,rfl,rfl,rfl⟩:=hrel;by_cases hki:(k:Int)<(i:Int)
  .have hnx:=HS.o.1.next (i:=k) (by have:=HS.o.2.1;omega);have HC:=J (HE.o ((t.kid k).at_:Int));rw[hnx]at HC;have hstep:i-(intOf (.int .i64 ((k+1:Nat):Int))).toNat<i-(intOf (.int .i64 (k:Int))).toNat:=yl;clear hnx;go_wp2_with fail
   refine HC.o.mono ?_;rintro e W1 ⟨rfl,rfl⟩;go_wp2_with fail
   try rw[z18 (by have:=HI.o;omega)]
   exact⟨⟨k+1,yf,rfl,rfl,trivial⟩,hstep⟩
  .have e:k=i:=by omega
   subst e;go_wp2_with fail
   go_ret;exact⟨rfl,rfl⟩
end
section
open Go.RowKit
theorem dec_append (a b:List UInt8):(⟨a.toArray⟩:ByteArray)++⟨b.toArray⟩=⟨(a++b).toArray⟩:=by
 apply ByteArray.ext;simp
theorem dec_size (a:List UInt8):(⟨a.toArray⟩:ByteArray).size=a.length:=by
 simp[ByteArray.size]
def tx (l:List UInt8):ByteArray:=⟨l.toArray⟩
theorem z32 (l:List UInt8):(tx l).size=l.length:=dec_size l
theorem z24 (a b:List UInt8):tx a++tx b=tx (a++b):=dec_append a b
def Long (n:Int):Prop:= -9223372036854775808<=n/\n<=9223372036854775807
def decGo:Nat->Nat->List UInt8->List UInt8
 |0,_,out=>out
 |f+1,u,out=>if u=0 then out else decGo f (u/10) (UInt8.ofNat (48+u % 10)::out)
theorem decGo_eq:∀(f u:Nat) (out:List UInt8),0<u->u<10 ^ f->decGo f u out=Lib.decDigits u++out
 |0,u,out,h0,h1=>by simp at h1;omega
 | f+1,u,out,h0,h1=>by
   rw[decGo,if_neg yf];by_cases h:u<10
   .rw[Lib.decDigits_one h,show u/10=0 by omega,show u % 10=u by omega]
    cases f with
    |zero=>rfl
    |succ f=>rw[decGo,if_pos rfl];rfl
   .rw[decGo_eq f (u/10) _ yf (by rw[Nat.pow_succ]at h1;omega)];conv=>rhs;rw[Lib.decDigits,dif_neg h]
    simp
def digB (u:Nat):ByteArray:=⟨#[UInt8.ofNat (48+u % 10)]⟩
theorem digB_run (j:Nat) (w:World):(convert 22 9 (.slice (some ⟨w.heap.size,0,none⟩) 1 1)).run prog (w.alloc (.cells #[.int .u8 (48+(j:Int) % 10)] 5))=.ok (.string (digB j)) (w.alloc (.cells #[.int .u8 (48+(j:Int) % 10)] 5)):=by
 have h:=run_convert_bytes_back (P:=prog) (w.alloc (.cells #[.int .u8 (48+(j:Int) % 10)] 5)) 22 9 5 ⟨w.heap.size,0,none⟩ 1 [UInt8.ofNat (48+j % 10)] underlying22 underlying5 underlying9 (fun i hi=>by
  have h0:i=0:=by simpa using hi
  subst h0;simp[Addr.add];omega)
 exact h
theorem digB_append (j:Nat) (l:List UInt8):digB j++⟨l.toArray⟩=⟨(UInt8.ofNat (48+j % 10)::l).toArray⟩:=dec_append [UInt8.ofNat (48+j % 10)] l
theorem l2Dec_pos (u:Nat) (w:World) (hu:0<u) (hn:u<=9223372036854775808) :
 Calls prog 82 #[.int .i64 (u:Int)] w fun e w'=> e=.returned (.string ⟨(Lib.decDigits u).toArray⟩)/\Below w.heap.size w w':= by
 obtain⟨R,hR⟩:∃R,Lib.decDigits u=R:=⟨_,rfl⟩
 have HR:I (decGo 19 u []=R):=by
  show _=_;rw[decGo_eq 19 u [] hu yf,hR];simp
 rw[hR];have HN:I (u<10 ^ 19):=by show _<_;omega
 clear hR hn;have hb0:((u:Int)==0)=false:=yk;have hneg:¬ (u:Int)<0:=yf;go_enter func82,ntmps82
 go_wp2_with fail
 go_loopw [0,3] (fun a o wr=> ∃(v f:Nat) (l:List UInt8),a=.int .i64 (v:Int)/\o=.string ⟨l.toArray⟩/\I (v<10 ^ f)/\I (l.length+f<=19)/\I (decGo f v l=R)/\Below w.heap.size w wr) (fun a _ _=>(intOf a).toNat)
 case atStart=>exact⟨u,19,[],rfl,rfl,HN,by simp[I],HR,Lb⟩
 case round=>
  obtain⟨v,f,l,rfl,rfl,HVF,HF,HE,hnx⟩:=hrel;clear HR hb0 hneg;by_cases hv0:v=0
  ·subst hv0;have hE:l=R:=by
    have:=HE.o
    cases f with
    |zero=>exact this
    |succ f=>simpa[decGo]using this
   subst hE;clear HE;go_wp2_with fail
   go_ret;exact⟨rfl,hnx⟩
  .obtain⟨f,rfl⟩:∃f',f=f'+ 1:=⟨f-1,by have h:=HVF.o;cases f with|zero=>simp at h;omega|succ f=>simp⟩
   have HV2:I (v/10<10 ^ f/\v<10000000000000000000):=by
    have h:=HVF.o;have h2:=HF.o;refine⟨by rw[Nat.pow_succ]at h;omega,?_⟩;exact Le h (Nat.pow_le_pow_right (n:=10) (j:=19) yh yf)
   have hE:=HE.o;rw[decGo,if_neg hv0]at hE;have HE':I (decGo f (v/10) (UInt8.ofNat (48+v % 10)::l)=R):=hE;have hb0:((v:Int)==0)=false:=yk;have hd:¬ ((v:Int) % 10<0):=yf;have hcv:=digB_run v wr;have HA:I (digB v++⟨l.toArray⟩=⟨(UInt8.ofNat (48+v % 10)::l).toArray⟩):=digB_append v l;have hdz:(digB v).size=1:=rfl;have hcat:¬ 9223372036854775807<1+l.length:=by have:=HF.o;omega
   clear HE hE;generalize digB v=dj at*;go_wp2_with fail
   have ew:wrap64 ((v:Int)/10)=((v/10:Nat):Int):=by have:=HV2.o;unfold wrap64;omega
   rw[HA.o,ew];refine⟨⟨v/10,f,_,rfl,rfl,HV2.o.1,?_,HE',hnx.alloc hnx.size _⟩,yl⟩;show(_::l).length+f<=_;have:=HF.o;simp only[List.length_cons];omega
theorem l2Dec_zero (w:World):Calls prog 82 #[.int .i64 0] w fun e w'=> e=.returned (.string ⟨#[48]⟩)/\w=w':= by
 go_enter func82,ntmps82
 go_wp2_with fail
 go_ret;exact⟨rfl,rfl⟩
structure Later (B:Nat) (W:World) where
 w:World
 h:Below B W w
instance (B:Nat) (W:World):Nonempty (Later B W):=⟨⟨W,Lb⟩⟩
theorem Later.cell {B:Nat}{W:World}(x:Later B W) {p:Addr}(hp:p.block<B) (h:W.cell? p=some v):x.w.cell? p=some v:=(x.h.cell hp).trans h
theorem z20 {P:Program}{id:Nat}{Q:Exit->Act->World->Prop}{l:List Oper}(B:Nat) (hm:P.follows .mixedOrders=true) (hB:Region.lexB .any l.toArray=true)
 (h:wpQuiet P l.toArray (fun w'=> ∃x:Later B w,w'= x.w) (fun a'=> ∀w',(∃x:Later B w,w'= x.w)->Q .normal a' w') l a):(Code.region id l.toArray true).wp P Q a w:=
 wp_region_quiet (C:=fun w'=> ∃x:Later B w,w'= x.w) hm hB ⟨⟨w.drew,(Below.refl B w).drew⟩,rfl⟩ zn
def upTo (n k:Nat):Array Bool:=((List.range n).map (fun i=>decide (i<k))).toArray
section
variable {P:Program}{Q:Exit->Act->World->Prop}{S:World->Prop}{l0:List Oper}
end
section
variable {P:Program}{ops:Array Oper}{Q:Exit->Act->World->Prop}{S:World->Prop}
def waitsB (ops:Array Oper):Nat->Nat->Nat->Bool
 |0,_,_=>false
 | f+1,c,i=>match ops[c]? with
   |none=>false
   |some o=>o.after.any (fun e=>Region.binds .any e && (e.on==i || waitsB ops f e.on i))
def ShutL (ops:Array Oper) (listed:Array Bool):Prop:= ∀(j:Nat) (o:Oper),ops[j]?=some o->listed.getD j false=true-> ∀e∈o.after,Region.binds .any e=true->listed.getD e.on false=true
theorem ShutL.waits {listed:Array Bool}(h:ShutL ops listed):∀(f c i:Nat),waitsB ops f c i=true->listed.getD c false=true->listed.getD i false=true
 |0,_,_,hw,_=>by cases hw
 | f+1,c,i,hw,hc=>by
   unfold waitsB at hw
   cases ho:ops[c]? with
   |none=>rw[ho]at hw;cases hw
   | some o=>
     rw[ho]at hw;dsimp only at hw;rw[Array.any_eq_true']at hw;obtain⟨e,he,hb⟩:=hw;rw[Bool.and_eq_true,Bool.or_eq_true]at hb;have h1:=h c o ho hc e he hb.1;rcases hb.2 with h2|h2
     .rw[beq_iff_eq]at h2;rw[<-h2];exact h1
     .exact ShutL.waits h f e.on i h2 h1
theorem ShutL.next {listed:Array Bool}(h:ShutL ops listed) (hr:i∈Region.ready .any ops listed):ShutL ops (listed.setIfInBounds i true):=by
 intro j o ho hj e he hb;obtain⟨_,oi,hoi,hall⟩:=mem_ready.1 hr;by_cases hij:i=j
 .subst hij;rw[hoi]at ho
  cases ho;exact getD_set_true (hall e he hb)
 .rw[getD_set_ne false hij]at hj;exact getD_set_true (h j o ho hj e he hb)
def wpTill (P:Program) (ops:Array Oper) (Q:Exit->Act->World->Prop) (S:World->Prop) (c:Nat) (K:Nat->Array Bool->Act->World->Prop):Nat->Array Bool->Act->World->Prop
 |0,_,_,_=>False
 |fuel+1,listed,a,w=>Region.ready .any ops listed≠ []/\ ∀i∈Region.ready .any ops listed,if i=c then wpOp P ops Q i (fun a' w'=> K fuel (listed.setIfInBounds i true) a' w') a w else wpOp P ops Q i (fun a' w'=> S w'/\wpTill P ops Q S c K fuel (listed.setIfInBounds i true) a' w') a w
theorem any_of_till {c:Nat}:∀(fuel:Nat) (listed:Array Bool) (a:Act) (w:World),wpTill P ops Q S c (wpAny P .any ops Q) fuel listed a w->wpAny P .any ops Q fuel listed a w
 |0,_,_,_,h=>h.elim
 |fuel+1,listed,a,w,h=>⟨fun h0=>absurd h0 h.1,fun i hi=>by
  have h1:=h.2 i hi;split at h1
  .exact h1
  .exact wpOp_mono (fun a' w' h'=> any_of_till fuel _ a' w' h'.2) h1⟩
theorem till_first {c i:Nat}{oi:Oper}{v:Value}{K:Nat->Array Bool->Act->World->Prop}{f:Nat}(hi:ops[i]?=some oi) (hsel:Region.noSelect ops=true)
 (hQ:∀d a w,Q (.panic d) (a.put oi.dst v) w->Q (.panic d) a w) (hc:waitsB ops f c i=true) (hic:i≠c) :
 ∀(fuel:Nat) (listed:Array Bool) (a:Act) (w:World),ShutL ops listed->
  (∀j oj,ops[j]?=some oj->j≠i->listed.getD j true=false->(∀e∈oj.after,Region.binds .any e=true->e.on≠i)->oi.apart ops oj=true)->
  i∈Region.ready .any ops listed->YieldsIf P ops S oi v a->S w->
  wpTill P ops Q S c K fuel (listed.setIfInBounds i true) (a.put oi.dst v) w->wpTill P ops Q S c K (fuel+1) listed a w
 |0,_,_,_,_,_,_,_,_,H=>H.elim
 | fuel+1,listed,a,w,hsh,hfree,hr,hy,hS,H=>by
   refine⟨fun h=>by rw[h]at hr;exact(List.not_mem_nil hr).elim,fun j hj=>?_⟩;by_cases hji:j=i
   .subst hji;rw[if_neg hic];exact hy.wpOp hi hS ⟨hS,H⟩
   obtain⟨hjun,oj,hoj,hall⟩:=mem_ready.1 hj;have hir:=(mem_ready.1 hr).1;have hlast:listed.getD i false=true->False:=fun h=>by
    rcases Nat.lt_or_ge i listed.size with h'|h'
    .simp[h']at hir h;rw[hir]at h
     cases h
    .simp[Array.getElem?_eq_none h']at h
   have hjc:j≠c:=fun e=>by
    subst e;refine hlast ?_;-- j is ready: all it waits for has come up
    cases f with
    |zero=>cases hc
    | succ f=>
      unfold waitsB at hc;rw[hoj]at hc;dsimp only at hc;rw[Array.any_eq_true']at hc;obtain⟨e,he,hb⟩:=hc;rw[Bool.and_eq_true,Bool.or_eq_true]at hb;have h1:=hall e he hb.1;rcases hb.2 with h2|h2
      .rw[beq_iff_eq]at h2;rw[<-h2];exact h1
      .exact hsh.waits f e.on i h2 h1
   have h1:=H.2 j (ready_mono hj hji);rw[if_neg hjc]at h1 |-;have hnot:∀e∈oj.after,Region.binds .any e=true->e.on≠i:=fun e he hb heq=>by
    have:=hall e he hb;rw[heq]at this;exact hlast this
   have hsp:=Region.noSelect_spec hsel;have h2:=wpOp_putIf hoj (hfree j oj hoj hji hjun hnot) (fun cs b=>hsp i oi cs b hi) (fun cs b=>hsp j oj cs b hoj) hQ hy h1;refine wpOp_mono (fun a' w' h3=>⟨h3.2.1,till_first hi hsel hQ hc hic fuel (listed.setIfInBounds j true) a' w' (hsh.next hj) (fun k ok hk hki hun hno=>hfree k ok hk hki ?_ hno) (ready_mono hr (Ne.symm hji)) h3.1 h3.2.1 ?_⟩) h2
   .by_cases hjk:j=k
    .subst hjk;exact hjun
    .rw[getD_set_ne true hjk]at hun;exact hun
   .rw[Array.setIfInBounds_comm _ _ hji];exact h3.2.2
end
section
variable {P:Program}{Q:Exit->Act->World->Prop}{S:World->Prop}{l0:List Oper}
def shutB (l0:List Oper) (k:Nat):Bool:=(List.range k).all (fun j=>match l0[j]? with
 |none=>true
 |some o=>o.after.all (fun e=>!Region.binds .any e || decide (e.on<k)))
theorem shut_upTo {k:Nat}(hk:k<=l0.length) (h:shutB l0 k=true):ShutL l0.toArray (upTo l0.length k):=by
 intro j o ho hj e he hb;unfold shutB at h;rw[List.all_eq_true]at h;have hjk:j<k:=by
  by_cases hjl:j<l0.length
  .simp[upTo,hjl]at hj;exact hj
  .simp[upTo,hjl]at hj
 have h1:=h j (List.mem_range.2 hjk);rw[show l0[j]?=some o by simpa using ho]at h1;dsimp only at h1;rw[Array.all_eq_true_iff_forall_mem]at h1;have h2:=h1 e he;rw[hb]at h2;have h3:e.on<k:=by simpa using h2
 have h4:e.on<l0.length:=yf;simp[upTo,h4,h3]
end
section
variable {P:Program}{l0:List Oper}{Q:Exit->Act->World->Prop}{S:World->Prop}
theorem append_runN {P:Program}{s x:Operand}{t:TypeId}(ho:o.op=.call { callee:=.builtin .append,args:= #[s,x],argTypes:= #[t,t] }) {vx:Value}(hs:a.eval s=v) (hx:a.eval x=vx) {w':World}{v':Value}(hr:(Builtin.append_ #[t,t] o.type #[v,vx]).run P w=.ok v' w'):(execOp a.eval o).run P w=.ok (.value v') w':= by
 unfold execOp;simp only[ho,resolve,invoke,builtin,Sem.run_bind,Sem.run_pure,Result.andThen_ok,List.map_toArray,List.map_cons,List.map_nil,hs,hx,hr]
end
section
variable {P:Program}{l0:List Oper}{Q:Exit->Act->World->Prop}{S:World->Prop}
theorem z30 {id:Nat}(hm:P.follows .mixedOrders=true) (hn:l0.length=n) (hl:Array.replicate l0.length false=ls) (h:wpAnyH P .any l0.toArray (NoPanic Q) S n ls a w.drew):(Code.region id l0.toArray true).wp P Q a w:=by
 refine wp_region_noPanic (wp_region_held (S:=S) hm ?_);subst hn;subst hl;simpa using h
theorem z10 (hs:Region.noSelect l0.toArray=true) (ho:l0[i]?=some o) (hf:Region.free .any l0.toArray ls i=true) (hr:(Region.ready .any l0.toArray ls).contains i=true) (hl:ls.setIfInBounds i true=ls')
 (hw:Region.wanted o (yielded l0.toArray a.tmps)=true) (hy:∀w',S w'->(execOp a.eval o).run P w'=.ok (.value v) w') (hS:S w) (hput:a.put o.dst v=a') (h:wpAnyH P .any l0.toArray (NoPanic Q) S n ls' a' w):wpAnyH P .any l0.toArray (NoPanic Q) S (n+1) ls a w:=by
 subst hl;subst hput;exact wpAnyH_take (v:=v) zf hs hf hr (fun c a w h=>h) (Or.inl ⟨hw,hy⟩) hS h
theorem pick_o (i:Nat) (v:Value) (hS:S w) (h:wpAnyH P .any l0.toArray (NoPanic Q) S n ls' a' w) (hs:Region.noSelect l0.toArray=true:=by kernel_rfl) (ho:l0[i]?=some o:=by exact rfl) (hf:Region.free .any l0.toArray ls i=true:=by kernel_rfl) (hr:(Region.ready .any l0.toArray ls).contains i=true:=by kernel_rfl) (hl:ls.setIfInBounds i true=ls':= by exact rfl)
 (hw:Region.wanted o (yielded l0.toArray a.tmps)=true:=by exact rfl) (hy:∀w',S w'->(execOp a.eval o).run P w'=.ok (.value v) w':= by intro w' h;simp[go_sem]) (hput:a.put o.dst v=a':= by simp[go_sem];exact rfl):wpAnyH P .any l0.toArray (NoPanic Q) S (n+1) ls a w:=
 z10 hs ho hf hr hl hw hy hS hput h
theorem z23 {w1:World}(ho:l0[i]?=some o) (hr:(Region.ready .any l0.toArray ls== [i])=true) (hl:ls.setIfInBounds i true=ls')
 (hw:Region.wanted o (yielded l0.toArray a.tmps)=true) (hrun:(execOp a.eval o).run P w=.ok (.value v) w1) (hS:S w1) (hput:a.put o.dst v=a') (h:wpAnyH P .any l0.toArray (NoPanic Q) S n ls' a' w1):wpAnyH P .any l0.toArray (NoPanic Q) S (n+1) ls a w:=by
 subst hl;subst hput;refine zb81 ?_;unhygienic intros
 subst hj;refine zb24 ?_;exact⟨hS,h⟩
theorem z16 {f:FuncId}{args:Array Value}(ho:l0[i]?=some o) (hr:(Region.ready .any l0.toArray ls== [i])=true) (hl:ls.setIfInBounds i true=ls') (hw:Region.wanted o (yielded l0.toArray a.tmps)=true)
 (hrun:(execOp a.eval o).run P w=.ok (.enter f args) w) (h:Calls P f args w fun e w'=> ∃v,e=.returned v/\S w'/\wpAnyH P .any l0.toArray (NoPanic Q) S n ls' (a.put o.dst v) w'):wpAnyH P .any l0.toArray (NoPanic Q) S (n+1) ls a w:=by
 subst hl;refine zb81 ?_;unhygienic intros
 subst hj;refine zb24 ?_;refine Calls.mono h ?_;rintro e w3 ⟨v,rfl,hS,hn⟩;exact⟨hS,hn⟩
def PickMk (P:Program) (l0:List Oper) (Q:Exit->Act->World->Prop) (S:World->Prop) (n:Nat) (ls:Array Bool) (a:Act) (w:World) (i:Nat):Prop:=
 ∃o v w1,l0[i]?=some o/\Region.wanted o (yielded l0.toArray a.tmps)=true/\(execOp a.eval o).run P w=.ok (.value v) w1/\S w1/\wpAnyH P .any l0.toArray (NoPanic Q) S n (ls.setIfInBounds i true) (a.put o.dst v) w1
theorem pick_fork {j:Nat}(hr:(Region.ready .any l0.toArray ls== [i,j])=true) (h1:PickMk P l0 Q S n ls a w i) (h2:PickMk P l0 Q S n ls a w j):wpAnyH P .any l0.toArray (NoPanic Q) S (n+1) ls a w:=by
 refine wpAnyH_all (rs:= [i,j]) zg yn (fun k hk=>?_);have hk':PickMk P l0 Q S n ls a w k:=by
  simp only[List.mem_cons,List.not_mem_nil,or_false]at hk;rcases hk with rfl|rfl
  .exact h1
  .exact h2
 obtain⟨o,v,w1,ho,hw,hrun,hS,h⟩:=hk';have ho':l0.toArray[k]?=some o:=zf;refine zb24 ?_;exact⟨hS,h⟩
theorem z15 (ha:a=a') (h:wpAnyH P .any l0.toArray (NoPanic Q) S n ls a' w):wpAnyH P .any l0.toArray (NoPanic Q) S n ls a w:=by
 subst ha;exact h
theorem z34 (hr:(Region.ready .any l0.toArray ls).isEmpty=true) (h:Q .normal a w):wpAnyH P .any l0.toArray (NoPanic Q) S n ls a w:=
 wpAnyH_done (Q:=NoPanic Q) zg (NoPanic.normal h) _
end
theorem held_more {P:Program}{md:Region.Mode}{ops:Array Oper}{Q:Exit->Act->World->Prop}{S S':World->Prop}(h:∀w,S' w->S w):∀(n:Nat) (ls:Array Bool) (a:Act) (w:World),wpAnyH P md ops Q S' n ls a w->wpAnyH P md ops Q S n ls a w
 |0,_,_,_,x=>x
 |n+1,_,_,_,x=>⟨x.1,fun i hi=>wpOp_mono (fun a' w' y=>⟨h w' y.1,held_more h n _ a' w' y.2⟩) (x.2 i hi)⟩
section
variable {P:Program}{l0:List Oper}{Q:Exit->Act->World->Prop}{S:World->Prop}
theorem z43 (S':World->Prop) (hi:∀w,S' w->S w) (h:wpAnyH P .any l0.toArray (NoPanic Q) S' n ls a w):wpAnyH P .any l0.toArray (NoPanic Q) S n ls a w:=held_more hi n ls a w h
def PickCl (P:Program) (l0:List Oper) (Q:Exit->Act->World->Prop) (S:World->Prop) (n:Nat) (ls:Array Bool) (a:Act) (w:World) (i:Nat):Prop:=
 ∃o f args,l0[i]?=some o/\Region.wanted o (yielded l0.toArray a.tmps)=true/\(execOp a.eval o).run P w=.ok (.enter f args) w/\Calls P f args w fun e w'=> ∃v,e=.returned v/\S w'/\wpAnyH P .any l0.toArray (NoPanic Q) S n (ls.setIfInBounds i true) (a.put o.dst v) w'
theorem PickMk.op (h:PickMk P l0 Q S n ls a w i):wpOp P l0.toArray (NoPanic Q) i (fun a' w'=> S w'/\wpAnyH P .any l0.toArray (NoPanic Q) S n (ls.setIfInBounds i true) a' w') a w:=by
 obtain⟨o,v,w1,ho,hw,hrun,hS,h⟩:=h;have ho':l0.toArray[i]?=some o:=zf;refine zb24 ?_;exact⟨hS,h⟩
theorem PickCl.op (h:PickCl P l0 Q S n ls a w i):wpOp P l0.toArray (NoPanic Q) i (fun a' w'=> S w'/\wpAnyH P .any l0.toArray (NoPanic Q) S n (ls.setIfInBounds i true) a' w') a w:=by
 obtain⟨o,f,args,ho,hw,hrun,h⟩:=h;have ho':l0.toArray[i]?=some o:=zf;refine zb24 ?_;refine Calls.mono h ?_;rintro e w3 ⟨v,rfl,hS,hn⟩;exact⟨hS,hn⟩
theorem pick_skip {w1:World}(hd:o.dst=none) (ho:l0[i]?=some o) (hr:(Region.ready .any l0.toArray ls== [i])=true) (hl:ls.setIfInBounds i true=ls') (hw:Region.wanted o (yielded l0.toArray a.tmps)=true)
 (hrun:(execOp a.eval o).run P w=.ok .skip w1) (hS:S w1) (h:wpAnyH P .any l0.toArray (NoPanic Q) S n ls' a w1):wpAnyH P .any l0.toArray (NoPanic Q) S (n+1) ls a w:=by
 subst hl;refine zb81 ?_;unhygienic intros
 subst hj;unfold wpOp;rw[ho'];dsimp only;rw[if_pos hw];refine Or.inl ?_;have hp:a.put o.dst undef=a:=by rw[hd];rfl
 unfold Oper.wp;rw[hrun];refine⟨hS,?_⟩;rw[hp];exact h
theorem z45 {j:Nat}(hr:(Region.ready .any l0.toArray ls== [i,j])=true) (h1:PickMk P l0 Q S n ls a w i) (h2:PickCl P l0 Q S n ls a w j):wpAnyH P .any l0.toArray (NoPanic Q) S (n+1) ls a w:=by
 refine wpAnyH_all (rs:= [i,j]) zg yn (fun k hk=>?_);simp only[List.mem_cons,List.not_mem_nil,or_false]at hk;rcases hk with rfl|rfl
 .exact h1.op
 .exact h2.op
end
end
end Go.Proofs.YtfbojelpdccjaaaGreatDoor
