import Derived.Test.YtbbffkiobmbkfaaGreatDoorPkV4
import Derived.Lib.SmallJoins
import Derived.Deep.RegionHeld3
open Go.Proofs.Tryz
open Go.Value Go.IntKind
set_option maxHeartbeats 2000000
set_option maxRecDepth 100000
namespace Go.Proofs.YtbbffkiobmbkfaaGreatDoor
open Go.RowKit Go.Deep
variable {a a':Act}{xs:List Value}{B Nb c k n sz:Nat}{o:Oper}{v vf vp:Value}{W W' W0 w w' w1:World}{s:Wst}
section
open Go.RowKit Go.Deep
def Movd (W:World) (v v':Value):Prop:=v'.ownBlock=v.ownBlock\/ ∃g,v'.ownBlock=some g/\W.heap.size<=g
theorem Movd.trans {a b c:Value}(hs:W.heap.size<=W'.heap.size) (h:Movd W a b) (h':Movd W' b c):Movd W a c:=by
 rcases h' with h'|⟨g,h',hg⟩
 .rcases h with h|⟨g,h,hg⟩
  .exact Or.inl (h'.trans h)
  .exact Or.inr ⟨g,h'.trans h,hg⟩
 .exact Or.inr ⟨g,h',Lf hs hg⟩
theorem Movd.not {a b:Value}(h:Movd W a b) {q:Nat}(hq:q<W.heap.size) (hn:a.ownBlock≠some q):b.ownBlock≠some q:=by
 intro e;rcases h with h|⟨g,h,hg⟩
 .exact hn (h.symm.trans e)
 .rw[h]at e
  cases e;omega
structure Nfr (Nb:Nat) (vp vf:Value) (W W':World):Prop where
 os:W'.os=W.os
 tape:W'.tape=W.tape
 output:W'.output=W.output
 size:W.heap.size<=W'.heap.size
 block:∀q,q<W.heap.size->q≠Nb->vp.ownBlock≠some q->vf.ownBlock≠some q->W'.heap[q]?=W.heap[q]?
theorem Nfr.of_below (h:Below W.heap.size W W'):Nfr Nb vp vf W W':= ⟨h.os,h.tape,h.output,h.size,fun q hq _ _ _=>h.block q hq⟩
theorem Nfr.trans {vp' vf':Value}{W'':World}(h:Nfr Nb vp vf W W') (hp:Movd W vp vp') (hf:Movd W vf vf') (h':Nfr Nb vp' vf' W' W''):Nfr Nb vp vf W W'':=
 ⟨h'.os.trans h.os,h'.tape.trans h.tape,h'.output.trans h.output,Lf h.size h'.size,fun q hq h1 h2 h3=>(h'.block q (Le hq h.size) h1 (hp.not hq h2) (hf.not hq h3)).trans (h.block q hq h1 h2 h3)⟩
def ndRow (ns:List Nd):List Value:=ns.flatMap fun n=> [int i64 n.kind,int i64 n.num,.string n.a,.string n.b,.string n.c,int i64 n.kids]
theorem ndRow_snoc (ns:List Nd) (n:Nd):ndRow (ns++ [n])=ndRow ns++ [int i64 n.kind,int i64 n.num,.string n.a,.string n.b,.string n.c,int i64 n.kids]:=by
 unfold ndRow;rw[List.flatMap_append];rfl
def strRow (ss:List ByteArray):List Value:=ss.map fun s=> .string s
theorem strRow_snoc (ss:List ByteArray) (s:ByteArray):strRow (ss++ [s])=strRow ss++ [.string s]:=by
 unfold strRow;rw[List.map_append];rfl
theorem z40 {e:TypeId}(h:W.ownsRow B e sz v n xs) {g:Nat}(hg:v.ownBlock=some g):B<=g/\ ∃cur,W.heap[g]?=some (.cells cur e):=by
 obtain⟨-,⟨rfl,h0⟩|⟨g',cap,cur,rfl,hB,hc,-⟩⟩:=h
 .simp[Value.ownBlock]at hg
 .simp[Value.ownBlock]at hg;subst hg;exact⟨hB,cur,hc⟩
theorem z46 {e:TypeId}(h:W.ownsRow B e sz v n xs):∃ad c,v=.slice ad n c:=by
 obtain⟨-,⟨rfl,h0⟩|⟨g',cap,cur,rfl,-⟩⟩:=h
 .exact⟨none,0,qe⟩
 .exact⟨_,_,rfl⟩
theorem own_same {e:TypeId}(h:W.ownsRow B e sz v n xs) (he:∀g,v.ownBlock=some g->W'.heap[g]?=W.heap[g]?):W'.ownsRow B e sz v n xs:=by
 obtain⟨h0,⟨rfl,h1⟩|⟨g,cap,cur,rfl,hB,hc,hr⟩⟩:=h
 .exact⟨h0,Or.inl ⟨rfl,h1⟩⟩
 .exact⟨h0,Or.inr ⟨g,cap,cur,rfl,hB,(he g (by simp[Value.ownBlock])).trans hc,hr⟩⟩
structure Nms (W0:World) (Nb:Nat) (s:Wst) (vp vf:Value) (W:World):Prop where
 blk:W.heap[Nb]?=some (.cells #[vp,vf,int i64 (s.made:Int)] 90)
 prow:W.ownsRow W0.heap.size 68 6 vp s.plain.length (ndRow s.plain)
 frow:W.ownsRow W0.heap.size 9 1 vf s.free.length (strRow s.free)
 os:W.os=W0.os
 tape:W.tape=W0.tape
 output:W.output=W0.output
 size:W0.heap.size<=W.heap.size
 kept:∀q,q<W0.heap.size->q≠Nb->W.heap[q]?=W0.heap[q]?
 nb:Nb<W0.heap.size
theorem Nms.below (h:Nms W0 Nb s vp vf W) (hb:Below W.heap.size W W'):Nms W0 Nb s vp vf W':= by
 have hs:=h.size;exact⟨(hb.block _ (z13 h.blk)).trans h.blk,own_same h.prow (fun g e=>by obtain⟨-,c,hc⟩:=z40 h.prow e;exact hb.block g (z13 hc)),own_same h.frow (fun g e=>by obtain⟨-,c,hc⟩:=z40 h.frow e;exact hb.block g (z13 hc)),hb.os.trans h.os,hb.tape.trans h.tape,hb.output.trans h.output,Lf h.size hb.size,fun q hq hn=>(hb.block q ya).trans (h.kept q hq hn),h.nb⟩
theorem Nms.apart (h:Nms W0 Nb s vp vf W) {q:Nat}{c:Array Value}{t:TypeId}(hq:W.heap[q]?=some (.cells c t)):(t≠68->vp.ownBlock≠some q)/\(t≠9->vf.ownBlock≠some q):=by
 constructor
 .intro ht e;obtain⟨-,cur,hc⟩:=z40 h.prow e;rw[hq]at hc
  cases hc;exact ht rfl
 .intro ht e;obtain⟨-,cur,hc⟩:=z40 h.frow e;rw[hq]at hc
  cases hc;exact ht rfl
def ScoAt (W:World):Option Addr->Sco->Prop
 |p,[]=>p=none
 |p,(x,y)::r=> ∃b q,p=some ⟨b,0,none⟩/\W.heap[b]?=some (.cells #[.string x,.string y,.pointer q] 223)/\ScoAt W q r
theorem ScoAt.kept (h:∀(b:Nat) (c:Array Value),W.heap[b]?=some (Obj.cells c 223)->W'.heap[b]?=W.heap[b]?):∀(sc:Sco) (p:Option Addr),ScoAt W p sc->ScoAt W' p sc
 |[],_,e=>e
 |(_,_)::r,_,⟨b,q,e,hb,hr⟩=>⟨b,q,e,(h b _ hb).trans hb,ScoAt.kept h r q hr⟩
theorem ScoAt.below {sc:Sco}{p:Option Addr}(h:ScoAt W p sc) (hb:Below W.heap.size W W'):ScoAt W' p sc:=ScoAt.kept (fun b _ e=>hb.block b (z13 e)) sc p h
theorem ScoAt.frame {sc:Sco}{p:Option Addr}(h:ScoAt W p sc) (n:Nms W0 Nb s vp vf W) (hf:Nfr Nb vp vf W W'):ScoAt W' p sc:=
 ScoAt.kept (fun b _ e=>hf.block b (z13 e) (fun e2=>by subst e2;rw[n.blk]at e;cases e) ((n.apart e).1 yk) ((n.apart e).2 yk)) sc p h
structure Wsm (s:Wst):Prop where
 plain:s.plain.length<=90000
 free:s.free.length<=90000
 made:s.made<=90000
structure Laid (w:World):Prop where
 pows:Lib.TabIs prog w "internal/strconv.uint64pow10" .u64 Lib.pow10Tab
theorem gPows:prog.globalNamed "internal/strconv.uint64pow10" =some 1:=ye
theorem with_calls (p:Option Addr) (x y:ByteArray) (w:World) :
 Calls prog 97 #[.pointer p,.string x,.string y] w fun e w'=> e=.returned (.pointer (some ⟨w.heap.size,0,none⟩))/\w'= w.alloc (.cells #[.string x,.string y,.pointer p] 223):=by
 go_enter func97,ntmps97
 go_wp2_with fail
 go_ret;exact⟨rfl,rfl⟩
theorem slice_lit (w:World) (o1:Obj) (ss:List ByteArray):SliceOf w.heap.size ((w.alloc o1).alloc (.cells (strRow ss).toArray 9)) (.slice (some ⟨w.heap.size+1,0,none⟩) (strRow ss).length (strRow ss).length) (strRow ss):=row_new w o1 (strRow ss) 9
theorem known_none (w:World) (o1:Obj):SliceOf w.heap.size (w.alloc o1) (.slice none 0 0) (strRow []):=Or.inl ⟨rfl,none,0,rfl⟩
theorem one_new' (w:World) (o1:Obj):Below w.heap.size w (w.alloc o1):=Lb.alloc La _
theorem known_calls (n:Nd) (i:Nat) (w:World) :
 Calls prog 96 #[ndV n,int i64 (i:Int)] w fun e w'=> ∃sv,e=.returned sv/\SliceOf w.heap.size w' sv (strRow (knownZ n i))/\Below w.heap.size w w':= by
 obtain⟨kd,num,a,b,c,kids⟩:=n;have h1:∀i:Nat,((i:Int)=1)↔(i=1):=fun i=>ya
 have h2:∀i:Nat,((i:Int)=2)↔(i=2):=fun i=>ya
 unfold ndV;dsimp only;go_enter func96,ntmps96
 by_cases k6:kd=6
 .have hz:knownZ ⟨kd,num,a,b,c,kids⟩ i= [a]:=by unfold knownZ;rw[if_pos (Or.inl k6)]
  rw[hz];subst k6;go_wp2_with fail
  go_ret;exact⟨_,rfl,slice_lit w _ [a],z33 w _ _⟩
 by_cases k25:kd=25
 .have hz:knownZ ⟨kd,num,a,b,c,kids⟩ i= [a]:=by unfold knownZ;rw[if_pos (Or.inr k25)]
  rw[hz];subst k25;go_wp2_with fail
  go_ret;exact⟨_,rfl,slice_lit w _ [a],z33 w _ _⟩
 by_cases k8:kd=8
 .subst k8;by_cases i1:(i:Int)=1
  .have hz:knownZ ⟨8,num,a,b,c,kids⟩ i= [a]:=by unfold knownZ;rw[if_neg qf,if_pos (Or.inl ⟨rfl,(h1 i).1 i1⟩)]
   rw[hz];go_wp2_with fail
   go_ret;exact⟨_,rfl,slice_lit w _ [a],z33 w _ _⟩
  ·have hz:knownZ ⟨8,num,a,b,c,kids⟩ i= []:=by
    unfold knownZ;rw[if_neg qf,if_neg qg,if_neg qh,if_neg qf]
   rw[hz];go_wp2_with fail
   go_ret;exact⟨_,rfl,known_none w _,one_new' w _⟩
 by_cases k9:kd=9
 .subst k9;by_cases i1:(i:Int)=1
  .have hz:knownZ ⟨9,num,a,b,c,kids⟩ i= [a]:=by unfold knownZ;rw[if_neg qf,if_pos (Or.inr ⟨rfl,(h1 i).1 i1⟩)]
   rw[hz];go_wp2_with fail
   go_ret;exact⟨_,rfl,slice_lit w _ [a],z33 w _ _⟩
  ·have hz:knownZ ⟨9,num,a,b,c,kids⟩ i= [a,b]:=by
    unfold knownZ;rw[if_neg qf,if_neg (by rintro (⟨h,-⟩|⟨-,h⟩);cases h;exact i1 ((h1 i).2 h)),if_pos (Or.inl rfl)]
   rw[hz];go_wp2_with fail
   go_ret;exact⟨_,rfl,slice_lit w _ [a,b],z33 w _ _⟩
 by_cases k20:kd=20
 .subst k20;by_cases i2:(i:Int)=2
  ·have hz:knownZ ⟨20,num,a,b,c,kids⟩ i= [a,b]:=by
    unfold knownZ;rw[if_neg qf,if_neg qi,if_pos (Or.inr ⟨rfl,(h2 i).1 i2⟩)]
   rw[hz];go_wp2_with fail
   go_ret;exact⟨_,rfl,slice_lit w _ [a,b],z33 w _ _⟩
  ·have hz:knownZ ⟨20,num,a,b,c,kids⟩ i= []:=by
    unfold knownZ;rw[if_neg qf,if_neg qi,if_neg qj,if_neg qf]
   rw[hz];go_wp2_with fail
   go_ret;exact⟨_,rfl,known_none w _,one_new' w _⟩
 by_cases k26:kd=26
 ·subst k26;have hz:knownZ ⟨26,num,a,b,c,kids⟩ i= [b,c]:=by
   unfold knownZ;rw[if_neg qf,if_neg qi,if_neg qh,if_pos rfl]
  rw[hz];go_wp2_with fail
  go_ret;exact⟨_,rfl,slice_lit w _ [b,c],z33 w _ _⟩
 ·have hz:knownZ ⟨kd,num,a,b,c,kids⟩ i= []:=by
   unfold knownZ;rw[if_neg qk,if_neg ql,if_neg qm,if_neg k26]
  refine zb32 ?_;intro b6 b25 b8 b9 b20 b26;clear hz h1 h2;go_wp2_with fail
  go_ret;exact⟨_,rfl,known_none w _,one_new' w _⟩
def scoLen:Nat->World->Value->Nat
 |0,_,_=>0
 | f+1,W,.pointer (some a)=>(match W.cell? ⟨a.block,2,none⟩ with
   |some v=>1+scoLen f W v
   |none=>0)
 |_+1,_,_=>0
theorem scoLen_eq {W:World}:∀(sc:Sco) (f:Nat) (p:Option Addr),ScoAt W p sc->sc.length<=f->scoLen f W (.pointer p)=sc.length
 | [],f,p,h,_=>by
   rw[show p=none from h]
   cases f<;>rfl
 |(x,y)::r,0,p,_,hf=>by simp at hf
 | (x,y)::r,f+1,p,⟨b,q,e,hb,hr⟩,hf=>by
   subst e;unfold scoLen;rw[z11 hb 2];have:=scoLen_eq r f q hr (by simpa using hf);simp only[Ll];show 1+scoLen f W (.pointer q)=_;omega
theorem str_eq (x s:ByteArray):(x.toList==s.toList)=decide (x=s):=by
 rw[ByteArray.toList_eq,ByteArray.toList_eq];by_cases h:x=s
 .subst h;simp
 .rw[decide_eq_false h];rw[beq_eq_false_iff_ne];intro e;exact h (by cases x;cases s;simp_all)
theorem find_calls (p:Option Addr) (sc:Sco) (s:ByteArray) (w:World) (h:ScoAt w p sc) :
 Calls prog 132 #[.pointer p,.string s] w fun e w'=> e=.returned (.tuple #[.string ((findS sc s).getD ⟨#[]⟩),.bool (findS sc s).isSome])/\w=w':= by
 obtain⟨R,hR⟩:∃R,findS sc s=R:=⟨_,rfl⟩
 have HR:=U hR;have HS:=U h;rw[hR];clear hR h;go_enter func132,ntmps132
 go_wp2_with fail
 go_loop [0] (fun v=> ∃(q:Option Addr) (r:Sco),v=.pointer q/\O (ScoAt w q r/\findS r s=R/\r.length<=sc.length)) (fun v=>scoLen sc.length w v)
 case atStart=>exact⟨p,sc,rfl,HS.o,HR.o,La⟩
 case round=>
  obtain⟨q,r,rfl,HQ⟩:=hrel
  cases r with
  | nil=>
    have e:q=none:=HQ.o.1;subst e;have hR0:R=none:=HQ.o.2.1.symm;subst hR0;go_wp2_with fail
    go_ret2
    exact⟨rfl,rfl⟩
  | cons xy r=>
    obtain⟨x,y⟩:=xy;obtain⟨⟨b,q',e,hb,hr⟩,hf,hl⟩:=HQ.o;subst e;obtain⟨c0,c1,c2⟩:=fcl3 hb;have HB:=U hb;have Hr:=U hr;have hxs:=str_eq x s;by_cases he:x=s
    .subst he;unfold findS at hf;rw[if_pos rfl]at hf;subst hf;clear hb hr hl HQ;go_wp2_with fail
     go_ret2
     exact⟨rfl,rfl⟩
    .rw[decide_eq_false he]at hxs;unfold findS at hf;rw[if_neg he]at hf;have HF:=U hf;have HL:=U hl;clear hb hr hl hf;go_wp2_with fail
     refine⟨⟨q',r,rfl,Hr.o,HF.o,qn⟩,?_⟩;rw[scoLen_eq r _ q' Hr.o qn,scoLen_eq ((x,y)::r) _ _ HQ.o.1 HL.o];simp
end
section
open Go.RowKit
structure Later (B:Nat) (W:World) where
 w:World
 h:Below B W w
instance (B:Nat) (W:World):Nonempty (Later B W):=⟨⟨W,Lb⟩⟩
theorem Later.cell (x:Later B W) {p:Addr}(hp:p.block<B) (h:W.cell? p=some v):x.w.cell? p=some v:=(x.h.cell hp).trans h
theorem z28 {P:Program}{id:Nat}{Q:Exit->Act->World->Prop}{l:List Oper}(B:Nat) (hm:P.follows .mixedOrders=true) (hB:Region.lexB .any l.toArray=true)
 (h:wpQuiet P l.toArray (fun w'=> ∃x:Later B w,w'= x.w) (fun a'=> ∀w',(∃x:Later B w,w'= x.w)->Q .normal a' w') l a):(Code.region id l.toArray true).wp P Q a w:=
 wp_region_quiet (C:=fun w'=> ∃x:Later B w,w'= x.w) hm hB ⟨⟨w.drew,(Below.refl B w).drew⟩,rfl⟩ zx
def upTo (n k:Nat):Array Bool:=((List.range n).map (fun i=>decide (i<k))).toArray
theorem upTo_zero (n:Nat):upTo n 0=Array.replicate n false:=by
 apply Array.ext
 .simp[upTo]
 .intro i h1 h2;simp[upTo]
theorem upTo_next:(upTo n k).setIfInBounds k true=upTo n (k+1):=by
 apply Array.ext
 .simp[upTo]
 .intro i h1 h2;by_cases hik:k=i
  .subst hik;simp[upTo]
  .simp[upTo,hik];omega
def plainOp (o:Oper):Bool:=
 match o.op with
 |.move _|.assign _|.pick _ _ _|.load _ _|.nilCheck _|.binOp _ _ _ _ _|.unOp _ _ _|.fieldAddr _ _ _|.field _ _ _|.indexAddr _ _ _|.index _ _ _|.convert _ _ _|.slice _ _ _ _ _=>true
 |_=>false
theorem then_value {α:Type}{s:Result α}{f:α->Value}{n:Next}(h:s.andThen (fun a w=>Result.ok (Next.value (f a)) w)=.ok n w'):∃v,n=.value v:=by
 cases s with
 |ok a w=>cases h;exact⟨_,rfl⟩
 |halt x w=>cases h
theorem then_ok {α β:Type}{s:Result α}{f:α->World->Result β}{n:β}(h:s.andThen f=.ok n w'):∃a w,f a w=.ok n w':= by
 cases s with
 |ok a w=>exact⟨a,w,h⟩
 |halt x w=>cases h
theorem plain_value {P:Program}{n:Next}(hp:plainOp o=true) (h:(execOp a.eval o).run P w=.ok n w'):∃v,n=.value v:=by
 obtain⟨dst,op,type,pos,after,guard⟩:=o
 cases op<;>simp only[plainOp]at hp<;>try(cases hp;done)
 all_goals
  unfold execOp at h;simp only[Sem.run_bind,Sem.run_pure]at h
 all_goals first
  |exact then_value h
  |(cases h;exact⟨_,rfl⟩)
  | (split at h
     all_goals first
      |(cases h;exact⟨_,rfl⟩)
      |(cases h;done)
      | (split at h
         all_goals first
          |(cases h;exact⟨_,rfl⟩)
          |(cases h;done)
          | (simp only[Sem.run_bind]at h
             obtain⟨_,_,h⟩:=then_ok h;obtain⟨_,_,h⟩:=then_ok h;split at h
             .simp only[Sem.run_bind]at h
              cases h
             .cases h;exact⟨_,rfl⟩)))
section
variable {P:Program}{Q:Exit->Act->World->Prop}{S:World->Prop}{l0:List Oper}
theorem stage_make (ho:l0[k]?=some o) (hr:(Region.ready .any l0.toArray (upTo l0.length k)== [k])=true) (hw:Region.wanted o (yielded l0.toArray a.tmps)=true)
 (hrun:(execOp a.eval o).run P w=.ok (.value v) w1) (hS:S w1) (hput:a.put o.dst v=a') (h:wpAnyH P .any l0.toArray (NoPanic Q) S (l0.length-(k+1)) (upTo l0.length (k+1)) a' w1) :
 wpAnyH P .any l0.toArray (NoPanic Q) S (l0.length-k) (upTo l0.length k) a w:=by
 refine zb50 ?_;unhygienic intros
 subst hi;unfold wpOp;rw[ho',upTo_next];dsimp only;rw[if_pos hw];refine Or.inl ?_;unfold Oper.wp;rw[hrun];subst hput;exact⟨hS,h⟩
theorem stage_end (hr:(Region.ready .any l0.toArray (upTo l0.length l0.length)).isEmpty=true) (h:Q .normal a w):wpAnyH P .any l0.toArray (NoPanic Q) S (l0.length-l0.length) (upTo l0.length l0.length) a w:=
 wpAnyH_done (Q:=NoPanic Q) yy (NoPanic.normal h) _
end
end
section
open Go.RowKit Go.Deep
theorem Laid.same (h:Laid W) (e:W'.heap[1]?=W.heap[1]?):Laid W':= by
 obtain⟨h⟩:=h;refine⟨?_⟩;unfold Lib.TabIs at h |-;rw[<-h];unfold World.var?;rw[gPows];simp[e]
theorem Laid.lt (h:Laid w):1<w.heap.size:=by
 obtain⟨h⟩:=h;unfold Lib.TabIs World.var? at h;rw[gPows]at h;by_cases hlt:1<w.heap.size
 .exact hlt
 .simp[Array.getElem?_eq_none (Nat.le_of_not_lt hlt)]at h
theorem Laid.stays (h:Laid w) (hb:Below w.heap.size w w'):Laid w':= ⟨Joins.var_stays gPows h.pows hb La⟩
theorem grow_below (w:World) (k:Nat) (os:Array Obj):Below w.heap.size w (Go.Sort.grow (w.drewN k) os):=
 ⟨rfl,rfl,rfl,by rw[Go.Sort.size_grow];exact Nat.le_add_right _ _,fun j hj=>by rw[Go.Sort.heap_grow_old (w.drewN k) os hj];rfl⟩
theorem itoa_calls (n:Int) (h0:0<=n) (h1:n<=1000000) (w:World) (hL:Laid w) :
 Calls prog 162 #[int i64 n] w fun e w'=> e=.returned (.string ⟨(Lib.itoa n).toArray⟩)/\Below w.heap.size w w':= by
 refine(Tryz.strconv_Itoa n ya ya w hL.pows).mono ?_;rintro e w' ⟨rfl,k,os,rfl⟩;exact⟨rfl,grow_below w k os⟩
theorem clone_calls (s:ByteArray) (w:World) (h:s.size<=281474976710656):Calls prog 133 #[.string s] w fun e w'=> e=.returned (.string s)/\Below w.heap.size w w':= by
 have HC:=U (Tryz.stringslite_Clone s w h);clear h;go_enter func133,ntmps133
 go_wp2_with fail
 refine HC.o.mono ?_;rintro e w1 ⟨rfl,hb⟩;go_wp2_with fail
 go_ret;exact⟨rfl,hb⟩
theorem nms_made (h:Nms W0 Nb s vp vf W) (m:Nat):Nms W0 Nb { s with made:=m } vp vf (W.setCell ⟨Nb,2,none⟩ (int i64 (m:Int)))/\Nfr Nb vp vf W (W.setCell ⟨Nb,2,none⟩ (int i64 (m:Int))):=by
 have e:∀q,q≠Nb->(W.setCell ⟨Nb,2,none⟩ (int i64 (m:Int))).heap[q]?=W.heap[q]? :=fun q hq=>Lg W ⟨Nb,2,none⟩ _ q hq
 have hs:(W.setCell ⟨Nb,2,none⟩ (int i64 (m:Int))).heap.size=W.heap.size:=qo;have ap:=h.apart h.blk;refine⟨⟨?_,own_same h.prow (fun g eg=>e g (fun e2=>by subst e2;exact ap.1 yk eg)),own_same h.frow (fun g eg=>e g (fun e2=>by subst e2;exact ap.2 yk eg)),h.os,h.tape,h.output,qq,fun q hq hn=>(e q hn).trans (h.kept q hq hn),h.nb⟩,⟨rfl,rfl,rfl,qr,fun q _ hn _ _=>e q hn⟩⟩;have hb:=h.blk;simp[World.setCell,Array.getElem?_modify,hb]
theorem bytes_append (a b:List UInt8):(⟨a.toArray⟩:ByteArray)++⟨b.toArray⟩=⟨(a++b).toArray⟩:=by
 apply ByteArray.ext;simp
theorem v_append (l:List UInt8):(⟨#[118]⟩:ByteArray)++⟨l.toArray⟩=⟨(118::l).toArray⟩:=bytes_append [118] l
theorem fresh_calls (W:World) (n:Nms W0 Nb s vp vf W) (hL:Laid W) (h0:Nb≠1/\1<W0.heap.size) (hm:s.made<=100000) :
 Calls prog 134 #[.pointer (some ⟨Nb,0,none⟩)] W fun e W'=> e=.returned (.string (freshZ s.made))/\Nms W0 Nb { s with made:=s.made+1 } vp vf W'/\Nfr Nb vp vf W W'/\Laid W':= by
 obtain⟨sp,sf,m⟩:=s;dsimp only at*;have c2:=z11 n.blk 2;have z2:=z15 n.blk 2;simp at c2;have hw1:wrap64 ((m:Int)+1)=(m:Int)+1:=qs;have hw2:wrap64 ((m:Int)+1-1)=(m:Int):=qs;obtain⟨n1,f1⟩:=nms_made n (m+1);have hcast:((m+1:Nat):Int)=(m:Int)+1:=ya;dsimp only at n1 f1;rw[hcast]at n1 f1;have hL1:=hL.same (f1.block 1 (by have:=n.size;have:=h0.2;omega) (fun e=>h0.1 e.symm) (fun e=>by have:=(z40 n.prow e).1;have:=h0.2;omega) (fun e=>by have:=(z40 n.frow e).1;have:=h0.2;omega));have HN:=U n1;have HF:=U f1;have HI:=U (itoa_calls (m:Int) ya ya _ hL1);have HL:=U hL1
 have d2:=z11 n1.blk 2;simp at d2;clear n n1 f1 hL hL1 hcast;go_enter func134,ntmps134
 go_wp2_with fail
 refine HI.o.mono ?_;rintro e W2 ⟨rfl,hb2⟩;have HN2:=U (HN.o.below hb2);have HF2:=U (HF.o.trans (Or.inl rfl) (Or.inl rfl) (Nfr.of_below hb2));have HL2:=U (HL.o.stays hb2);have hva:=U (v_append (Lib.itoa (m:Int)));have hds:(⟨(Lib.itoa (m:Int)).toArray⟩:ByteArray).size<=21:=by
  have:=Lib.itoa_length_le (m:Int) ya ya;simp[ByteArray.size];omega
 generalize (⟨(Lib.itoa (m:Int)).toArray⟩:ByteArray)=D at*;clear HI HN HF HL c2 d2 hb2;go_wp2_with fail
 go_ret;refine⟨?_,HN2.o,HF2.o,HL2.o⟩;have e:=hva.o;unfold freshZ;rw[<-e];rfl
theorem box6_set {b:Nat}{t:TypeId}{x0 x1 x2 x3 x4 x5:Value}(h:w.heap[b]?=some (.cells #[x0,x1,x2,x3,x4,x5] t)) (v:Value) :
 (w.setCell ⟨b,2,none⟩ v).heap[b]?=some (.cells #[x0,x1,v,x3,x4,x5] t)/\(w.setCell ⟨b,3,none⟩ v).heap[b]?=some (.cells #[x0,x1,x2,v,x4,x5] t)/\(w.setCell ⟨b,4,none⟩ v).heap[b]?=some (.cells #[x0,x1,x2,x3,v,x5] t):=by
 refine⟨?_,?_,?_⟩<;>simp[World.setCell,Array.getElem?_modify,h]
theorem nms_box (h:Nms W0 Nb s vp vf W) {b:Nat}(hb:W0.heap.size<=b) (h1:vp.ownBlock≠some b) (h2:vf.ownBlock≠some b) (i:Nat) (v:Value):Nms W0 Nb s vp vf (W.setCell ⟨b,i,none⟩ v):=by
 have hnb:=h.nb;have e:∀q,q≠b->(W.setCell ⟨b,i,none⟩ v).heap[q]?=W.heap[q]? :=fun q hq=>Lg W ⟨b,i,none⟩ _ q hq
 have hs:(W.setCell ⟨b,i,none⟩ v).heap.size=W.heap.size:=qo;exact⟨(e Nb ya).trans h.blk,own_same h.prow (fun g eg=>e g (fun e2=>h1 (e2 ▸ eg))),own_same h.frow (fun g eg=>e g (fun e2=>h2 (e2 ▸ eg))),h.os,h.tape,h.output,qq,fun q hq hn=>(e q ya).trans (h.kept q hq hn),h.nb⟩
theorem nms_free {X Y:World}(h:Nms W0 Nb s vp vf X) {vf':Value}{a:ByteArray}(hown:Y.ownsRow W0.heap.size 9 1 vf' (s.free.length+1) (strRow s.free++ [.string a])) (hg:X.grownBy Y vf.ownBlock) (hat:vf'.ownBlock=vf.ownBlock\/vf'.ownBlock=some X.heap.size) :
 Nms W0 Nb ⟨s.plain,s.free++ [a],s.made⟩ vp vf' (Y.setCell ⟨Nb,1,none⟩ vf')/\Nfr Nb vp vf X (Y.setCell ⟨Nb,1,none⟩ vf')/\Movd X vf vf':= by
 have hnb:=h.nb;have hsz:=h.size;have gs:=hg.size;have apN:=h.apart h.blk;have kb:∀q,q<X.heap.size->vf.ownBlock≠some q->Y.heap[q]?=X.heap[q]? :=fun q hq hn=>hg.block q hq (fun e=>hn e.symm)
 have hbY:Y.heap[Nb]?=some (.cells #[vp,vf,int i64 (s.made:Int)] 90):=(kb Nb (z13 h.blk) (apN.2 yk)).trans h.blk;have e:∀q,q≠Nb->(Y.setCell ⟨Nb,1,none⟩ vf').heap[q]?=Y.heap[q]? :=fun q hq=>Lg Y ⟨Nb,1,none⟩ _ q hq
 have hs:(Y.setCell ⟨Nb,1,none⟩ vf').heap.size=Y.heap.size:=qo;have hmv:Movd X vf vf':= by
  rcases hat with h|h
  .exact Or.inl h
  .exact Or.inr ⟨_,h,La⟩
 have hpf:∀g,vp.ownBlock=some g->vf.ownBlock≠some g:=fun g eg=>by
  obtain⟨-,cur,hc⟩:=z40 h.prow eg;exact(h.apart hc).2 yk
 refine⟨⟨?_,?_,?_,hg.os.trans h.os,hg.tape.trans h.tape,hg.output.trans h.output,by rw[hs];omega,fun q hq hn=>?_,hnb⟩,⟨hg.os,hg.tape,hg.output,by rw[hs];exact gs,fun q hq h1 h2 h3=>(e q h1).trans (kb q hq h3)⟩,hmv⟩
 .simp[World.setCell,Array.getElem?_modify,hbY]
 .refine own_same h.prow (fun g eg=>?_);obtain⟨hB,cur,hc⟩:=z40 h.prow eg;exact(e g ya).trans (kb g (z13 hc) (hpf g eg))
 ·have hown2:Y.ownsRow W0.heap.size 9 1 vf' (s.free++ [a]).length (strRow (s.free++ [a])):=by
   rw[strRow_snoc,Lk];exact hown
  exact own_same hown2 (fun g eg=>e g (by have:=(z40 hown2 eg).1;omega))
 .refine(e q hn).trans ((kb q ya (fun eq=>?_)).trans (h.kept q hq hn));have:=(z40 h.frow eq).1;omega
theorem nms_plain {X Y:World}(h:Nms W0 Nb s vp vf X) {vp':Value}{m:Nd}(hown:Y.ownsRow W0.heap.size 68 6 vp' (s.plain.length+1) (ndRow s.plain++ [int i64 m.kind,int i64 m.num,.string m.a,.string m.b,.string m.c,int i64 m.kids])) (hg:X.grownBy Y vp.ownBlock) (hat:vp'.ownBlock=vp.ownBlock\/vp'.ownBlock=some X.heap.size) :
 Nms W0 Nb ⟨s.plain++ [m],s.free,s.made⟩ vp' vf (Y.setCell ⟨Nb,0,none⟩ vp')/\Nfr Nb vp vf X (Y.setCell ⟨Nb,0,none⟩ vp')/\Movd X vp vp':= by
 have hnb:=h.nb;have hsz:=h.size;have gs:=hg.size;have apN:=h.apart h.blk;have kb:∀q,q<X.heap.size->vp.ownBlock≠some q->Y.heap[q]?=X.heap[q]? :=fun q hq hn=>hg.block q hq (fun e=>hn e.symm)
 have hbY:Y.heap[Nb]?=some (.cells #[vp,vf,int i64 (s.made:Int)] 90):=(kb Nb (z13 h.blk) (apN.1 yk)).trans h.blk;have e:∀q,q≠Nb->(Y.setCell ⟨Nb,0,none⟩ vp').heap[q]?=Y.heap[q]? :=fun q hq=>Lg Y ⟨Nb,0,none⟩ _ q hq
 have hs:(Y.setCell ⟨Nb,0,none⟩ vp').heap.size=Y.heap.size:=qo;have hmv:Movd X vp vp':= by
  rcases hat with h|h
  .exact Or.inl h
  .exact Or.inr ⟨_,h,La⟩
 have hpf:∀g,vf.ownBlock=some g->vp.ownBlock≠some g:=fun g eg=>by
  obtain⟨-,cur,hc⟩:=z40 h.frow eg;exact(h.apart hc).1 yk
 refine⟨⟨?_,?_,?_,hg.os.trans h.os,hg.tape.trans h.tape,hg.output.trans h.output,by rw[hs];omega,fun q hq hn=>?_,hnb⟩,⟨hg.os,hg.tape,hg.output,by rw[hs];exact gs,fun q hq h1 h2 h3=>(e q h1).trans (kb q hq h2)⟩,hmv⟩
 .simp[World.setCell,Array.getElem?_modify,hbY]
 ·have hown2:Y.ownsRow W0.heap.size 68 6 vp' (s.plain++ [m]).length (ndRow (s.plain++ [m])):=by
   rw[ndRow_snoc,Lk];exact hown
  exact own_same hown2 (fun g eg=>e g (by have:=(z40 hown2 eg).1;omega))
 .refine own_same h.frow (fun g eg=>?_);obtain⟨hB,cur,hc⟩:=z40 h.frow eg;exact(e g ya).trans (kb g (z13 hc) (hpf g eg))
 .refine(e q hn).trans ((kb q ya (fun eq=>?_)).trans (h.kept q hq hn));have:=(z40 h.prow eq).1;omega
end
section
open Go.RowKit
section
variable {P:Program}{ops:Array Oper}{Q:Exit->Act->World->Prop}{S:World->Prop}
def waitsB (ops:Array Oper):Nat->Nat->Nat->Bool
 |0,_,_=>false
 | f+1,c,i=>match ops[c]? with
   |none=>false
   |some o=>o.after.any (fun e=>Region.binds .any e && (e.on==i || waitsB ops f e.on i))
def ShutL (ops:Array Oper) (listed:Array Bool):Prop:= ∀(j:Nat) (o:Oper),ops[j]?=some o->listed.getD j false=true-> ∀e∈o.after,Region.binds .any e=true->listed.getD e.on false=true
theorem ShutL.waits {listed:Array Bool}(h:ShutL ops listed):∀(f c i:Nat),waitsB ops f c i=true->listed.getD c false=true->listed.getD i false=true
 |0,_,_,hw,_=>by cases hw
 | f+1,c,i,hw,hc=>by
   unfold waitsB at hw
   cases ho:ops[c]? with
   |none=>rw[ho]at hw;cases hw
   | some o=>
     rw[ho]at hw;dsimp only at hw;rw[Array.any_eq_true']at hw;obtain⟨e,he,hb⟩:=hw;rw[Lq,Bool.or_eq_true]at hb;have h1:=h c o ho hc e he hb.1;rcases hb.2 with h2|h2
     .rw[beq_iff_eq]at h2;rw[<-h2];exact h1
     .exact ShutL.waits h f e.on i h2 h1
theorem ShutL.next {listed:Array Bool}(h:ShutL ops listed) {i:Nat}(hr:i∈Region.ready .any ops listed):ShutL ops (listed.setIfInBounds i true):=by
 intro j o ho hj e he hb;obtain⟨_,oi,hoi,hall⟩:=mem_ready.1 hr;by_cases hij:i=j
 .subst hij;rw[hoi]at ho
  cases ho;exact getD_set_true (hall e he hb)
 .rw[getD_set_ne false hij]at hj;exact getD_set_true (h j o ho hj e he hb)
def wpTill (P:Program) (ops:Array Oper) (Q:Exit->Act->World->Prop) (S:World->Prop) (c:Nat) (K:Nat->Array Bool->Act->World->Prop):Nat->Array Bool->Act->World->Prop
 |0,_,_,_=>False
 |fuel+1,listed,a,w=>Region.ready .any ops listed≠ []/\ ∀i∈Region.ready .any ops listed,if i=c then wpOp P ops Q i (fun a' w'=> K fuel (listed.setIfInBounds i true) a' w') a w else wpOp P ops Q i (fun a' w'=> S w'/\wpTill P ops Q S c K fuel (listed.setIfInBounds i true) a' w') a w
theorem any_of_till {c:Nat}:∀(fuel:Nat) (listed:Array Bool) (a:Act) (w:World),wpTill P ops Q S c (wpAny P .any ops Q) fuel listed a w->wpAny P .any ops Q fuel listed a w
 |0,_,_,_,h=>h.elim
 |fuel+1,listed,a,w,h=>⟨fun h0=>absurd h0 h.1,fun i hi=>by
  have h1:=h.2 i hi;split at h1
  .exact h1
  .exact wpOp_mono (fun a' w' h'=> any_of_till fuel _ a' w' h'.2) h1⟩
theorem till_first {c i:Nat}{oi:Oper}{v:Value}{K:Nat->Array Bool->Act->World->Prop}{f:Nat}(hi:ops[i]?=some oi) (hsel:Region.noSelect ops=true)
 (hQ:∀d a w,Q (.panic d) (a.put oi.dst v) w->Q (.panic d) a w) (hc:waitsB ops f c i=true) (hic:i≠c) :
 ∀(fuel:Nat) (listed:Array Bool) (a:Act) (w:World),ShutL ops listed->
  (∀j oj,ops[j]?=some oj->j≠i->listed.getD j true=false->(∀e∈oj.after,Region.binds .any e=true->e.on≠i)->oi.apart ops oj=true)->
  i∈Region.ready .any ops listed->YieldsIf P ops S oi v a->S w->
  wpTill P ops Q S c K fuel (listed.setIfInBounds i true) (a.put oi.dst v) w->wpTill P ops Q S c K (fuel+1) listed a w
 |0,_,_,_,_,_,_,_,_,H=>H.elim
 | fuel+1,listed,a,w,hsh,hfree,hr,hy,hS,H=>by
   refine⟨fun h=>qu,fun j hj=>?_⟩;by_cases hji:j=i
   .subst hji;rw[if_neg hic];exact hy.wpOp hi hS ⟨hS,H⟩
   obtain⟨hjun,oj,hoj,hall⟩:=mem_ready.1 hj;have hir:=(mem_ready.1 hr).1;have hlast:listed.getD i false=true->False:=fun h=>by
    rcases Nat.lt_or_ge i listed.size with h'|h'
    .simp[h']at hir h;rw[hir]at h
     cases h
    .simp[Array.getElem?_eq_none h']at h
   have hjc:j≠c:=fun e=>by
    subst e;refine hlast ?_;-- j is ready: all it waits for has come up
    cases f with
    |zero=>cases hc
    | succ f=>
      unfold waitsB at hc;rw[hoj]at hc;dsimp only at hc;rw[Array.any_eq_true']at hc;obtain⟨e,he,hb⟩:=hc;rw[Lq,Bool.or_eq_true]at hb;have h1:=hall e he hb.1;rcases hb.2 with h2|h2
      .rw[beq_iff_eq]at h2;rw[<-h2];exact h1
      .exact hsh.waits f e.on i h2 h1
   have h1:=H.2 j (ready_mono hj hji);rw[if_neg hjc]at h1 |-;have hnot:∀e∈oj.after,Region.binds .any e=true->e.on≠i:=fun e he hb heq=>by
    have:=hall e he hb;rw[heq]at this;exact hlast this
   have hsp:=Region.noSelect_spec hsel;have h2:=wpOp_putIf hoj (hfree j oj hoj hji hjun hnot) (fun cs b=>hsp i oi cs b hi) (fun cs b=>hsp j oj cs b hoj) hQ hy h1;refine wpOp_mono (fun a' w' h3=>⟨h3.2.1,till_first hi hsel hQ hc hic fuel (listed.setIfInBounds j true) a' w' (hsh.next hj) (fun k ok hk hki hun hno=>hfree k ok hk hki ?_ hno) (ready_mono hr (Ne.symm hji)) h3.1 h3.2.1 ?_⟩) h2
   .by_cases hjk:j=k
    .subst hjk;exact hjun
    .rw[getD_set_ne true hjk]at hun;exact hun
   .rw[Array.setIfInBounds_comm _ _ hji];exact h3.2.2
theorem till_first_any {c i:Nat}{oi:Oper}{v:Value}(hi:ops[i]?=some oi) (hsel:Region.noSelect ops=true)
 (hQ:∀d a w,Q (.panic d) (a.put oi.dst v) w->Q (.panic d) a w) (hic:i≠c) :
 ∀(fuel:Nat) (listed:Array Bool) (a:Act) (w:World),
  (∀j oj,ops[j]?=some oj->j≠i->listed.getD j true=false->(∀e∈oj.after,Region.binds .any e=true->e.on≠i)->oi.apart ops oj=true)->
  i∈Region.ready .any ops listed->Yields P ops oi v a->S w->
  wpTill P ops Q S c (wpAny P .any ops Q) fuel (listed.setIfInBounds i true) (a.put oi.dst v) w->wpTill P ops Q S c (wpAny P .any ops Q) (fuel+1) listed a w
 |0,_,_,_,_,_,_,_,H=>H.elim
 | fuel+1,listed,a,w,hfree,hr,hy,hS,H=>by
   refine⟨fun h=>qu,fun j hj=>?_⟩;by_cases hji:j=i
   .subst hji;rw[if_neg hic];exact(Yields.yieldsIf hy).wpOp hi hS ⟨hS,H⟩
   obtain⟨hjun,oj,hoj,hall⟩:=mem_ready.1 hj;have hir:=(mem_ready.1 hr).1;have hlast:listed.getD i false=true->False:=fun h=>by
    rcases Nat.lt_or_ge i listed.size with h'|h'
    .simp[h']at hir h;rw[hir]at h
     cases h
    .simp[Array.getElem?_eq_none h']at h
   have hnot:∀e∈oj.after,Region.binds .any e=true->e.on≠i:=fun e he hb heq=>by
    have:=hall e he hb;rw[heq]at this;exact hlast this
   have hsp:=Region.noSelect_spec hsel;have hap:=hfree j oj hoj hji hjun hnot;have hf':∀k ok,ops[k]?=some ok->k≠i->(listed.setIfInBounds j true).getD k true=false->(∀e∈ok.after,Region.binds .any e=true->e.on≠i)->oi.apart ops ok=true:=fun k ok hk hki hun hno=>by
    refine hfree k ok hk hki ?_ hno;by_cases hjk:j=k
    .subst hjk;exact hjun
    .rw[getD_set_ne true hjk]at hun;exact hun
   have all:∀a',YieldsIf P ops (fun _=>True) oi v a'->Yields P ops oi v a':= fun a' h=>h.imp (fun⟨hw,hv⟩=>⟨hw,fun w=>hv w trivial⟩) id
   have h1:=H.2 j (ready_mono hj hji);by_cases hjc:j=c
   .subst hjc;rw[if_pos rfl]at h1 |-;have h2:=wpOp_putIf hoj hap (fun cs b=>hsp i oi cs b hi) (fun cs b=>hsp j oj cs b hoj) hQ (Yields.yieldsIf (S:=fun _=>True) hy) h1;refine wpOp_mono (fun a' w' h3=>wpAny_first hi (fun k o cs b hk=>hsp k o cs b hk) hQ fuel (listed.setIfInBounds j true) a' w' hf' (ready_mono hr (Ne.symm hji)) (all a' h3.1) ?_) h2;rw[Array.setIfInBounds_comm _ _ hji];exact h3.2
   .rw[if_neg hjc]at h1 |-;have h2:=wpOp_putIf hoj hap (fun cs b=>hsp i oi cs b hi) (fun cs b=>hsp j oj cs b hoj) hQ (Yields.yieldsIf (S:=fun _=>True) hy) h1;refine wpOp_mono (fun a' w' h3=>⟨h3.2.1,till_first_any hi hsel hQ hic fuel (listed.setIfInBounds j true) a' w' hf' (ready_mono hr (Ne.symm hji)) (all a' h3.1) h3.2.1 ?_⟩) h2;rw[Array.setIfInBounds_comm _ _ hji];exact h3.2.2
end
section
variable {P:Program}{Q:Exit->Act->World->Prop}{S:World->Prop}{l0:List Oper}
def moveB (o:Oper):Bool:=
 match o.op with
 |.move _|.assign _=>true
 |_=>false
theorem move_any (h:moveB o=true):∃v,∀w,(execOp a.eval o).run P w=.ok (.value v) w:=by
 obtain⟨dst,op,type,pos,after,guard⟩:=o
 cases op<;>simp only[moveB]at h<;>try(cases h;done)
 all_goals exact⟨_,fun w=>rfl⟩
def stepC (l0:List Oper) (c k:Nat):Bool:=
 match l0[k]? with
 |none=>false
 |some o=>!(k==c) && (((Region.ready .any l0.toArray (upTo l0.length k)).contains k && Region.free .any l0.toArray (upTo l0.length k) k && plainOp o && (waitsB l0.toArray l0.length c k || moveB o)) || (Region.ready .any l0.toArray (upTo l0.length k)== [k]))
def walkC (l0:List Oper) (c k:Nat):Nat->Bool
 |0=>true
 |m+1=>stepC l0 c k && walkC l0 c (k+1) m
def shutB (l0:List Oper) (k:Nat):Bool:=(List.range k).all (fun j=>match l0[j]? with
 |none=>true
 |some o=>o.after.all (fun e=>!Region.binds .any e || decide (e.on<k)))
theorem shut_upTo (hk:k<=l0.length) (h:shutB l0 k=true):ShutL l0.toArray (upTo l0.length k):=by
 intro j o ho hj e he hb;unfold shutB at h;rw[List.all_eq_true]at h;have hjk:j<k:=by
  by_cases hjl:j<l0.length
  .simp[upTo,hjl]at hj;exact hj
  .simp[upTo,hjl]at hj
 have h1:=h j (List.mem_range.2 hjk);rw[show l0[j]?=some o by simpa using ho]at h1;dsimp only at h1;rw[Array.all_eq_true_iff_forall_mem]at h1;have h2:=h1 e he;rw[hb]at h2;have h3:e.on<k:=by simpa using h2
 have h4:e.on<l0.length:=ya;simp[upTo,h4,h3]
theorem till_op (hs:Region.noSelect l0.toArray=true) (ho:l0[k]?=some o) (hsh:shutB l0 k=true) (hB:stepC l0 c k=true) (hS:S w)
 (h:if Region.wanted o (yielded l0.toArray a.tmps) then o.quiet P a S (fun a'=> ∀w',S w'->wpTill P l0.toArray (NoPanic Q) S c (wpAny P .any l0.toArray (NoPanic Q)) (l0.length-(k+1)) (upTo l0.length (k+1)) a' w') else ∀w',S w'->wpTill P l0.toArray (NoPanic Q) S c (wpAny P .any l0.toArray (NoPanic Q)) (l0.length-(k+1)) (upTo l0.length (k+1)) (a.put o.dst undef) w') :
 wpTill P l0.toArray (NoPanic Q) S c (wpAny P .any l0.toArray (NoPanic Q)) (l0.length-k) (upTo l0.length k) a w:=by
 have hk:k<l0.length:=(List.getElem?_eq_some_iff.1 ho).1;have e:l0.length-k=l0.length-(k+1)+1:=ya;have ho':l0.toArray[k]?=some o:=yx;rw[e];unfold stepC at hB;rw[ho]at hB;rw[Lq,Bool.or_eq_true,Lq,Lq,Lq]at hB;obtain⟨hkc,hB⟩:=hB;have hkc':k≠c:=by simpa using hkc
 rcases hB with ⟨⟨⟨hr,hf⟩,hp⟩,hwt⟩|hr
 ·have take:∀v,YieldsIf P l0.toArray S o v a->wpTill P l0.toArray (NoPanic Q) S c (wpAny P .any l0.toArray (NoPanic Q)) (l0.length-(k+1)) (upTo l0.length (k+1)) (a.put o.dst v) w->wpTill P l0.toArray (NoPanic Q) S c (wpAny P .any l0.toArray (NoPanic Q)) (l0.length-(k+1)+1) (upTo l0.length k) a w:=fun v hy hn=>
   by
    rw[Bool.or_eq_true]at hwt;rcases hwt with hwt|hmv
    .exact till_first ho' hs (fun d a w h=>h) hwt hkc' _ _ _ _ (shut_upTo ya hsh) (Region.free_spec ho' hf) yy hy hS (by rw[upTo_next];exact hn)
    .refine till_first_any ho' hs (fun d a w h=>h) hkc' _ _ _ _ (Region.free_spec ho' hf) yy ?_ hS (by rw[upTo_next];exact hn);rcases hy with ⟨hw,hv⟩|⟨hw,hv⟩
     .obtain⟨u,hu⟩:=move_any (P:=P) (a:=a) hmv;have e1:=hv w hS;rw[hu w]at e1
      cases e1;exact Or.inl ⟨hw,hu⟩
     .exact Or.inr ⟨hw,hv⟩
  by_cases hw:Region.wanted o (yielded l0.toArray a.tmps)=true
  .rw[if_pos hw]at h;obtain⟨v,hv,hn⟩:=h;refine take v (Or.inl ⟨hw,fun w' hw'=> ?_⟩) (hn w hS);have hq:=hv w' hw';unfold Oper.quietAt at hq
   cases hx:(execOp a.eval o).run P w' with
   |halt x w2=>rw[hx]at hq;exact hq.elim
   | ok n w2=>
     obtain⟨u,rfl⟩:=plain_value hp hx;rw[hx]at hq;obtain⟨rfl,rfl⟩:=hq;rfl
  .rw[if_neg hw]at h;exact take undef (Or.inr ⟨by simpa using hw,rfl⟩) (h w hS)
 .have hr':Region.ready .any l0.toArray (upTo l0.length k)= [k]:=by simpa using hr
  refine⟨by rw[hr'];simp,fun i hi=>?_⟩;rw[hr',Ls]at hi;subst hi;rw[if_neg hkc'];unfold wpOp;rw[ho',upTo_next];dsimp only;by_cases hw:Region.wanted o (yielded l0.toArray a.tmps)=true
  .rw[if_pos hw]at h |-;obtain⟨v,hv,hn⟩:=h;refine Or.inl ?_;have hq:=hv w hS;unfold Oper.quietAt at hq;unfold Oper.wp
   cases hx:(execOp a.eval o).run P w with
   |halt x w2=>rw[hx]at hq;exact hq.elim
   | ok n w2=>
     rw[hx]at hq
     cases n<;>simp only[Oper.quietUpon]at hq
     case value u=>
      obtain⟨rfl,rfl⟩:=hq;exact⟨hS,hn _ hS⟩
     case skip=>
      obtain⟨rfl,rfl⟩:=hq;exact⟨hS,hn _ hS⟩
     case enter f args=>
      obtain⟨rfl,hc⟩:=hq;refine Calls.mono hc ?_;rintro e w3 ⟨rfl,hC⟩;exact⟨hC,hn _ hC⟩
  .rw[if_neg hw]at h |-;exact⟨hS,h w hS⟩
def shutW (l0:List Oper) (k:Nat):Nat->Bool
 |0=>true
 |m+1=>shutB l0 k && shutW l0 (k+1) m
theorem till_walk (hs:Region.noSelect l0.toArray=true) {c:Nat}:∀(m k:Nat) (a:Act) (w:World),shutW l0 k m=true->walkC l0 c k m=true->S w->
 wpQuiet P l0.toArray S (fun a'=> ∀w',S w'->wpTill P l0.toArray (NoPanic Q) S c (wpAny P .any l0.toArray (NoPanic Q)) (l0.length-(k+m)) (upTo l0.length (k+m)) a' w') ((l0.drop k).take m) a->
 wpTill P l0.toArray (NoPanic Q) S c (wpAny P .any l0.toArray (NoPanic Q)) (l0.length-k) (upTo l0.length k) a w
 |0,k,a,w,_,_,hS,h=>h w hS
 | m+1,k,a,w,hH,hB,hS,h=>by
   unfold walkC at hB;unfold shutW at hH;rw[Lq]at hB hH;have⟨o,ho⟩:∃o,l0[k]?=some o:=by
    cases hx:l0[k]? with
    |none=>have:=hB.1;unfold stepC at this;rw[hx]at this;cases this
    |some o=>exact⟨o,rfl⟩
   have hd:l0.drop k=o::l0.drop (k+1):=by
    have hk:=List.getElem?_eq_some_iff.1 ho;rw[List.drop_eq_getElem_cons hk.1,hk.2]
   rw[hd,List.take_succ_cons]at h;refine till_op hs ho hH.1 hB.1 hS ?_;unfold wpQuiet at h;have e:k+(m+1)=k+1+m:=ya;rw[e]at h;split
   .rename_i hw;rw[if_pos hw]at h;exact Oper.quiet_mono (fun a' h' w' hw'=> till_walk hs m (k+1) a' w' hH.2 hB.2 hw' h') h
   .rename_i hw;rw[if_neg hw]at h;exact fun w' hw'=> till_walk hs m (k+1) _ w' hH.2 hB.2 hw' h
theorem any_stage (S:World->Prop) (h:wpAnyH P .any l0.toArray (NoPanic Q) S (l0.length-k) (upTo l0.length k) a w):wpAny P .any l0.toArray (NoPanic Q) (l0.length-k) (upTo l0.length k) a w:=wpAny_of_held _ _ _ _ h
theorem till_begin {id:Nat}(hm:P.follows .mixedOrders=true) (h:wpTill P l0.toArray (NoPanic Q) S c (wpAny P .any l0.toArray (NoPanic Q)) (l0.length-0) (upTo l0.length 0) a w.drew):(Code.region id l0.toArray true).wp P Q a w:=by
 refine wp_region_noPanic (wp_region_any hm (any_of_till (S:=S) (c:=c) _ _ _ _ ?_));rw[upTo_zero]at h;simpa using h
end
section
variable {P:Program}{l0:List Oper}{Q:Exit->Act->World->Prop}{S:World->Prop}
theorem till_make (hkc:k≠c) (ho:l0[k]?=some o) (hr:(Region.ready .any l0.toArray (upTo l0.length k)== [k])=true) (hw:Region.wanted o (yielded l0.toArray a.tmps)=true)
 (hrun:(execOp a.eval o).run P w=.ok (.value v) w1) (hS:S w1) (hput:a.put o.dst v=a') (h:wpTill P l0.toArray (NoPanic Q) S c (wpAny P .any l0.toArray (NoPanic Q)) (l0.length-(k+1)) (upTo l0.length (k+1)) a' w1) :
 wpTill P l0.toArray (NoPanic Q) S c (wpAny P .any l0.toArray (NoPanic Q)) (l0.length-k) (upTo l0.length k) a w:=by
 have hk:k<l0.length:=(List.getElem?_eq_some_iff.1 ho).1;have e:l0.length-k=l0.length-(k+1)+1:=ya;have ho':l0.toArray[k]?=some o:=yx;have hr':Region.ready .any l0.toArray (upTo l0.length k)= [k]:=yy;rw[e];refine⟨by rw[hr'];simp,fun i hi=>?_⟩;rw[hr',Ls]at hi;subst hi;rw[if_neg hkc];unfold wpOp;rw[ho',upTo_next];dsimp only;rw[if_pos hw];refine Or.inl ?_;unfold Oper.wp;rw[hrun];subst hput;exact⟨hS,h⟩
theorem till_cut (ho:l0[c]?=some o) (hr:(Region.ready .any l0.toArray (upTo l0.length c)== [c])=true) (hw:Region.wanted o (yielded l0.toArray a.tmps)=true)
 (hrun:(execOp a.eval o).run P w=.ok (.value v) w1) (hput:a.put o.dst v=a') (h:wpAny P .any l0.toArray (NoPanic Q) (l0.length-(c+1)) (upTo l0.length (c+1)) a' w1) :
 wpTill P l0.toArray (NoPanic Q) S c (wpAny P .any l0.toArray (NoPanic Q)) (l0.length-c) (upTo l0.length c) a w:=by
 have hk:c<l0.length:=(List.getElem?_eq_some_iff.1 ho).1;have e:l0.length-c=l0.length-(c+1)+1:=ya;have ho':l0.toArray[c]?=some o:=yx;have hr':Region.ready .any l0.toArray (upTo l0.length c)= [c]:=yy;rw[e];refine⟨by rw[hr'];simp,fun i hi=>?_⟩;rw[hr',Ls]at hi;subst hi;rw[if_pos rfl];unfold wpOp;rw[ho',upTo_next];dsimp only;rw[if_pos hw];refine Or.inl ?_;unfold Oper.wp;rw[hrun];subst hput;exact h
theorem stage_skip (hd:o.dst=none) (ho:l0[k]?=some o) (hr:(Region.ready .any l0.toArray (upTo l0.length k)== [k])=true) (hw:Region.wanted o (yielded l0.toArray a.tmps)=true)
 (hrun:(execOp a.eval o).run P w=.ok .skip w1) (hS:S w1) (h:wpAnyH P .any l0.toArray (NoPanic Q) S (l0.length-(k+1)) (upTo l0.length (k+1)) a w1) :
 wpAnyH P .any l0.toArray (NoPanic Q) S (l0.length-k) (upTo l0.length k) a w:=by
 refine zb50 ?_;unhygienic intros
 subst hi;unfold wpOp;rw[ho',upTo_next];dsimp only;rw[if_pos hw];refine Or.inl ?_;have hp:a.put o.dst undef=a:=by rw[hd];rfl
 unfold Oper.wp;rw[hrun];refine⟨hS,?_⟩;rw[hp];exact h
theorem z45 {P:Program}{s x:Operand}{t:TypeId}(ho:o.op=.call { callee:=.builtin .append,args:= #[s,x],argTypes:= #[t,t] }) {vx:Value}(hs:a.eval s=v) (hx:a.eval x=vx) {v':Value}(hr:(Builtin.append_ #[t,t] o.type #[v,vx]).run P w=.ok v' w'):(execOp a.eval o).run P w=.ok (.value v') w':= by
 unfold execOp;simp only[ho,resolve,invoke,builtin,Sem.run_bind,Sem.run_pure,Result.andThen_ok,List.map_toArray,List.map_cons,List.map_nil,hs,hx,hr]
end
end
end Go.Proofs.YtbbffkiobmbkfaaGreatDoor
