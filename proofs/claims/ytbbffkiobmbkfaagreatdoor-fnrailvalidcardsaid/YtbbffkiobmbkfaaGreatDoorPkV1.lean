import Derived.Test.YtbbffkiobmbkfaaGreatDoorPkV0
import Derived.BigQuiet
open Go.Proofs.Tryz
open Go.Value Go.IntKind
set_option maxHeartbeats 4000000
set_option maxRecDepth 100000
namespace Go.Proofs.YtbbffkiobmbkfaaGreatDoor
open Go.RowKit
variable {us:List Value}{B B' b:Nat}{n:Nd}{v x y:Value}{w w':World}
section
open Go.RowKit
def tab (l:List Int) (k:Int) (other:Int):Int:=if k<1\/26<k then other else l.getD k.toNat 0
def arityZ (k:Int):Int:=tab [0,0,0,0,0,0,1,2,2,2,3,2,2,2,2,2,2,1,1,2,3,1,1,-2,-2,1,1] k (-1)
def namesZ (k:Int):Int:=tab [0,0,0,0,0,1,1,0,1,2,0,0,0,0,0,0,0,0,0,0,2,0,1,0,0,1,3] k 0
def mostZ (k:Int):Int:=tab [0,999999999,1,0,0,0,0,0,0,0,0,0,0,0,0,0,0,0,0,0,0,0,0,0,0,0,0] k 0
theorem kinds (k:Int):k=1\/k=2\/k=3\/k=4\/k=5\/k=6\/k=7\/k=8\/k=9\/k=10\/k=11\/k=12\/k=13\/k=14\/k=15\/k=16\/k=17\/k=18\/k=19\/k=20\/k=21\/k=22\/k=23\/k=24\/k=25\/k=26\/(k<1\/26<k):=ya
theorem tab_other {l:List Int}{k o:Int}(h:k<1\/26<k):tab l k o=o:=by rw[tab,if_pos h]
theorem arity_calls (k:Int) (w:World):Calls prog 107 #[int i64 k] w fun e w'=> e=.returned (int i64 (arityZ k))/\w=w':= by
 rcases kinds k with rfl|rfl|rfl|rfl|rfl|rfl|rfl|rfl|rfl|rfl|rfl|rfl|rfl|rfl|rfl|rfl|rfl|rfl|rfl|rfl|rfl|rfl|rfl|rfl|rfl|rfl|h
 all_goals try(
  go_enter func107,ntmps107
  go_wp2
  go_ret;exact⟨rfl,rfl⟩)
 have e:arityZ k= -1:=tab_other h;rw[e];go_enter func107,ntmps107
 go_wp2
 go_ret;exact⟨rfl,rfl⟩
theorem names_calls (k:Int) (w:World):Calls prog 108 #[int i64 k] w fun e w'=> e=.returned (int i64 (namesZ k))/\w=w':= by
 rcases kinds k with rfl|rfl|rfl|rfl|rfl|rfl|rfl|rfl|rfl|rfl|rfl|rfl|rfl|rfl|rfl|rfl|rfl|rfl|rfl|rfl|rfl|rfl|rfl|rfl|rfl|rfl|h
 all_goals try(
  go_enter func108,ntmps108
  go_wp2
  go_ret;exact⟨rfl,rfl⟩)
 have e:namesZ k=0:=tab_other h;rw[e];go_enter func108,ntmps108
 go_wp2
 go_ret;exact⟨rfl,rfl⟩
def leastZ (k:Int):Int:=if arityZ k= -2 then 2 else arityZ k
def greatZ (k:Int):Int:=if arityZ k= -2 then 6 else arityZ k
def shapeVal (k:Int):Value:=
 if k<1\/26<k then .tuple #[.agg #[int i64 0,int i64 0,int i64 0,int i64 0],.bool false]
 else .tuple #[.agg #[int i64 (namesZ k),int i64 (mostZ k),int i64 (leastZ k),int i64 (greatZ k)],.bool true]
theorem shape_calls (k:Int) (w:World):Calls prog 127 #[int i64 k] w fun e w'=> e=.returned (shapeVal k)/\Below w.heap.size w w':= by
 rcases kinds k with rfl|rfl|rfl|rfl|rfl|rfl|rfl|rfl|rfl|rfl|rfl|rfl|rfl|rfl|rfl|rfl|rfl|rfl|rfl|rfl|rfl|rfl|rfl|rfl|rfl|rfl|h
 all_goals try(
  go_enter func127,ntmps127
  go_wp2
  refine bodyPost_ret (v:=shapeVal _) (by simp[results,results127,go_sem];rfl) rfl ⟨rfl,?_⟩;repeat(first|exact Lb|refine Below.alloc ?_ jb _))
 have e:shapeVal k=.tuple #[.agg #[int i64 0,int i64 0,int i64 0,int i64 0],.bool false]:=by rw[shapeVal,if_pos h]
 rw[e];go_enter func127,ntmps127
 go_wp2
 refine bodyPost_ret (v:=.tuple #[.agg #[int i64 0,int i64 0,int i64 0,int i64 0],.bool false]) (by simp[results,results127,go_sem]) rfl ⟨rfl,?_⟩;repeat(first|exact Lb|refine Below.alloc ?_ jb _)
theorem below_drewN {a:World}(h:Below B a w) (n:Nat):Below B a (w.drewN n):=h.trans ⟨rfl,rfl,rfl,La,fun _ _=>rfl⟩
theorem z11 {a:Array Value}{t:TypeId}(h:w.heap[b]?=some (.cells a t)) (i:Nat):w.cell? ⟨b,i,none⟩=a[i]? :=by
 simp[World.cell?,h]
theorem z15 {a:Array Value}{t:TypeId}(h:w.heap[b]?=some (.cells a t)) (i:Nat):w.frozen? ⟨b,i,none⟩=false:=by
 simp[World.frozen?,h]
theorem fcl2 {t:TypeId}(h:w.heap[b]?=some (.cells #[x,y] t)):w.cell? ⟨b,0,none⟩=some x/\w.cell? ⟨b,1,none⟩=some y:=⟨z11 h 0,z11 h 1⟩
theorem fcl3 {z:Value}{t:TypeId}(h:w.heap[b]?=some (.cells #[x,y,z] t)):w.cell? ⟨b,0,none⟩=some x/\w.cell? ⟨b,1,none⟩=some y/\w.cell? ⟨b,2,none⟩=some z:=⟨z11 h 0,z11 h 1,z11 h 2⟩
theorem fcl6 {z u s:Value}{t:TypeId}(h:w.heap[b]?=some (.cells #[x,y,z,u,v,s] t)):w.cell? ⟨b,0,none⟩=some x/\w.cell? ⟨b,1,none⟩=some y/\w.cell? ⟨b,2,none⟩=some z/\w.cell? ⟨b,3,none⟩=some u/\w.cell? ⟨b,4,none⟩=some v/\w.cell? ⟨b,5,none⟩=some s:=⟨z11 h 0,z11 h 1,z11 h 2,z11 h 3,z11 h 4,z11 h 5⟩
theorem ffz2 {c:Array Value}{t:TypeId}(h:w.heap[b]?=some (.cells c t)):w.frozen? ⟨b,0,none⟩=false/\w.frozen? ⟨b,1,none⟩=false:=⟨z15 h 0,z15 h 1⟩
theorem ffz6 {c:Array Value}{t:TypeId}(h:w.heap[b]?=some (.cells c t)):w.frozen? ⟨b,0,none⟩=false/\w.frozen? ⟨b,1,none⟩=false/\w.frozen? ⟨b,2,none⟩=false/\w.frozen? ⟨b,3,none⟩=false/\w.frozen? ⟨b,4,none⟩=false/\w.frozen? ⟨b,5,none⟩=false:=⟨z15 h 0,z15 h 1,z15 h 2,z15 h 3,z15 h 4,z15 h 5⟩
theorem fsx {P:Nat->Prop}(h:∀c,c<6->P c):P 0/\P 1/\P 2/\P 3/\P 4/\P 5:=⟨h 0 yk,h 1 yk,h 2 yk,h 3 yk,h 4 yk,h 5 yk⟩
theorem z13 {o:Obj}(h:w.heap[b]?=some o):b<w.heap.size:=(Array.getElem?_eq_some_iff.1 h).1
theorem one_kept {w2:World}{o:Obj}(h:Below (w.alloc o).heap.size (w.alloc o) w2):w2.heap[w.heap.size]?=some o/\Below w.heap.size w w2:=by
 have s1:(w.alloc o).heap.size=w.heap.size+1:=yq;exact⟨(h.block _ (by rw[s1];omega)).trans (Ld w _).1,(Lb.alloc La _).trans (h.mono (by rw[s1];omega))⟩
theorem grown_of_below (h:Below w.heap.size w w') (row:Option Nat):w.grownBy w' row:=⟨h.os,h.tape,h.output,h.size,fun k hk _=>h.block k hk⟩
theorem owns_below {base:Nat}{e:TypeId}{size:Nat}{n:Nat}{xs:List Value}(h:w.ownsRow base e size v n xs) (hb:Below w.heap.size w w'):w'.ownsRow base e size v n xs:=
 h.kept (grown_of_below hb none) (by cases hv:v.ownBlock<;>simp)
def RowAt (B:Nat) (w:World) (sl:Value) (us:List Value):Prop:=
 ∃g o cap,sl=.slice (some ⟨g,o,none⟩) us.length cap/\B<=g/\g<w.heap.size/\ ∀j,j<us.length->w.cell? ⟨g,o+j,none⟩=us[j]?
inductive Shape (B:Nat) (w:World):Nd->List Value->Value->Prop
 |int {num:Int} {a b c:ByteArray} {kids:Int}:Shape B w ⟨1,num,a,b,c,kids⟩ [] (.iface 239 (.agg #[int i64 num]))
 |bool {num:Int} {a b c:ByteArray} {kids:Int}:Shape B w ⟨2,num,a,b,c,kids⟩ [] (.iface 240 (.agg #[int i64 num]))
 |unit {num:Int} {a b c:ByteArray} {kids:Int}:Shape B w ⟨3,num,a,b,c,kids⟩ [] (.iface 242 (.agg #[]))
 |nil {num:Int} {a b c:ByteArray} {kids:Int}:Shape B w ⟨4,num,a,b,c,kids⟩ [] (.iface 243 (.agg #[]))
 |var {num:Int} {a b c:ByteArray} {kids:Int}:Shape B w ⟨5,num,a,b,c,kids⟩ [] (.iface 98 (.agg #[.string a]))
 |fn {num:Int} {a b c:ByteArray} {kids:Int} {u:Value}:Shape B w ⟨6,num,a,b,c,kids⟩ [u] (.iface 104 (.agg #[.string a,u]))
 |app {num:Int} {a b c:ByteArray} {kids:Int} {u v:Value}:Shape B w ⟨7,num,a,b,c,kids⟩ [u,v] (.iface 245 (.agg #[u,v]))
 |bind {num:Int} {a b c:ByteArray} {kids:Int} {u v:Value}:Shape B w ⟨8,num,a,b,c,kids⟩ [u,v] (.iface 112 (.agg #[.string a,u,v]))
 |recur {num:Int} {a b c:ByteArray} {kids:Int} {u v:Value}:Shape B w ⟨9,num,a,b,c,kids⟩ [u,v] (.iface 110 (.agg #[.string a,.string b,u,v]))
 |cond {num:Int} {a b c:ByteArray} {kids:Int} {u v x:Value}:Shape B w ⟨10,num,a,b,c,kids⟩ [u,v,x] (.iface 114 (.agg #[u,v,x]))
 |sign {k num:Int} {a b c:ByteArray} {kids:Int} {u v:Value} (h:k=11\/k=12\/k=13\/k=14\/k=15):Shape B w ⟨k,num,a,b,c,kids⟩ [u,v] (.iface 255 (.agg #[int i64 k,u,v]))
 |pair {num:Int} {a b c:ByteArray} {kids:Int} {u v:Value}:Shape B w ⟨16,num,a,b,c,kids⟩ [u,v] (.iface 247 (.agg #[u,v]))
 |take {k num:Int} {a b c:ByteArray} {kids:Int} {u:Value} (h:k=17\/k=18\/k=21):Shape B w ⟨k,num,a,b,c,kids⟩ [u] (.iface 249 (.agg #[int i64 k,u]))
 |cons {num:Int} {a b c:ByteArray} {kids:Int} {u v:Value}:Shape B w ⟨19,num,a,b,c,kids⟩ [u,v] (.iface 251 (.agg #[u,v]))
 |case {num:Int} {a b c:ByteArray} {kids:Int} {u v x:Value}:Shape B w ⟨20,num,a,b,c,kids⟩ [u,v,x] (.iface 117 (.agg #[u,v,.string a,.string b,x]))
 |perform {num:Int} {a b c:ByteArray} {kids:Int} {u:Value}:Shape B w ⟨22,num,a,b,c,kids⟩ [u] (.iface 253 (.agg #[.string a,u]))
 |handler {k num:Int} {a b c:ByteArray} {kids:Int} {u sl:Value} {us:List Value} (h:k=23\/k=24) (hs:RowAt B w sl us) (hl:us.length<=1500):Shape B w ⟨k,num,a,b,c,kids⟩ (u::us) (.iface 121 (.agg #[int i64 k,u,sl]))
 |ret {num:Int} {a b c:ByteArray} {kids:Int} {u:Value}:Shape B w ⟨25,num,a,b,c,kids⟩ [u] (.iface 235 (.agg #[.string a,u]))
 |op {num:Int} {a b c:ByteArray} {kids:Int} {u:Value}:Shape B w ⟨26,num,a,b,c,kids⟩ [u] (.iface 237 (.agg #[.string a,.string b,.string c,u]))
def Forms (B:Nat) (w:World):Fo->List Value->Prop
 |.none,vs=>vs= []
 |.tree n k r,vs=> ∃v us rest,vs=v::rest/\Forms B w k us/\Shape B w n us v/\Forms B w r rest
theorem RowAt.kept {sl:Value}(h:RowAt B w sl us) (hB:B'<=B) (hs:w.heap.size<=w'.heap.size) (hc:∀a:Addr,B<=a.block->a.block<w.heap.size->w'.cell? a=w.cell? a):RowAt B' w' sl us:=by
 obtain⟨g,o,cap,e,h1,h2,h3⟩:=h;refine⟨g,o,cap,e,Lf hB h1,Le h2 hs,fun j hj=>?_⟩;rw[hc ⟨g,o+j,none⟩ h1 h2];exact h3 j hj
theorem Shape.kept (h:Shape B w n us v) (hB:B'<=B) (hs:w.heap.size<=w'.heap.size) (hc:∀a:Addr,B<=a.block->a.block<w.heap.size->w'.cell? a=w.cell? a):Shape B' w' n us v:=by
 cases h with
 |int=>exact .int
 |bool=>exact .bool
 |unit=>exact .unit
 |nil=>exact .nil
 |var=>exact .var
 |fn=>exact .fn
 |app=>exact .app
 |bind=>exact .bind
 |recur=>exact .recur
 |cond=>exact .cond
 |sign h=>exact .sign h
 |pair=>exact .pair
 |take h=>exact .take h
 |cons=>exact .cons
 |case=>exact .case
 |perform=>exact .perform
 |handler h h1 h2=>exact .handler h (h1.kept hB hs hc) h2
 |ret=>exact .ret
 |op=>exact .op
theorem Forms.kept (hB:B'<=B) (hs:w.heap.size<=w'.heap.size) (hc:∀a:Addr,B<=a.block->a.block<w.heap.size->w'.cell? a=w.cell? a):∀ {f:Fo}{vs:List Value},Forms B w f vs->Forms B' w' f vs
 |.none,_,h=>h
 |.tree _ _ _,_,⟨v,us,rest,e,h1,h2,h3⟩=>⟨v,us,rest,e,Forms.kept hB hs hc h1,h2.kept hB hs hc,Forms.kept hB hs hc h3⟩
theorem Forms.below {f:Fo}{vs:List Value}(h:Forms B w f vs) (hb:Below w.heap.size w w'):Forms B w' f vs:=
 Forms.kept La hb.size (fun _ _ ha=>hb.cell ha) h
theorem Shape.below (h:Shape B w n us v) (hb:Below w.heap.size w w'):Shape B w' n us v:=
 h.kept La hb.size (fun _ _ ha=>hb.cell ha)
theorem Forms.length:∀ {f:Fo}{vs:List Value},Forms B w f vs->vs.length=f.count
 |.none,_,h=>by rw[show _= [] from h];rfl
 |.tree _ _ _,_,⟨_,_,_,e,_,_,h3⟩=>by rw[e,Ll,Forms.length h3];rfl
def Fits (n:Nd) (m:Nat):Prop:=leastZ n.kind<=m/\(m:Int)<=greatZ n.kind/\1<=n.kind/\n.kind<=26
theorem z80 (B:Nat) (w:World) (n:Nat):Below B w (w.drewN n):=⟨rfl,rfl,rfl,La,fun _ _=>rfl⟩
theorem len0 (h:us.length=0):us= []:=Lu h
theorem len1 (h:us.length=1):∃u,us= [u]:=by
 match us,h with
 |[u],_=>exact⟨u,rfl⟩
theorem len2 (h:us.length=2):∃u v,us= [u,v]:=by
 match us,h with
 |[u,v],_=>exact⟨u,v,rfl⟩
theorem len3 (h:us.length=3):∃u v x,us= [u,v,x]:=by
 match us,h with
 |[u,v,x],_=>exact⟨u,v,x,rfl⟩
def nodeVal (n:Nd):Value:=.agg #[int i64 n.kind,int i64 n.num,.string n.a,.string n.b,.string n.c,int i64 n.kids]
def FormPost (n:Nd) (G:Nat) (us:List Value) (w:World) (e:Ending) (w':World):Prop:=
 ∃v,e=.returned v/\Shape G w' n us v/\Below w.heap.size w w'
theorem formOf_leaf (n:Nd) (G:Nat) (sv:Value) (w:World) (h:n.kind=1\/n.kind=2\/n.kind=3\/n.kind=4\/n.kind=5) :
 Calls prog 105 #[nodeVal n,sv] w (FormPost n G [] w):=by
 obtain⟨k,num,a,b,c,kids⟩:=n;unfold nodeVal;dsimp only at*;rcases h with rfl|rfl|rfl|rfl|rfl
 all_goals
  go_enter func105,ntmps105
  go_wp2_with fail
  go_ret;exact⟨_,rfl,by constructor,Lb.alloc La _⟩
theorem formOf_one (n:Nd) (G cap:Nat) (T0:TypeId) (p0:Value) (w:World) (hG:G<w.heap.size) (h0:w.cell? ⟨G,0,none⟩=some (.iface T0 p0))
 (h:n.kind=6\/n.kind=17\/n.kind=18\/n.kind=21\/n.kind=22\/n.kind=25\/n.kind=26) :
 Calls prog 105 #[nodeVal n,.slice (some ⟨G,0,none⟩) 1 cap] w (FormPost n G [.iface T0 p0] w):=by
 obtain⟨k,num,a,b,c,kids⟩:=n;unfold nodeVal;dsimp only at*;rcases h with rfl|rfl|rfl|rfl|rfl|rfl|rfl
 all_goals
  go_enter func105,ntmps105
  go_wp2_with fail
  go_quiet (fail)
  go_wp2_with fail
  go_ret;exact⟨_,rfl,by constructor<;>simp,(Lb.alloc La _).trans (z80 _ _ _)⟩
theorem formOf_two (n:Nd) (G cap:Nat) (T0 T1:TypeId) (p0 p1:Value) (w:World) (hG:G<w.heap.size) (h0:w.cell? ⟨G,0,none⟩=some (.iface T0 p0)) (h1:w.cell? ⟨G,1,none⟩=some (.iface T1 p1))
 (h:n.kind=7\/n.kind=8\/n.kind=9\/n.kind=11\/n.kind=12\/n.kind=13\/n.kind=14\/n.kind=15\/n.kind=16\/n.kind=19) :
 Calls prog 105 #[nodeVal n,.slice (some ⟨G,0,none⟩) 2 cap] w (FormPost n G [.iface T0 p0,.iface T1 p1] w):=by
 obtain⟨k,num,a,b,c,kids⟩:=n;unfold nodeVal;dsimp only at*;rcases h with rfl|rfl|rfl|rfl|rfl|rfl|rfl|rfl|rfl|rfl
 all_goals
  go_enter func105,ntmps105
  go_wp2_with fail
  go_quiet (fail)
  go_wp2_with fail
  go_ret;exact⟨_,rfl,by constructor<;>simp,(Lb.alloc La _).trans (z80 _ _ _)⟩
theorem formOf_three (n:Nd) (G cap:Nat) (T0 T1 T2:TypeId) (p0 p1 p2:Value) (w:World) (hG:G<w.heap.size) (h0:w.cell? ⟨G,0,none⟩=some (.iface T0 p0)) (h1:w.cell? ⟨G,1,none⟩=some (.iface T1 p1)) (h2:w.cell? ⟨G,2,none⟩=some (.iface T2 p2))
 (h:n.kind=10\/n.kind=20) :
 Calls prog 105 #[nodeVal n,.slice (some ⟨G,0,none⟩) 3 cap] w (FormPost n G [.iface T0 p0,.iface T1 p1,.iface T2 p2] w):=by
 obtain⟨k,num,a,b,c,kids⟩:=n;unfold nodeVal;dsimp only at*;rcases h with rfl|rfl
 all_goals
  go_enter func105,ntmps105
  go_wp2_with fail
  go_quiet (fail)
  go_wp2_with fail
  go_ret;exact⟨_,rfl,by constructor,(Lb.alloc La _).trans (z80 _ _ _)⟩
theorem formOf_handler (n:Nd) (G L cap:Nat) (T0:TypeId) (p0:Value) (us:List Value) (w:World) (hG:G<w.heap.size) (h0:w.cell? ⟨G,0,none⟩=some (.iface T0 p0)) (hc:∀j,j<us.length->w.cell? ⟨G,1+j,none⟩=us[j]?)
 (hL:L=us.length+1) (hl:us.length<=5) (_hcap:L<=cap) (hcap2:2<=cap) (h:n.kind=23\/n.kind=24) :
 Calls prog 105 #[nodeVal n,.slice (some ⟨G,0,none⟩) L cap] w (FormPost n G (.iface T0 p0::us) w):=by
 obtain⟨k,num,a,b,c,kids⟩:=n;unfold nodeVal;dsimp only at*;have hL1:1<=L:=ya;have HL:O (L=us.length+1):=hL;have HC:O (∀j,j<us.length->w.cell? ⟨G,1+j,none⟩=us[j]?):=hc;clear hL hc;rcases h with rfl|rfl
 all_goals
  go_enter func105,ntmps105
  go_wp2_with fail
  go_quiet (fail)
  go_wp2_with fail
  go_ret;have e:L-1=us.length:=jc;have hb:∀o q,Below w.heap.size w ((w.alloc o).drewN q):=fun o q=>(Lb.alloc La _).trans (z80 _ _ _)
  refine⟨_,rfl,Shape.handler yq ?_ (Lf hl yk),hb _ _⟩;show RowAt G _ (.slice (some ⟨G,1,none⟩) (L-1) (cap-1)) us;rw[e];refine⟨G,1,cap-1,rfl,La,Le hG (hb _ _).size,fun j hj=>?_⟩;rw[<-HC.o j hj];exact(hb _ _).cell (p:=⟨G,1+j,none⟩) hG
theorem fits_cases {m:Nat}(h:Fits n m) :
 (m=0/\(n.kind=1\/n.kind=2\/n.kind=3\/n.kind=4\/n.kind=5))\/
 (m=1/\(n.kind=6\/n.kind=17\/n.kind=18\/n.kind=21\/n.kind=22\/n.kind=25\/n.kind=26))\/
 (m=2/\(n.kind=7\/n.kind=8\/n.kind=9\/n.kind=11\/n.kind=12\/n.kind=13\/n.kind=14\/n.kind=15\/n.kind=16\/n.kind=19))\/
 (m=3/\(n.kind=10\/n.kind=20))\/
 (2<=m/\m<=6/\(n.kind=23\/n.kind=24)):=by
 obtain⟨h1,h2,h3,h4⟩:=h;rcases kinds n.kind with h|h|h|h|h|h|h|h|h|h|h|h|h|h|h|h|h|h|h|h|h|h|h|h|h|h|h
 all_goals try(
  rw[h]at h1 h2;simp[leastZ,greatZ,arityZ,tab]at h1 h2;omega)
 omega
theorem formOf_calls (n:Nd) (G cap:Nat) (us:List Value) (sv:Value) (w:World) (hsv:us≠ []->sv=.slice (some ⟨G,0,none⟩) us.length cap) (hG:us≠ []->G<w.heap.size)
 (hc:∀j,j<us.length->w.cell? ⟨G,j,none⟩=us[j]?) (hi:∀u∈us,∃T p,u=.iface T p) (hf:Fits n us.length) (hcap:us.length<=cap) :
 Calls prog 105 #[nodeVal n,sv] w (FormPost n G us w):=by
 rcases fits_cases hf with ⟨hm,hk⟩|⟨hm,hk⟩|⟨hm,hk⟩|⟨hm,hk⟩|⟨hm,hm',hk⟩
 .have:=len0 hm;subst this;exact formOf_leaf n G sv w hk
 .obtain⟨u,rfl⟩:=len1 hm;obtain⟨T0,p0,rfl⟩:=hi u yq;rw[hsv yq];exact formOf_one n G cap T0 p0 w (hG yq) (hc 0 yq) hk
 .obtain⟨u,v,rfl⟩:=len2 hm;obtain⟨T0,p0,rfl⟩:=hi u yq;obtain⟨T1,p1,rfl⟩:=hi v yq;rw[hsv yq];exact formOf_two n G cap T0 T1 p0 p1 w (hG yq) (hc 0 yq) (hc 1 yq) hk
 .obtain⟨u,v,x,rfl⟩:=len3 hm;obtain⟨T0,p0,rfl⟩:=hi u yq;obtain⟨T1,p1,rfl⟩:=hi v yq;obtain⟨T2,p2,rfl⟩:=hi x yq;rw[hsv yq];exact formOf_three n G cap T0 T1 T2 p0 p1 p2 w (hG yq) (hc 0 yq) (hc 1 yq) (hc 2 yq) hk
 .match us,hm,hm' with
  | u::us',hm,hm'=>
    obtain⟨T0,p0,rfl⟩:=hi u yq;rw[hsv yq];simp only[Ll]at hm hm' hcap;refine formOf_handler n G _ cap T0 p0 us' w (hG yq) (hc 0 yq) (fun j hj=>?_) rfl ya hcap ya hk;have:=hc (1+j) jd;rw[this,Nat.add_comm 1 j];simp
theorem at_drop {ns:List Nd}{p:Nat}{r:List Nd}(h:ns.drop p=n::r):p<ns.length/\ns.getD p default=n/\ns.drop (p+1)=r:=by
 have hp:p<ns.length:=by
  have:(ns.drop p).length=r.length+1:=by rw[h];rfl
  rw[List.length_drop]at this;omega
 rw[drop_at hp]at h;exact⟨hp,(List.cons.inj h).1,(List.cons.inj h).2⟩
theorem drop_past {ns:List Nd}{p:Nat}{a r:List Nd}(h:ns.drop p=a++r):ns.drop (p+a.length)=r:=by
 rw[<-List.drop_drop,h,List.drop_left'];rfl
theorem z30 {x:Nat}(h:x<=1048576):wrap64 ((x:Int)+1)=((x+1:Nat):Int):=by
 unfold wrap64;omega
theorem z55 {i kc:Nat}(h:(i:Int)<(kc:Int)):kc-(intOf (int i64 ((i+1:Nat):Int))).toNat<kc-(intOf (int i64 (i:Int))).toNat:=by
 simp only[intOf,Lp];omega
theorem deep_calls (b off cap:Nat) (ns:List Nd) (hm:ns.length<=1048576):∀(N:Nat) (n:Nd) (k:Fo) (suf:List Nd) (p:Nat) (w:World),NodesAt w b off ns->ns.drop p=n::(k.flat++suf)->n.kids=k.count->k.wf->k.flat.length<N->
 Calls prog 64 #[.slice (some ⟨b,off,none⟩) ns.length cap,int i64 p] w fun e w'=> e=.returned (int i64 ((k.deep+1:Nat):Int))/\w=w':= by
 intro N;induction N with
 |zero=>intro n k suf p w _ _ _ _ h;omega
 | succ N ih=>
   intro n k suf p w hn hp hkc hk hN;obtain⟨hpl,hnd,hp1⟩:=at_drop hp;have hkl:k.flat.length<=ns.length:=by
    have:(ns.drop (p+1)).length=k.flat.length+suf.length:=je;rw[List.length_drop]at this;omega
   have hkd:=Fo.deep_le k;have hkk:=Fo.count_le k;have c5:=hn p hpl 5 ya;rw[hnd]at c5;simp only[Nd.cell]at c5;rw[hkc]at c5;have HI:O (∀(n:Nd) (k:Fo) (suf:List Nd) (p:Nat) (w:World),_):=ih;have HN:O (NodesAt w b off ns):=hn;have HE:O (∀at_:Int,_):=fun at_=>z59 b off cap ns at_ w hn hm
   refine zb76 ?_;intro H1 Hk len hlen Hlen;rw[hlen]at hm hpl hkl |-;clear ih hn hp hp1 hk hnd hlen hkc;obtain⟨kc,hkc⟩:∃kc,k.count=kc:=⟨_,rfl⟩
   obtain⟨kd,hkd'⟩:∃kd,k.deep=kd:=⟨_,rfl⟩
   have Hkc:O (k.count=kc):=hkc;have Hkd:O (k.deep=kd):=hkd';rw[hkc]at c5 hkk;rw[hkd']at hkd |-;have HP:O (len<=1048576/\p<len/\k.flat.length<=len/\kc<=k.flat.length/\kd<=k.flat.length/\k.flat.length<N+1):=⟨hm,hpl,hkl,hkk,hkd,hN⟩
   clear hkc hkd' hm hkl hkk hkd hN;go_enter func64,ntmps64
   go_wp2_with fail
   go_loop [5,6,7] (fun m q i=> ∃(m' q' i':Nat) (r:Fo),m=int i64 m'/\q=int i64 q'/\i=int i64 i'/\O (ns.drop q'= r.flat++suf/\r.wf/\i'+ r.count=kc/\max m' r.deep=kd/\r.flat.length<N+1)) (fun _ _ i=>kc-(intOf i).toNat)
   case atStart=>exact⟨0,p+1,0,k,rfl,by rw[z30 jf],rfl,H1.o,Hk.o,jg,by rw[Hkd.o];omega,HP.o.2.2.2.2.2⟩
   case round=>
    obtain⟨m',q',i',r,rfl,rfl,rfl,HR⟩:=hrel
    cases r with
    | none=>
      obtain⟨_,_,h1,h2,_⟩:=HR.o;simp only[Fo.count,Fo.deep]at h1 h2;have h1':i'= kc:=ya;have h2':m'= kd:=ya;subst h1' h2';clear HR h1 h2;go_wp2_with fail
      go_ret;exact⟨by rw[z30 jf];rfl,rfl⟩
    | tree n' k' r'=>
      obtain⟨h0,hw,h1,h2,h3⟩:=HR.o;obtain⟨hw0,hw1,hw2⟩:=hw;simp only[Fo.count,Fo.deep,Fo.flat,Ll,Lk]at h1 h2 h3;simp only[Fo.flat,Ln,Lo]at h0;obtain⟨hql,hqn,hq1⟩:=at_drop h0;have hend:O (treeEnd ns q'= _):=treeEnd_at h0 hw0 hw1;have hIH:=HI.o n' k' (r'.flat++suf) q' w HN.o h0 hw0 hw1 ya;have hEn:=HE.o q';rw[hend.o]at hEn;rw[Hlen.o]at hEn hIH hql;have hnew:=drop_past hq1;have hkd2:=Fo.deep_le k';have HC:O (Calls _ _ _ _ _):=hIH;have HT:O (Calls _ _ _ _ _):=hEn;have Hnew:O (ns.drop (q'+ 1+k'.flat.length)=r'.flat++suf/\r'.wf/\i'+ 1+r'.count=kc/\r'.flat.length<N+1):=⟨hnew,hw2,ya,ya⟩
      have hi:(i':Int)<(kc:Int):=ya;have H2:O (max m' (max (k'.deep+1) r'.deep)=kd):=h2;clear h1 h2 h3 hqn hkd2 hIH hEn HR hnew h0 hw0 hw1 hw2 hq1 hend HI HE HN Hkc Hkd H1 Hk Hlen;clear hql;generalize k'.deep+1=dd at*;generalize q'+ 1+k'.flat.length=ee at*;by_cases hgt:(m':Int)<(dd:Int)
      .go_wp2_with (first|(go_at_call 64;refine HC.o.mono ?_;rintro e w2 ⟨rfl,rfl⟩)|(go_at_call 63;refine HT.o.mono ?_;rintro e w2 ⟨rfl,rfl⟩))
       have hi9:i'<=1048576:=jf;rw[z30 hi9];exact⟨⟨dd,ee,i'+ 1,r',rfl,rfl,rfl,Hnew.o.1,Hnew.o.2.1,Hnew.o.2.2.1,by have:=H2.o;omega,Hnew.o.2.2.2⟩,z55 hi⟩
      .go_wp2_with (first|(go_at_call 64;refine HC.o.mono ?_;rintro e w2 ⟨rfl,rfl⟩)|(go_at_call 63;refine HT.o.mono ?_;rintro e w2 ⟨rfl,rfl⟩))
       have hi9:i'<=1048576:=jf;rw[z30 hi9];exact⟨⟨m',ee,i'+ 1,r',rfl,rfl,rfl,Hnew.o.1,Hnew.o.2.1,Hnew.o.2.2.1,by have:=H2.o;omega,Hnew.o.2.2.2⟩,z55 hi⟩
end
section
open Go.RowKit Go.Deep
theorem Shape.iface (h:Shape B w n us v):∃T p,v=.iface T p:=by
 cases h<;>exact⟨_,_,rfl⟩
theorem Forms.ifaces:∀ {f:Fo}{vs:List Value},Forms B w f vs-> ∀u∈vs,∃T p,u=.iface T p
 |.none,_,h,u,hu=>by rw[show _= [] from h]at hu;cases hu
 | .tree _ _ _,_,⟨v,_,rest,e,_,h2,h3⟩,u,hu=>by
   rw[e]at hu;rcases List.mem_cons.1 hu with rfl|hu
   .exact h2.iface
   .exact Forms.ifaces h3 u hu
theorem Forms.app {g:Fo}{vs:List Value}(hg:Forms B w g vs):∀ {f:Fo}{us:List Value},Forms B w f us->Forms B w (f.app g) (us++vs)
 |.none,_,h=>by rw[show _= [] from h];exact hg
 |.tree _ _ _,_,⟨v,us,rest,e,h1,h2,h3⟩=>⟨v,us,rest++vs,zw,h1,h2,Forms.app hg h3⟩
theorem Fo.app_snoc (n:Nd) (k r:Fo):∀g:Fo,g.app (.tree n k r)=(g.app (.tree n k .none)).app r
 |.none=>rfl
 |.tree n' k' r'=> by simp only[Fo.app,app_snoc n k r r']
theorem Fo.app_none:∀g:Fo,g.app .none=g
 |.none=>rfl
 |.tree n' k' r'=> by simp only[Fo.app,app_none r']
theorem info_form:(prog.info? 49).map (fun i=>(i.zero,i.size,i.bytes))=some (some .nilIface,1,16):=ye
theorem formAt_calls (b off cap:Nat) (ns:List Nd) (hm:ns.length<=300) (hfit:∀m∈ns,Fits m m.kids.toNat):∀(N:Nat) (n:Nd) (k:Fo) (suf:List Nd) (p:Nat) (w:World),b<w.heap.size->NodesAt w b off ns->ns.drop p=n::(k.flat++suf)->n.kids=k.count->k.wf->k.flat.length<N->
 Calls prog 54 #[.slice (some ⟨b,off,none⟩) ns.length cap,int i64 p] w fun e w'=> ∃v us,e=.returned (.tuple #[v,int i64 ((p+1+k.flat.length:Nat):Int)])/\Forms w.heap.size w' k us/\Shape w.heap.size w' n us v/\Below w.heap.size w w':= by
 intro N;induction N with
 |zero=>intro n k suf p w _ _ _ _ _ h;omega
 | succ N ih=>
   intro n k suf p w hbw hn hp hkc hk hN;obtain⟨hpl,hnd,hp1⟩:=at_drop hp;obtain⟨c0,c1,c2,c3,c4,c5⟩:=fsx (hn p hpl);rw[hnd]at c0 c1 c2 c3 c4 c5;simp only[Nd.cell,Nat.add_zero]at c0 c1 c2 c3 c4 c5;have hFit:Fits n k.count:=by
    have:=hfit n (by rw[<-hnd,List.getD,Lr hpl];exact List.getElem_mem _);rw[hkc]at this;simpa using this
   have hkl:k.flat.length<=ns.length:=by
    have:(ns.drop (p+1)).length=k.flat.length+suf.length:=je;rw[List.length_drop]at this;omega
   have hkk:=Fo.count_le k;rw[hkc]at c5;have HI:O (∀(n:Nd) (k:Fo) (suf:List Nd) (p:Nat) (w:World),_):=ih;have HN:O (NodesAt w b off ns):=hn;refine zb76 ?_;intro H1 Hk len hlen Hlen;rw[hlen]at hm hpl hkl |-;obtain⟨kc,hkcc⟩:∃kc,k.count=kc:=⟨_,rfl⟩
   have Hkc:O (k.count=kc):=hkcc;rw[hkcc]at c5 hkk hFit hkc;have HFit:O (Fits n kc):=hFit;have HP:O (len<=300/\p<len/\k.flat.length<=len/\kc<=k.flat.length/\k.flat.length<N+1):=⟨hm,hpl,hkl,hkk,hN⟩
   have hkb:kc<=6:=by rcases fits_cases hFit with h|h|h|h|h<;>omega
   clear ih hn hp hp1 hk hnd hlen hkcc hm hkl hkk hN hFit hfit;obtain⟨kd,num,a,bb,cc,kids⟩:=n;dsimp only at*;subst hkc;have hmk:=run_make_row' (P:=prog) 119 49 .nilIface 16 underlying119 info_form rfl .i64 .i64 kc ya ya;go_enter func54,ntmps54
   go_wp2_with fail
   rw[z30 jf];clear c0 c1 c2 c3 c4 c5 hmk;generalize hp1:p+1=p1;have HP1:O (p+1=p1):=hp1;clear hp1
   go_loopw [1,20] (fun q i wr=> ∃(q' i':Nat) (r g:Fo) (us:List Value) (f:Nat->Value),q=int i64 q'/\i=int i64 i'/\O (ns.drop q'= r.flat++suf/\r.wf/\i'+ r.count=kc/\r.flat.length<N+1/\q'+ r.flat.length=p1+k.flat.length/\k=g.app r/\Forms (w.heap.size+2) wr g us/\us.length=i'/\ ∀j,j<i'->us[j]?=some (f j))/\wr.rowIs (w.heap.size+1) 49 kc f/\wr.heap[w.heap.size]?=some (.cells #[int i64 kd,int i64 num,.string a,.string bb,.string cc,int i64 kc] 68)/\Below w.heap.size w wr) (fun _ i _=>kc-(intOf i).toNat)
   case atStart=>
    refine⟨p1,0,k,.none,[],fun _=> .nilIface,rfl,rfl,⟨by rw[<-HP1.o];exact H1.o,Hk.o,jg,HP.o.2.2.2.2,rfl,rfl,rfl,rfl,fun j hj=>absurd hj (Nat.not_lt_zero _)⟩,?_,?_,?_⟩
    .have:=World.rowIs_made (w.alloc (.cells #[int i64 kd,int i64 num,.string a,.string bb,.string cc,int i64 kc] 68)) .nilIface kc 49;simpa using this
    .rw[Below.heap_alloc _ _ _ yq];exact(Ld w _).1
    .exact(Lb.alloc La _).alloc yq _
   case round=>
    obtain⟨q',i',r,g,us,f,rfl,rfl,HR,hrow,eA,hnx⟩:=hrel;have hltA:=z13 eA
    cases r with
    | none=>
      obtain⟨_,_,h1,_,h5,h6,h7,h8,h9⟩:=HR.o;simp only[Fo.count,Fo.flat,Lm,Nat.add_zero]at h1 h5;rw[Fo.app_none]at h6;subst h6 h1;obtain⟨a0,a1,a2,a3,a4,a5⟩:=fcl6 eA;have HH:O (Forms (w.heap.size+2) wr k us/\us.length=i'/\(∀j,j<i'->us[j]?=some (f j))/\q'= p1+k.flat.length):=⟨h7,h8,h9,h5⟩
      clear HR h5 h7 h8 h9;go_wp2_with fail
      obtain⟨h7,h8,h9,h5⟩:=HH.o;have hS:=formOf_calls ⟨kd,num,a,bb,cc,(i':Int)⟩ (w.heap.size+1) i' us (.slice (some ⟨w.heap.size+1,0,none⟩) i' i') wr (fun _=>by rw[h8]) (fun _=>hrow.lt)
       (fun j hj=>by rw[hrow.cell ya,h9 j ya]) h7.ifaces (by rw[h8];exact HFit.o) ya
      have HS:O (Calls _ _ _ _ _):=hS;clear hS h5 h7 h8 h9;refine HS.o.mono ?_;rintro e w4 ⟨v,rfl,hv,hb4⟩;have hb5:=hnx.trans (hb4.mono hnx.size);have HV:O (Shape (w.heap.size+1) w4 ⟨kd,num,a,bb,cc,(i':Int)⟩ us v/\Below wr.heap.size wr w4):=⟨hv,hb4⟩
      clear hv hb4 a0 a1 a2 a3 a4 a5 HS;go_wp2_with fail
      refine bodyPost_ret (results_tmp2 (fn:=Tryz.f54) rfl _ _ _) rfl ⟨v,us,?_,?_,?_,hb5⟩
      .have e:p+1+k.flat.length=q':= by rw[HP1.o,HH.o.2.2.2]
       rw[e];rfl
      .exact Forms.kept ya HV.o.2.size (fun _ _ h=>HV.o.2.cell h) HH.o.1
      .exact HV.o.1.kept ya La (fun _ _ _=>rfl)
    | tree n' k' r'=>
      obtain⟨h0,hw,h1,h3,h5,h6,h7,h8,h9⟩:=HR.o;obtain⟨hw0,hw1,hw2⟩:=hw;simp only[Fo.count,Fo.flat,Ll,Lk]at h1 h3 h5;simp only[Fo.flat,Ln,Lo]at h0;obtain⟨hql,hqn,hq1⟩:=at_drop h0;have hnw:NodesAt wr b off ns:=HN.o.below hnx hbw;have hnew:=drop_past hq1;have hIH:=HI.o n' k' (r'.flat++suf) q' wr jh hnw h0 hw0 hw1 ya;rw[Hlen.o]at hIH;have HC:O (Calls _ _ _ _ _):=hIH;have hi:(i':Int)<(kc:Int):=ya
      have HX:O (ns.drop (q'+ 1+k'.flat.length)=r'.flat++suf/\r'.wf/\i'+ 1+r'.count=kc/\r'.flat.length<N+1/\q'+ 1+k'.flat.length+r'.flat.length=p1+k.flat.length/\k=(g.app (.tree n' k' .none)).app r'/\Forms (w.heap.size+2) wr g us/\us.length=i'/\ ∀j,j<i'->us[j]?=some (f j)):=
       ⟨hnew,hw2,ya,ya,ya,by rw[h6];exact Fo.app_snoc _ _ _ _,h7,h8,h9⟩
      clear HR h0 hw0 hw1 hw2 hql hqn hq1 hnw hnew hIH h1 h3 h5 h6 h7 h8 h9;generalize q'+ 1+k'.flat.length=ee at*;go_wp2_with fail
      refine HC.o.mono ?_;rintro e w3 ⟨v,us',rfl,hF3,hS3,hb3⟩;obtain⟨T,pv,rfl⟩:=hS3.iface;have hrow3:w3.rowIs (w.heap.size+1) 49 kc f:=hrow.of_block (hb3.block _ hrow.lt);have hc3:=hrow3.cell (i:=i') ya;have hz3:=hrow3.frozen i';have eA3:=(hb3.block w.heap.size hltA).trans eA;have hnx3:=hnx.trans (hb3.mono hnx.size);have HF3:O (Forms wr.heap.size w3 k' us'/\Shape wr.heap.size w3 n' us' (.iface T pv)):=⟨hF3,hS3⟩
      have HB3:O (Below wr.heap.size wr w3):=hb3;clear hF3 hS3 hb3;go_wp2_with fail
      obtain⟨x1,x2,x3,x4,x5,x6,x7,x8,x9⟩:=HX.o;have hbig:w.heap.size+2<=wr.heap.size:=hrow.lt;have hsz:w3.heap.size<=(w3.setCell ⟨w.heap.size+1,i',none⟩ (.iface T pv)).heap.size:=((Below.refl 0 w3).setCell (Li _) _).size;have hcell:∀ad:Addr,ad.block≠w.heap.size+1->(w3.setCell ⟨w.heap.size+1,i',none⟩ (.iface T pv)).cell? ad=w3.cell? ad:=fun ad h=>Lj (w:=w3) (Lg w3 _ _ ad.block h)
      have y1:Forms (w.heap.size+2) (w3.setCell ⟨w.heap.size+1,i',none⟩ (.iface T pv)) g us:=Forms.kept La (Lf HB3.o.size hsz) (fun ad h1 h2=>by rw[hcell ad ya];exact HB3.o.cell h2) x7;have y2:Forms (w.heap.size+2) (w3.setCell ⟨w.heap.size+1,i',none⟩ (.iface T pv)) k' us':= Forms.kept hbig hsz (fun ad h1 h2=>hcell ad ya) HF3.o.1;have y3:Shape (w.heap.size+2) (w3.setCell ⟨w.heap.size+1,i',none⟩ (.iface T pv)) n' us' (.iface T pv):=Shape.kept HF3.o.2 hbig hsz (fun ad h1 h2=>hcell ad ya)
      refine⟨⟨ee,i'+ 1,r',g.app (.tree n' k' .none),us++ [.iface T pv],_,rfl,rfl,⟨x1,x2,x3,x4,x5,x6,Forms.app (g:=.tree n' k' .none) ⟨_,us',[],rfl,y2,y3,rfl⟩ y1,by rw[Lk,x8];rfl,?_⟩,hrow3.set i' _,?_,hnx3.setCell yq _⟩,z55 hi⟩
      .intro j hj;by_cases hji:j=i'
       .rw[if_pos hji,hji,List.getElem?_append_right ya,x8,Nat.sub_self];rfl
       .rw[if_neg hji,List.getElem?_append_left ya];exact x9 j ya
      .rw[Lg _ _ _ _ yq];exact eA3
end
section
open Go.RowKit
def role (pk:Int) (i:Nat):Nat:=if pk=23\/pk=24 then (if 2<i then 2 else i) else 0
def ok26 (n:Nd):Bool:=!(n.kind==26 && n.b.toList==n.c.toList)
def headOk (n:Nd) (c:Nat):Bool:=((n.kind==25)==(c==1)) && ((n.kind==26)==(c==2)) && ok26 n
def isIn (ops:List ByteArray) (s:ByteArray):Bool:=ops.any (fun x=>x.toList==s.toList)
def specKids:Fo->Int->Nat->List ByteArray->Bool
 |.none,_,_,_=>true
 |.tree n k r,pk,i,ops=>headOk n (role pk i) && (specKids k n.kind 0 [] && (if role pk i=2 then !isIn ops n.a && specKids r pk (i+1) (ops++ [n.a]) else specKids r pk (i+1) ops))
def clauseZ (k:Int):Int:=if k=25\/k=26 then k else 0
def wantedZ (pk:Int) (i:Nat):Int:=if ¬ (pk=23\/pk=24)\/i=0 then 0 else if i=1 then 25 else 26
def implKids:Fo->Int->Nat->List ByteArray->Bool
 |.none,_,_,_=>true
 |.tree n _ r,pk,i,ops=>(clauseZ n.kind==wantedZ pk i) && (!isIn ops n.a && implKids r pk (i+1) (if n.kind=26 then ops++ [n.a] else ops))
def implAll:Fo->Bool
 |.none=>true
 |.tree n k r=>implKids k n.kind 0 [] && (implAll k && implAll r)
theorem role_le (pk:Int) (i:Nat):role pk i<=2:=by
 unfold role;split<;>(try split)<;>omega
theorem role_next {pk:Int}{i:Nat}(h:role pk i=2):role pk (i+1)=2:=by
 unfold role at*;split at h
 .rename_i hp;rw[if_pos hp];split at h<;>split<;>omega
 .omega
theorem wanted_role (pk:Int) (i:Nat):wantedZ pk i=if role pk i=1 then 25 else if role pk i=2 then 26 else 0:=by
 unfold wantedZ role;by_cases hp:pk=23\/pk=24
 .simp only[hp,not_true_eq_false,false_or,if_true];by_cases h0:i=0
  .simp[h0]
  .by_cases h1:i=1
   .simp[h1]
   .have h2:(if 2<i then 2 else i)=2:=by split<;>omega
    simp[h0,h1,h2]
 .simp[hp]
theorem head_eq (n:Nd) (pk:Int) (i:Nat) (h:ok26 n=true):headOk n (role pk i)=(clauseZ n.kind==wantedZ pk i):=by
 have hr:=role_le pk i;rw[wanted_role,headOk,h,Bool.and_true];unfold clauseZ;generalize role pk i=c at*;have hc:c=0\/c=1\/c=2:=ya;by_cases h5:n.kind=25
 .rw[h5];rcases hc with rfl|rfl|rfl<;>rfl
 .by_cases h6:n.kind=26
  .rw[h6];rcases hc with rfl|rfl|rfl<;>rfl
  .have e5:(n.kind==25)=false:=by rw[beq_eq_false_iff_ne];exact h5
   have e6:(n.kind==26)=false:=by rw[beq_eq_false_iff_ne];exact h6
   rw[e5,e6,if_neg ya];rcases hc with rfl|rfl|rfl<;>rfl
theorem head_op {c:Nat}(h:headOk n c=true):n.kind=26↔c=2:=by
 simp only[headOk,Lq,beq_iff_eq]at h;have:=h.1.2;constructor
 .intro hk;rw[hk]at this;simpa using this
 .intro hc;rw[hc]at this;simpa using this
theorem clauses_eq:∀(f:Fo) (pk:Int) (i:Nat) (ops:List ByteArray),f.flat.all ok26=true->(ops= []\/role pk i=2)->specKids f pk i ops=(implKids f pk i ops && implAll f)
 |.none,_,_,_,_,_=>rfl
 | .tree n k r,pk,i,ops,ha,ho=>by
   simp only[Fo.flat,List.all_cons,List.all_append,Lq]at ha;obtain⟨hn,hk,hr⟩:=ha;simp only[specKids,implKids,implAll];rw[clauses_eq k n.kind 0 [] hk (Or.inl rfl),<-head_eq n pk i hn]
   cases hh:headOk n (role pk i) with
   |false=>simp
   | true=>
     have hop:=head_op hh;by_cases hc:role pk i=2
     .rw[if_pos hc,if_pos (hop.2 hc),clauses_eq r pk (i+1) _ hr (Or.inr (role_next hc))]
      cases isIn ops n.a<;>cases implKids k n.kind 0 []<;>cases implAll k<;>cases implAll r<;>cases implKids r pk (i+1) (ops++ [n.a])<;>rfl
     .have he:ops= []:=ho.resolve_right hc;subst he;rw[if_neg hc,if_neg (fun x=>hc (hop.1 x)),clauses_eq r pk (i+1) _ hr (Or.inl rfl)];have:isIn [] n.a=false:=rfl;rw[this]
      cases implKids k n.kind 0 []<;>cases implAll k<;>cases implAll r<;>cases implKids r pk (i+1) []<;>rfl
theorem spec_unlike:∀(f:Fo) (pk:Int) (i:Nat) (ops:List ByteArray),specKids f pk i ops=true->f.flat.all ok26=true
 |.none,_,_,_,_=>rfl
 | .tree n k r,pk,i,ops,h=>by
   simp only[specKids,Lq]at h;obtain⟨h1,h2,h3⟩:=h;have e1:ok26 n=true:=by
    simp only[headOk,Lq]at h1;exact h1.2
   have e2:=spec_unlike k _ _ _ h2;have e3:r.flat.all ok26=true:=by
    split at h3
    .simp only[Lq]at h3;exact spec_unlike r _ _ _ h3.2
    .exact spec_unlike r _ _ _ h3
   simp only[Fo.flat,List.all_cons,List.all_append,e1,e2,e3,Bool.and_self]
def specTree (n:Nd) (k:Fo) (c:Nat):Bool:=headOk n c && specKids k n.kind 0 []
def implTree (n:Nd) (k:Fo):Bool:=(clauseZ n.kind==0) && (implKids k n.kind 0 [] && implAll k)
theorem trees_eq (n:Nd) (k:Fo):specTree n k 0=(implTree n k && (n::k.flat).all ok26):=by
 unfold specTree implTree;rw[List.all_cons]
 cases hn:ok26 n with
 |false=>simp[headOk,hn]
 | true=>
   have e:headOk n 0=(clauseZ n.kind==0):=head_eq n 0 0 hn;rw[e]
   cases hk:k.flat.all ok26 with
   | true=>
     rw[clauses_eq k n.kind 0 [] hk (Or.inl rfl)];simp
   | false=>
     have:specKids k n.kind 0 []=false:=by
      cases hs:specKids k n.kind 0 [] with
      |false=>rfl
      |true=>rw[spec_unlike k _ _ _ hs]at hk;cases hk
     rw[this];simp
def strs (ops:List ByteArray):List Value:=ops.map Value.string
theorem isIn_calls (B:Nat) (v:Value) (ops:List ByteArray) (s:ByteArray) (w:World) (hl:ops.length<=1000000) (hown:w.ownsRow B 9 1 v ops.length (strs ops)) :
 Calls prog 69 #[v,.string s] w fun e w'=> e=.returned (.bool (isIn ops s))/\w=w':= by
 cases ops with
 | nil=>
   obtain⟨a,c,rfl⟩:∃a c,v=.slice a 0 c:=by
    rcases hown.2 with ⟨h,_⟩|⟨g,c,cur,h,_⟩
    .exact⟨none,0,h⟩
    .exact⟨_,_,h⟩
   clear hown;go_enter func69,ntmps69
   go_wp2_with fail
   go_loop [5] (fun i=>i=int i64 0) (fun _=>0)
   case atStart=>rfl
   case round=>
    subst hrel;go_wp2_with fail
    go_ret;exact⟨rfl,rfl⟩
 | cons x r=>
   obtain⟨g,c,rfl⟩:∃g c,v=.slice (some ⟨g,0,none⟩) (x::r).length c:=by
    rcases hown.2 with ⟨_,h⟩|⟨g,c,cur,h,_⟩
    .simp at h
    .exact⟨_,_,h⟩
   refine(in_calls g 0 (x::r).length c (x::r) s w La hl (fun j hj=>?_)).mono ?_
   .rw[Nat.zero_add,hown.cellAt j ya];rw[strs,List.getElem?_map,Lr hj,List.getD,Lr hj];rfl
   .rintro e w' ⟨rfl,rfl⟩;exact⟨by rw[List.take_length];rfl,rfl⟩
theorem clauses_bad (b off len cap:Nat) (n:Nd) (k:Fo) (p c:Nat) (w:World) (hpl:p<len)
 (c0:w.cell? ⟨b,off+p*6,none⟩=some (int i64 n.kind)) (c1:w.cell? ⟨b,off+p*6+1,none⟩=some (int i64 n.num)) (c2:w.cell? ⟨b,off+p*6+2,none⟩=some (.string n.a))
 (c3:w.cell? ⟨b,off+p*6+3,none⟩=some (.string n.b)) (c4:w.cell? ⟨b,off+p*6+4,none⟩=some (.string n.c)) (c5:w.cell? ⟨b,off+p*6+5,none⟩=some (int i64 n.kids)) (hc:c<=2) (hh:headOk n c=false) :
 Calls prog 65 #[.slice (some ⟨b,off,none⟩) len cap,int i64 p,int i64 c] w fun e w'=> e=.returned (.bool (specTree n k c))/\Below w.heap.size w w':= by
 have HO:O (specTree n k c=false):=by show _=_;rw[specTree,hh];rfl
 obtain⟨kd,num,a,bb,cc,kids⟩:=n;dsimp only at*;have hc3:c=0\/c=1\/c=2:=ya;by_cases h5:kd=25
 .subst h5;rcases hc3 with rfl|rfl|rfl
  all_goals first
   |(exfalso;simp[headOk,ok26]at hh;done)
   | (clear hh hc
      go_enter func65,ntmps65
      go_wp2_with fail
      go_ret;exact⟨ji,Lb.alloc La _⟩)
 .by_cases h6:kd=26
  .subst h6;clear h5;rcases hc3 with rfl|rfl|rfl
   .clear hh hc;go_enter func65,ntmps65
    go_wp2_with fail
    go_ret;exact⟨ji,Lb.alloc La _⟩
   .clear hh hc;go_enter func65,ntmps65
    go_wp2_with fail
    go_ret;exact⟨ji,Lb.alloc La _⟩
   ·have h4:(bb.toList==cc.toList)=true:=by
     simp[headOk,ok26]at hh;simpa using hh
    clear hh hc;go_enter func65,ntmps65
    go_wp2_with fail
    go_ret;exact⟨ji,Lb.alloc La _⟩
  .have k5:(kd==25)=false:=by rw[beq_eq_false_iff_ne];exact h5
   have k6:(kd==26)=false:=by rw[beq_eq_false_iff_ne];exact h6
   rcases hc3 with rfl|rfl|rfl
   .exfalso;simp[headOk,ok26,k5,k6]at hh
   all_goals
    clear hh hc h5 h6;go_enter func65,ntmps65
    go_wp2_with fail
    go_ret;exact⟨ji,Lb.alloc La _⟩
end
end Go.Proofs.YtbbffkiobmbkfaaGreatDoor
