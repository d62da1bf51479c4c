import Derived.Test.YtfbojelpdccjaaaGreatDoorPkB0
import Derived.Test.YtfbojelpdccjaaaGreatDoorRows
import Derived.WalkKit
import Derived.ProofKit
import Derived.Laws.AppendOwn
import Derived.Deep.QuietTactic
import Derived.BigQuiet
set_option maxHeartbeats 4000000
set_option maxRecDepth 100000
namespace Go.Proofs.YtfbojelpdccjaaaGreatDoor
open Go.RowKit
variable {us : List Value} {B B' b : Nat} {n : Nd} {v x y : Value} {w w' : World}
section
open Go.RowKit
def tab (l : List Int) (k : Int) (other : Int) : Int:=if k < 1∨26 < k then other else l.getD k.toNat 0
def arityZ (k : Int) : Int:=tab [0,0,0,0,0,0,1,2,2,2,3,2,2,2,2,2,2,1,1,2,3,1,1,-2,-2,1,1] k (-1)
def namesZ (k : Int) : Int:=tab [0,0,0,0,0,1,1,0,1,2,0,0,0,0,0,0,0,0,0,0,2,0,1,0,0,1,3] k 0
def mostZ (k : Int) : Int:=tab [0,999999999,1,0,0,0,0,0,0,0,0,0,0,0,0,0,0,0,0,0,0,0,0,0,0,0,0] k 0
theorem kinds (k : Int) : k=1∨k=2∨k=3∨k=4∨k=5∨k=6∨k=7∨k=8∨k=9∨k=10∨k=11∨k=12∨k=13∨k=14∨k=15∨k=16∨k=17∨k=18∨k=19∨k=20∨k=21∨k=22∨k=23∨k=24∨k=25∨k=26∨(k < 1∨26 < k):=by omega
theorem tab_other {l : List Int} {k o : Int} (h : k < 1∨26 < k) : tab l k o=o:=by rw [tab,if_pos h]
theorem arity_calls (k : Int) (w : World) : Calls Tryz.prog 86 #[.int .i64 k] w fun e w'=> e= .returned (.int .i64 (arityZ k))∧w=w':= by
 rcases kinds k with rfl | rfl | rfl | rfl | rfl | rfl | rfl | rfl | rfl | rfl | rfl | rfl | rfl | rfl | rfl | rfl | rfl | rfl | rfl | rfl | rfl | rfl | rfl | rfl | rfl | rfl | h
 all_goals try (
  go_enter Tryz.func86,Tryz.ntmps86
  go_wp2
  go_ret;exact⟨rfl,rfl⟩)
 have e : arityZ k= -1:=tab_other h;rw [e];go_enter Tryz.func86,Tryz.ntmps86
 go_wp2
 go_ret;exact⟨rfl,rfl⟩
theorem names_calls (k : Int) (w : World) : Calls Tryz.prog 87 #[.int .i64 k] w fun e w'=> e= .returned (.int .i64 (namesZ k))∧w=w':= by
 rcases kinds k with rfl | rfl | rfl | rfl | rfl | rfl | rfl | rfl | rfl | rfl | rfl | rfl | rfl | rfl | rfl | rfl | rfl | rfl | rfl | rfl | rfl | rfl | rfl | rfl | rfl | rfl | h
 all_goals try (
  go_enter Tryz.func87,Tryz.ntmps87
  go_wp2
  go_ret;exact⟨rfl,rfl⟩)
 have e : namesZ k=0:=tab_other h;rw [e];go_enter Tryz.func87,Tryz.ntmps87
 go_wp2
 go_ret;exact⟨rfl,rfl⟩
def leastZ (k : Int) : Int:=if arityZ k= -2 then 2 else arityZ k
def greatZ (k : Int) : Int:=if arityZ k= -2 then 6 else arityZ k
def shapeVal (k : Int) : Value:=
 if k < 1∨26 < k then .tuple #[.agg #[.int .i64 0,.int .i64 0,.int .i64 0,.int .i64 0],.bool false]
 else .tuple #[.agg #[.int .i64 (namesZ k),.int .i64 (mostZ k),.int .i64 (leastZ k),.int .i64 (greatZ k)],.bool true]
theorem shape_calls (k : Int) (w : World) : Calls Tryz.prog 113 #[.int .i64 k] w fun e w'=> e= .returned (shapeVal k)∧Below w.heap.size w w':= by
 rcases kinds k with rfl | rfl | rfl | rfl | rfl | rfl | rfl | rfl | rfl | rfl | rfl | rfl | rfl | rfl | rfl | rfl | rfl | rfl | rfl | rfl | rfl | rfl | rfl | rfl | rfl | rfl | h
 all_goals try (
  go_enter Tryz.func113,Tryz.ntmps113
  go_wp2
  refine bodyPost_ret (v:=shapeVal _) (by simp [results,Tryz.results113,go_sem]; rfl) rfl ⟨rfl,?_⟩;repeat (first | exact Below.refl _ _ | refine Below.alloc ?_ (by first | (simp; done) | (simp; omega)) _))
 have e : shapeVal k= .tuple #[.agg #[.int .i64 0,.int .i64 0,.int .i64 0,.int .i64 0],.bool false]:=by rw [shapeVal,if_pos h]
 rw [e];go_enter Tryz.func113,Tryz.ntmps113
 go_wp2
 refine bodyPost_ret (v:= .tuple #[.agg #[.int .i64 0,.int .i64 0,.int .i64 0,.int .i64 0],.bool false]) (by simp [results,Tryz.results113,go_sem]) rfl ⟨rfl,?_⟩;repeat (first | exact Below.refl _ _ | refine Below.alloc ?_ (by first | (simp; done) | (simp; omega)) _)
theorem z42 {a : World} (h : Below B a w) (n : Nat) : Below B a (w.drewN n):=h.trans ⟨rfl,rfl,rfl,Nat.le_refl _,fun _ _=>rfl⟩
theorem z8 {a : Array Value} {t : TypeId} (h : w.heap[b]? =some (.cells a t)) (i : Nat) : w.cell? ⟨b,i,none⟩=a[i]? :=by
 simp [World.cell?,h]
theorem z12 {a : Array Value} {t : TypeId} (h : w.heap[b]? =some (.cells a t)) (i : Nat) : w.frozen? ⟨b,i,none⟩=false:=by
 simp [World.frozen?,h]
theorem fcl2 {t : TypeId} (h : w.heap[b]? =some (.cells #[x,y] t)) : w.cell? ⟨b,0,none⟩=some x∧w.cell? ⟨b,1,none⟩=some y:=⟨z8 h 0,z8 h 1⟩
theorem fcl3 {z : Value} {t : TypeId} (h : w.heap[b]? =some (.cells #[x,y,z] t)) : w.cell? ⟨b,0,none⟩=some x∧w.cell? ⟨b,1,none⟩=some y∧w.cell? ⟨b,2,none⟩=some z:=⟨z8 h 0,z8 h 1,z8 h 2⟩
theorem fcl6 {z u s : Value} {t : TypeId} (h : w.heap[b]? =some (.cells #[x,y,z,u,v,s] t)) : w.cell? ⟨b,0,none⟩=some x∧w.cell? ⟨b,1,none⟩=some y∧w.cell? ⟨b,2,none⟩=some z∧w.cell? ⟨b,3,none⟩=some u∧w.cell? ⟨b,4,none⟩=some v∧w.cell? ⟨b,5,none⟩=some s:=⟨z8 h 0,z8 h 1,z8 h 2,z8 h 3,z8 h 4,z8 h 5⟩
theorem ffz2 {c : Array Value} {t : TypeId} (h : w.heap[b]? =some (.cells c t)) : w.frozen? ⟨b,0,none⟩=false∧w.frozen? ⟨b,1,none⟩=false:=⟨z12 h 0,z12 h 1⟩
theorem ffz6 {c : Array Value} {t : TypeId} (h : w.heap[b]? =some (.cells c t)) : w.frozen? ⟨b,0,none⟩=false∧w.frozen? ⟨b,1,none⟩=false∧w.frozen? ⟨b,2,none⟩=false∧w.frozen? ⟨b,3,none⟩=false∧w.frozen? ⟨b,4,none⟩=false∧w.frozen? ⟨b,5,none⟩=false:=⟨z12 h 0,z12 h 1,z12 h 2,z12 h 3,z12 h 4,z12 h 5⟩
theorem fsx {P : Nat→Prop} (h : ∀ c,c < 6→P c) : P 0∧P 1∧P 2∧P 3∧P 4∧P 5:=⟨h 0 (by decide),h 1 (by decide),h 2 (by decide),h 3 (by decide),h 4 (by decide),h 5 (by decide)⟩
theorem z13 {o : Obj} (h : w.heap[b]? =some o) : b < w.heap.size:=(Array.getElem?_eq_some_iff.1 h).1
theorem one_kept {w2 : World} {o : Obj} (h : Below (w.alloc o).heap.size (w.alloc o) w2) : w2.heap[w.heap.size]? =some o∧Below w.heap.size w w2:=by
 have s1 : (w.alloc o).heap.size=w.heap.size+1:=by simp
 exact⟨(h.block _ (by rw [s1]; omega)).trans (MapKept.heap_alloc w _).1,((Below.refl _ _).alloc (Nat.le_refl _) _).trans (h.mono (by rw [s1]; omega))⟩
theorem grown_of_below (h : Below w.heap.size w w') (row : Option Nat) : w.grownBy w' row:=⟨h.os,h.tape,h.output,h.size,fun k hk _=>h.block k hk⟩
theorem z30 {base : Nat} {e : TypeId} {size : Nat} {n : Nat} {xs : List Value} (h : w.ownsRow base e size v n xs) (hb : Below w.heap.size w w') : w'.ownsRow base e size v n xs:=
 h.kept (grown_of_below hb none) (by cases hv : v.ownBlock <;> simp)
def RowAt (B : Nat) (w : World) (sl : Value) (us : List Value) : Prop:=
 ∃ g o cap,sl= .slice (some ⟨g,o,none⟩) us.length cap∧B≤g∧g < w.heap.size∧ ∀ j,j < us.length→w.cell? ⟨g,o+j,none⟩=us[j]?
inductive Shape (B : Nat) (w : World) : Nd→List Value→Value→Prop
 | int {num : Int} {a b c : ByteArray} {kids : Int} : Shape B w ⟨1,num,a,b,c,kids⟩ [] (.iface 152 (.agg #[.int .i64 num]))
 | bool {num : Int} {a b c : ByteArray} {kids : Int} : Shape B w ⟨2,num,a,b,c,kids⟩ [] (.iface 153 (.agg #[.int .i64 num]))
 | unit {num : Int} {a b c : ByteArray} {kids : Int} : Shape B w ⟨3,num,a,b,c,kids⟩ [] (.iface 155 (.agg #[]))
 | nil {num : Int} {a b c : ByteArray} {kids : Int} : Shape B w ⟨4,num,a,b,c,kids⟩ [] (.iface 156 (.agg #[]))
 | var {num : Int} {a b c : ByteArray} {kids : Int} : Shape B w ⟨5,num,a,b,c,kids⟩ [] (.iface 158 (.agg #[.string a]))
 | fn {num : Int} {a b c : ByteArray} {kids : Int} {u : Value} : Shape B w ⟨6,num,a,b,c,kids⟩ [u] (.iface 135 (.agg #[.string a,u]))
 | app {num : Int} {a b c : ByteArray} {kids : Int} {u v : Value} : Shape B w ⟨7,num,a,b,c,kids⟩ [u,v] (.iface 160 (.agg #[u,v]))
 | bind {num : Int} {a b c : ByteArray} {kids : Int} {u v : Value} : Shape B w ⟨8,num,a,b,c,kids⟩ [u,v] (.iface 162 (.agg #[.string a,u,v]))
 | recur {num : Int} {a b c : ByteArray} {kids : Int} {u v : Value} : Shape B w ⟨9,num,a,b,c,kids⟩ [u,v] (.iface 164 (.agg #[.string a,.string b,u,v]))
 | cond {num : Int} {a b c : ByteArray} {kids : Int} {u v x : Value} : Shape B w ⟨10,num,a,b,c,kids⟩ [u,v,x] (.iface 166 (.agg #[u,v,x]))
 | sign {k num : Int} {a b c : ByteArray} {kids : Int} {u v : Value} (h : k=11∨k=12∨k=13∨k=14∨k=15) : Shape B w ⟨k,num,a,b,c,kids⟩ [u,v] (.iface 183 (.agg #[.int .i64 k,u,v]))
 | pair {num : Int} {a b c : ByteArray} {kids : Int} {u v : Value} : Shape B w ⟨16,num,a,b,c,kids⟩ [u,v] (.iface 168 (.agg #[u,v]))
 | take {k num : Int} {a b c : ByteArray} {kids : Int} {u : Value} (h : k=17∨k=18∨k=21) : Shape B w ⟨k,num,a,b,c,kids⟩ [u] (.iface 170 (.agg #[.int .i64 k,u]))
 | cons {num : Int} {a b c : ByteArray} {kids : Int} {u v : Value} : Shape B w ⟨19,num,a,b,c,kids⟩ [u,v] (.iface 172 (.agg #[u,v]))
 | case {num : Int} {a b c : ByteArray} {kids : Int} {u v x : Value} : Shape B w ⟨20,num,a,b,c,kids⟩ [u,v,x] (.iface 174 (.agg #[u,v,.string a,.string b,x]))
 | perform {num : Int} {a b c : ByteArray} {kids : Int} {u : Value} : Shape B w ⟨22,num,a,b,c,kids⟩ [u] (.iface 176 (.agg #[.string a,u]))
 | handler {k num : Int} {a b c : ByteArray} {kids : Int} {u sl : Value} {us : List Value} (h : k=23∨k=24) (hs : RowAt B w sl us) (hl : us.length≤1500) : Shape B w ⟨k,num,a,b,c,kids⟩ (u::us) (.iface 178 (.agg #[.int .i64 k,u,sl]))
 | ret {num : Int} {a b c : ByteArray} {kids : Int} {u : Value} : Shape B w ⟨25,num,a,b,c,kids⟩ [u] (.iface 179 (.agg #[.string a,u]))
 | op {num : Int} {a b c : ByteArray} {kids : Int} {u : Value} : Shape B w ⟨26,num,a,b,c,kids⟩ [u] (.iface 181 (.agg #[.string a,.string b,.string c,u]))
def Forms (B : Nat) (w : World) : Fo→List Value→Prop
 | .none,vs=>vs= []
 | .tree n k r,vs=> ∃ v us rest,vs=v::rest∧Forms B w k us∧Shape B w n us v∧Forms B w r rest
theorem RowAt.kept {sl : Value} (h : RowAt B w sl us) (hB : B'≤B) (hs : w.heap.size≤w'.heap.size) (hc : ∀ a : Addr,B≤a.block→a.block < w.heap.size→w'.cell? a=w.cell? a) : RowAt B' w' sl us:=by
 obtain⟨g,o,cap,e,h1,h2,h3⟩:=h;refine⟨g,o,cap,e,Nat.le_trans hB h1,Nat.lt_of_lt_of_le h2 hs,fun j hj=>?_⟩;rw [hc ⟨g,o+j,none⟩ h1 h2];exact h3 j hj
theorem Shape.kept (h : Shape B w n us v) (hB : B'≤B) (hs : w.heap.size≤w'.heap.size) (hc : ∀ a : Addr,B≤a.block→a.block < w.heap.size→w'.cell? a=w.cell? a) : Shape B' w' n us v:=by
 cases h with
 | int=>exact .int
 | bool=>exact .bool
 | unit=>exact .unit
 | nil=>exact .nil
 | var=>exact .var
 | fn=>exact .fn
 | app=>exact .app
 | bind=>exact .bind
 | recur=>exact .recur
 | cond=>exact .cond
 | sign h=>exact .sign h
 | pair=>exact .pair
 | take h=>exact .take h
 | cons=>exact .cons
 | case=>exact .case
 | perform=>exact .perform
 | handler h h1 h2=>exact .handler h (h1.kept hB hs hc) h2
 | ret=>exact .ret
 | op=>exact .op
theorem Forms.kept (hB : B'≤B) (hs : w.heap.size≤w'.heap.size) (hc : ∀ a : Addr,B≤a.block→a.block < w.heap.size→w'.cell? a=w.cell? a) : ∀ {f : Fo} {vs : List Value},Forms B w f vs→Forms B' w' f vs
 | .none,_,h=>h
 | .tree _ _ _,_,⟨v,us,rest,e,h1,h2,h3⟩=>⟨v,us,rest,e,Forms.kept hB hs hc h1,h2.kept hB hs hc,Forms.kept hB hs hc h3⟩
theorem Forms.below {f : Fo} {vs : List Value} (h : Forms B w f vs) (hb : Below w.heap.size w w') : Forms B w' f vs:=
 Forms.kept (Nat.le_refl _) hb.size (fun _ _ ha=>hb.cell ha) h
theorem Shape.below (h : Shape B w n us v) (hb : Below w.heap.size w w') : Shape B w' n us v:=
 h.kept (Nat.le_refl _) hb.size (fun _ _ ha=>hb.cell ha)
theorem Forms.length : ∀ {f : Fo} {vs : List Value},Forms B w f vs→vs.length=f.count
 | .none,_,h=>by rw [show _= [] from h]; rfl
 | .tree _ _ _,_,⟨_,_,_,e,_,_,h3⟩=>by rw [e,List.length_cons,Forms.length h3]; rfl
def Fits (n : Nd) (m : Nat) : Prop:=leastZ n.kind≤m∧(m : Int)≤greatZ n.kind∧1≤n.kind∧n.kind≤26
theorem below_draws (B : Nat) (w : World) (n : Nat) : Below B w (w.drewN n):=⟨rfl,rfl,rfl,Nat.le_refl _,fun _ _=>rfl⟩
theorem len0 (h : us.length=0) : us= []:=List.eq_nil_of_length_eq_zero h
theorem len1 (h : us.length=1) : ∃ u,us= [u]:=by
 match us,h with
 | [u],_=>exact⟨u,rfl⟩
theorem len2 (h : us.length=2) : ∃ u v,us= [u,v]:=by
 match us,h with
 | [u,v],_=>exact⟨u,v,rfl⟩
theorem len3 (h : us.length=3) : ∃ u v x,us= [u,v,x]:=by
 match us,h with
 | [u,v,x],_=>exact⟨u,v,x,rfl⟩
def nodeVal (n : Nd) : Value:= .agg #[.int .i64 n.kind,.int .i64 n.num,.string n.a,.string n.b,.string n.c,.int .i64 n.kids]
def FormPost (n : Nd) (G : Nat) (us : List Value) (w : World) (e : Ending) (w' : World) : Prop:=
 ∃ v,e= .returned v∧Shape G w' n us v∧Below w.heap.size w w'
theorem formOf_leaf (n : Nd) (G : Nat) (sv : Value) (w : World) (h : n.kind=1∨n.kind=2∨n.kind=3∨n.kind=4∨n.kind=5) :
 Calls Tryz.prog 81 #[nodeVal n,sv] w (FormPost n G [] w):=by
 obtain⟨k,num,a,b,c,kids⟩:=n;unfold nodeVal;dsimp only at*;rcases h with rfl | rfl | rfl | rfl | rfl
 all_goals
  go_enter Tryz.func81,Tryz.ntmps81
  go_wp2_with fail
  go_ret;exact⟨_,rfl,by constructor,(Below.refl _ _).alloc (Nat.le_refl _) _⟩
theorem formOf_one (n : Nd) (G cap : Nat) (T0 : TypeId) (p0 : Value) (w : World) (hG : G < w.heap.size) (h0 : w.cell? ⟨G,0,none⟩=some (.iface T0 p0))
 (h : n.kind=6∨n.kind=17∨n.kind=18∨n.kind=21∨n.kind=22∨n.kind=25∨n.kind=26) :
 Calls Tryz.prog 81 #[nodeVal n,.slice (some ⟨G,0,none⟩) 1 cap] w (FormPost n G [.iface T0 p0] w):=by
 obtain⟨k,num,a,b,c,kids⟩:=n;unfold nodeVal;dsimp only at*;rcases h with rfl | rfl | rfl | rfl | rfl | rfl | rfl
 all_goals
  go_enter Tryz.func81,Tryz.ntmps81
  go_wp2_with fail
  go_quiet (fail)
  go_wp2_with fail
  go_ret;exact⟨_,rfl,by constructor <;> simp,((Below.refl _ _).alloc (Nat.le_refl _) _).trans (below_draws _ _ _)⟩
theorem formOf_two (n : Nd) (G cap : Nat) (T0 T1 : TypeId) (p0 p1 : Value) (w : World) (hG : G < w.heap.size) (h0 : w.cell? ⟨G,0,none⟩=some (.iface T0 p0)) (h1 : w.cell? ⟨G,1,none⟩=some (.iface T1 p1))
 (h : n.kind=7∨n.kind=8∨n.kind=9∨n.kind=11∨n.kind=12∨n.kind=13∨n.kind=14∨n.kind=15∨n.kind=16∨n.kind=19) :
 Calls Tryz.prog 81 #[nodeVal n,.slice (some ⟨G,0,none⟩) 2 cap] w (FormPost n G [.iface T0 p0,.iface T1 p1] w):=by
 obtain⟨k,num,a,b,c,kids⟩:=n;unfold nodeVal;dsimp only at*;rcases h with rfl | rfl | rfl | rfl | rfl | rfl | rfl | rfl | rfl | rfl
 all_goals
  go_enter Tryz.func81,Tryz.ntmps81
  go_wp2_with fail
  go_quiet (fail)
  go_wp2_with fail
  go_ret;exact⟨_,rfl,by constructor <;> simp,((Below.refl _ _).alloc (Nat.le_refl _) _).trans (below_draws _ _ _)⟩
theorem formOf_three (n : Nd) (G cap : Nat) (T0 T1 T2 : TypeId) (p0 p1 p2 : Value) (w : World) (hG : G < w.heap.size) (h0 : w.cell? ⟨G,0,none⟩=some (.iface T0 p0)) (h1 : w.cell? ⟨G,1,none⟩=some (.iface T1 p1)) (h2 : w.cell? ⟨G,2,none⟩=some (.iface T2 p2))
 (h : n.kind=10∨n.kind=20) :
 Calls Tryz.prog 81 #[nodeVal n,.slice (some ⟨G,0,none⟩) 3 cap] w (FormPost n G [.iface T0 p0,.iface T1 p1,.iface T2 p2] w):=by
 obtain⟨k,num,a,b,c,kids⟩:=n;unfold nodeVal;dsimp only at*;rcases h with rfl | rfl
 all_goals
  go_enter Tryz.func81,Tryz.ntmps81
  go_wp2_with fail
  go_quiet (fail)
  go_wp2_with fail
  go_ret;exact⟨_,rfl,by constructor,((Below.refl _ _).alloc (Nat.le_refl _) _).trans (below_draws _ _ _)⟩
theorem formOf_handler (n : Nd) (G L cap : Nat) (T0 : TypeId) (p0 : Value) (us : List Value) (w : World) (hG : G < w.heap.size) (h0 : w.cell? ⟨G,0,none⟩=some (.iface T0 p0)) (hc : ∀ j,j < us.length→w.cell? ⟨G,1+j,none⟩=us[j]?)
 (hL : L=us.length+1) (hl : us.length≤5) (_hcap : L≤cap) (hcap2 : 2≤cap) (h : n.kind=23∨n.kind=24) :
 Calls Tryz.prog 81 #[nodeVal n,.slice (some ⟨G,0,none⟩) L cap] w (FormPost n G (.iface T0 p0::us) w):=by
 obtain⟨k,num,a,b,c,kids⟩:=n;unfold nodeVal;dsimp only at*;have hL1 : 1≤L:=by omega
 have HL : Hid (L=us.length+1):=hL;have HC : Hid (∀ j,j < us.length→w.cell? ⟨G,1+j,none⟩=us[j]?):=hc;clear hL hc;rcases h with rfl | rfl
 all_goals
  go_enter Tryz.func81,Tryz.ntmps81
  go_wp2_with fail
  go_quiet (fail)
  go_wp2_with fail
  go_ret;have e : L - 1=us.length:=by have:=HL.out; omega
  have hb : ∀ o q,Below w.heap.size w ((w.alloc o).drewN q):=fun o q=>((Below.refl _ _).alloc (Nat.le_refl _) _).trans (below_draws _ _ _)
  refine⟨_,rfl,Shape.handler (by simp) ?_ (Nat.le_trans hl (by decide)),hb _ _⟩;show RowAt G _ (.slice (some ⟨G,1,none⟩) (L - 1) (cap - 1)) us;rw [e];refine⟨G,1,cap - 1,rfl,Nat.le_refl _,Nat.lt_of_lt_of_le hG (hb _ _).size,fun j hj=>?_⟩;rw [← HC.out j hj];exact (hb _ _).cell (p:=⟨G,1+j,none⟩) hG
theorem fits_cases {m : Nat} (h : Fits n m) :
 (m=0∧(n.kind=1∨n.kind=2∨n.kind=3∨n.kind=4∨n.kind=5))∨
 (m=1∧(n.kind=6∨n.kind=17∨n.kind=18∨n.kind=21∨n.kind=22∨n.kind=25∨n.kind=26))∨
 (m=2∧(n.kind=7∨n.kind=8∨n.kind=9∨n.kind=11∨n.kind=12∨n.kind=13∨n.kind=14∨n.kind=15∨n.kind=16∨n.kind=19))∨
 (m=3∧(n.kind=10∨n.kind=20))∨
 (2≤m∧m≤6∧(n.kind=23∨n.kind=24)):=by
 obtain⟨h1,h2,h3,h4⟩:=h;rcases kinds n.kind with h | h | h | h | h | h | h | h | h | h | h | h | h | h | h | h | h | h | h | h | h | h | h | h | h | h | h
 all_goals try (
  rw [h] at h1 h2;simp [leastZ,greatZ,arityZ,tab] at h1 h2;omega)
 omega
theorem formOf_calls (n : Nd) (G cap : Nat) (us : List Value) (sv : Value) (w : World) (hsv : us≠ []→sv= .slice (some ⟨G,0,none⟩) us.length cap) (hG : us≠ []→G < w.heap.size)
 (hc : ∀ j,j < us.length→w.cell? ⟨G,j,none⟩=us[j]?) (hi : ∀ u∈us,∃ T p,u= .iface T p) (hf : Fits n us.length) (hcap : us.length≤cap) :
 Calls Tryz.prog 81 #[nodeVal n,sv] w (FormPost n G us w):=by
 rcases fits_cases hf with ⟨hm,hk⟩ | ⟨hm,hk⟩ | ⟨hm,hk⟩ | ⟨hm,hk⟩ | ⟨hm,hm',hk⟩
 ·have:=len0 hm;subst this;exact formOf_leaf n G sv w hk
 ·obtain⟨u,rfl⟩:=len1 hm;obtain⟨T0,p0,rfl⟩:=hi u (by simp);rw [hsv (by simp)];exact formOf_one n G cap T0 p0 w (hG (by simp)) (hc 0 (by simp)) hk
 ·obtain⟨u,v,rfl⟩:=len2 hm;obtain⟨T0,p0,rfl⟩:=hi u (by simp);obtain⟨T1,p1,rfl⟩:=hi v (by simp);rw [hsv (by simp)];exact formOf_two n G cap T0 T1 p0 p1 w (hG (by simp)) (hc 0 (by simp)) (hc 1 (by simp)) hk
 ·obtain⟨u,v,x,rfl⟩:=len3 hm;obtain⟨T0,p0,rfl⟩:=hi u (by simp);obtain⟨T1,p1,rfl⟩:=hi v (by simp);obtain⟨T2,p2,rfl⟩:=hi x (by simp);rw [hsv (by simp)];exact formOf_three n G cap T0 T1 T2 p0 p1 p2 w (hG (by simp)) (hc 0 (by simp)) (hc 1 (by simp)) (hc 2 (by simp)) hk
 ·match us,hm,hm' with
  | u::us',hm,hm'=>
    obtain⟨T0,p0,rfl⟩:=hi u (by simp);rw [hsv (by simp)];simp only [List.length_cons] at hm hm' hcap;refine formOf_handler n G _ cap T0 p0 us' w (hG (by simp)) (hc 0 (by simp)) (fun j hj=>?_) rfl (by omega) hcap (by omega) hk;have:=hc (1+j) (by simp; omega);rw [this,Nat.add_comm 1 j];simp
theorem at_drop {ns : List Nd} {p : Nat} {r : List Nd} (h : ns.drop p=n::r) : p < ns.length∧ns.getD p default=n∧ns.drop (p+1)=r:=by
 have hp : p < ns.length:=by
  have : (ns.drop p).length=r.length+1:=by rw [h]; rfl
  rw [List.length_drop] at this;omega
 rw [drop_at hp] at h;exact⟨hp,(List.cons.inj h).1,(List.cons.inj h).2⟩
theorem drop_past {ns : List Nd} {p : Nat} {a r : List Nd} (h : ns.drop p=a++r) : ns.drop (p+a.length)=r:=by
 rw [← List.drop_drop,h,List.drop_left'];rfl
theorem z17 {x : Nat} (h : x≤1048576) : wrap64 ((x : Int)+1)=((x+1 : Nat) : Int):=by
 unfold wrap64;omega
theorem z45 {i kc : Nat} (h : (i : Int) < (kc : Int)) : kc - (intOf (.int .i64 ((i+1 : Nat) : Int))).toNat < kc - (intOf (.int .i64 (i : Int))).toNat:=by
 simp only [intOf,Int.toNat_natCast];omega
theorem deep_calls (b off cap : Nat) (ns : List Nd) (hm : ns.length≤1048576) : ∀ (N : Nat) (n : Nd) (k : Fo) (suf : List Nd) (p : Nat) (w : World),NodesAt w b off ns→ns.drop p=n::(k.flat++suf)→n.kids=k.count→k.wf→k.flat.length < N→
 Calls Tryz.prog 35 #[.slice (some ⟨b,off,none⟩) ns.length cap,.int .i64 p] w fun e w'=> e= .returned (.int .i64 ((k.deep+1 : Nat) : Int))∧w=w':= by
 intro N;induction N with
 | zero=>intro n k suf p w _ _ _ _ h; omega
 | succ N ih=>
   intro n k suf p w hn hp hkc hk hN;obtain⟨hpl,hnd,hp1⟩:=at_drop hp;have hkl : k.flat.length≤ns.length:=by
    have : (ns.drop (p+1)).length=k.flat.length+suf.length:=by rw [hp1,List.length_append]
    rw [List.length_drop] at this;omega
   have hkd:=Fo.deep_le k;have hkk:=Fo.count_le k;have c5:=hn p hpl 5 (by omega);rw [hnd] at c5;simp only [Nd.cell] at c5;rw [hkc] at c5;have HI : Hid (∀ (n : Nd) (k : Fo) (suf : List Nd) (p : Nat) (w : World),_):=ih;have HN : Hid (NodesAt w b off ns):=hn;have HE : Hid (∀ at_ : Int,_):=fun at_=>z57 b off cap ns at_ w hn hm
   have H1 : Hid (ns.drop (p+1)=k.flat++suf):=hp1;have Hk : Hid k.wf:=hk;obtain⟨len,hlen⟩ : ∃ len,ns.length=len:=⟨_,rfl⟩
   have Hlen : Hid (ns.length=len):=hlen;rw [hlen] at hm hpl hkl ⊢;clear ih hn hp hp1 hk hnd hlen hkc;obtain⟨kc,hkc⟩ : ∃ kc,k.count=kc:=⟨_,rfl⟩
   obtain⟨kd,hkd'⟩ : ∃ kd,k.deep=kd:=⟨_,rfl⟩
   have Hkc : Hid (k.count=kc):=hkc;have Hkd : Hid (k.deep=kd):=hkd';rw [hkc] at c5 hkk;rw [hkd'] at hkd ⊢;have HP : Hid (len≤1048576∧p < len∧k.flat.length≤len∧kc≤k.flat.length∧kd≤k.flat.length∧k.flat.length < N+1):=⟨hm,hpl,hkl,hkk,hkd,hN⟩
   clear hkc hkd' hm hkl hkk hkd hN;go_enter Tryz.func35,Tryz.ntmps35
   go_wp2_with fail
   go_loop [5,6,7] (fun m q i=> ∃ (m' q' i' : Nat) (r : Fo),m= .int .i64 m'∧q= .int .i64 q'∧i= .int .i64 i'∧Hid (ns.drop q'= r.flat++suf∧r.wf∧i'+ r.count=kc∧max m' r.deep=kd∧r.flat.length < N+1)) (fun _ _ i=>kc - (intOf i).toNat)
   case atStart=>exact⟨0,p+1,0,k,rfl,by rw [z17 (by have:=HP.out; omega)],rfl,H1.out,Hk.out,by rw [Hkc.out]; omega,by rw [Hkd.out]; omega,HP.out.2.2.2.2.2⟩
   case round=>
    obtain⟨m',q',i',r,rfl,rfl,rfl,HR⟩:=hrel
    cases r with
    | none=>
      obtain⟨_,_,h1,h2,_⟩:=HR.out;simp only [Fo.count,Fo.deep] at h1 h2;have h1' : i'= kc:=by omega
      have h2' : m'= kd:=by omega
      subst h1' h2';clear HR h1 h2;go_wp2_with fail
      go_ret;exact⟨by rw [z17 (by have:=HP.out; omega)]; rfl,rfl⟩
    | tree n' k' r'=>
      obtain⟨h0,hw,h1,h2,h3⟩:=HR.out;obtain⟨hw0,hw1,hw2⟩:=hw;simp only [Fo.count,Fo.deep,Fo.flat,List.length_cons,List.length_append] at h1 h2 h3;simp only [Fo.flat,List.cons_append,List.append_assoc] at h0;obtain⟨hql,hqn,hq1⟩:=at_drop h0;have hend : Hid (treeEnd ns q'= _):=treeEnd_at h0 hw0 hw1;have hIH:=HI.out n' k' (r'.flat++suf) q' w HN.out h0 hw0 hw1 (by omega);have hEn:=HE.out q';rw [hend.out] at hEn;rw [Hlen.out] at hEn hIH hql;have hnew:=drop_past hq1;have hkd2:=Fo.deep_le k';have HC : Hid (Calls _ _ _ _ _):=hIH;have HT : Hid (Calls _ _ _ _ _):=hEn
      have Hnew : Hid (ns.drop (q'+ 1+k'.flat.length)=r'.flat++suf∧r'.wf∧i'+ 1+r'.count=kc∧r'.flat.length < N+1):=⟨hnew,hw2,by omega,by omega⟩
      have hi : (i' : Int) < (kc : Int):=by omega
      have H2 : Hid (max m' (max (k'.deep+1) r'.deep)=kd):=h2;clear h1 h2 h3 hqn hkd2 hIH hEn HR hnew h0 hw0 hw1 hw2 hq1 hend HI HE HN Hkc Hkd H1 Hk Hlen;clear hql;generalize k'.deep+1=dd at*;generalize q'+ 1+k'.flat.length=ee at*;by_cases hgt : (m' : Int) < (dd : Int)
      ·go_wp2_with (first | (go_at_call 35; refine HC.out.mono ?_; rintro e w2 ⟨rfl,rfl⟩) | (go_at_call 48; refine HT.out.mono ?_; rintro e w2 ⟨rfl,rfl⟩))
       have hi9 : i'≤1048576:=by have:=HP.out; omega
       rw [z17 hi9];exact⟨⟨dd,ee,i'+ 1,r',rfl,rfl,rfl,Hnew.out.1,Hnew.out.2.1,Hnew.out.2.2.1,by have:=H2.out; omega,Hnew.out.2.2.2⟩,z45 hi⟩
      ·go_wp2_with (first | (go_at_call 35; refine HC.out.mono ?_; rintro e w2 ⟨rfl,rfl⟩) | (go_at_call 48; refine HT.out.mono ?_; rintro e w2 ⟨rfl,rfl⟩))
       have hi9 : i'≤1048576:=by have:=HP.out; omega
       rw [z17 hi9];exact⟨⟨m',ee,i'+ 1,r',rfl,rfl,rfl,Hnew.out.1,Hnew.out.2.1,Hnew.out.2.2.1,by have:=H2.out; omega,Hnew.out.2.2.2⟩,z45 hi⟩
end
end Go.Proofs.YtfbojelpdccjaaaGreatDoor
