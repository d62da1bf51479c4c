import Derived.Test.YtfbojelpdccjaaaGreatDoorPkB1
import Derived.Test.YtfbojelpdccjaaaGreatDoorPkB33
import Derived.Test.YtfbojelpdccjaaaGreatDoorPkB34
set_option maxHeartbeats 4000000
set_option maxRecDepth 100000
namespace Go.Proofs.YtfbojelpdccjaaaGreatDoor
open Go.RowKit Go.Deep
variable {l : List UInt8} {hi lo : Nat} {n : Nd} {t : Tr} {v : Value}
section
open Go.RowKit Go.Deep
def FmAt (lo hi : Nat) (W : World) (t : Tr) (v : Value) : Prop:=
 ∃ W0 : World,Forms lo W0 (.tree t.1 t.2 .none) [v]∧W0.heap.size=hi∧hi≤W.heap.size∧ ∀ a : Addr,lo≤a.block→a.block < hi→W.cell? a=W0.cell? a
theorem FmAt.forms {W : World} (h : FmAt lo hi W t v) : Forms lo W (.tree t.1 t.2 .none) [v]:=by
 obtain⟨W0,h1,rfl,h2,h3⟩:=h;exact Forms.kept (Nat.le_refl _) h2 h3 h1
theorem FmAt.top {W : World} (h : FmAt lo hi W t v) : hi≤W.heap.size:=by
 obtain⟨W0,h1,rfl,h2,h3⟩:=h;exact h2
theorem FmAt.keep {W W' : World} (h : FmAt lo hi W t v) (hs : hi≤W'.heap.size) (hk : ∀ q,lo≤q→q < hi→W'.heap[q]? =W.heap[q]?) : FmAt lo hi W' t v:=by
 obtain⟨W0,h1,h2,h3,h4⟩:=h;exact⟨W0,h1,h2,hs,fun a ha hb=>(World.cell?_of_block (hk _ ha hb)).trans (h4 a ha hb)⟩
theorem FmAt.of {X : World} (h : Forms lo X (.tree t.1 t.2 .none) [v]) : FmAt lo X.heap.size X t v:=⟨X,h,rfl,Nat.le_refl _,fun _ _ _=>rfl⟩
structure Fr where
 lo : Nat
 hi : Nat
 t : Tr
 v : Value
theorem forms_list {lo : Nat} {X : World} : ∀ (l : List Fr),(∀ x∈l,FmAt x.lo x.hi X x.t x.v∧lo≤x.lo)→Forms lo X (foL (l.map Fr.t)) (l.map Fr.v)
 | [],_=>rfl
 | x::r,h=>by
   obtain⟨v,us,rest,e,h1,h2,h3⟩:=(h x (by simp)).1.forms;obtain⟨rfl,rfl⟩ : x.v=v∧rest= []:=by simp at e; exact e
   have hl:=(h x (by simp)).2;exact⟨x.v,us,r.map Fr.v,rfl,Forms.kept hl (Nat.le_refl _) (fun _ _ _=>rfl) h1,h2.kept hl (Nat.le_refl _) (fun _ _ _=>rfl),forms_list r (fun y hy=>h y (by simp [hy]))⟩
structure St (d : Dr) (ws : List Wd) (ad : Option Addr) (cp sz : Nat) (W : World) (bx : List (Nat×Array Value×TypeId)) (fs : List Fr) (i : Nat) (X : World) : Prop where
 rd : RdAt d ws ad cp sz i X
 gr : Grew d W X
 hB : d.B < W.heap.size
 wd : ∀ b,ad=some ⟨b,0,none⟩→b < W.heap.size
 bxs : ∀ b∈bx,X.heap[b.1]? =some (.cells b.2.1 b.2.2)∧W.heap.size≤b.1
 nd : (bx.map Prod.fst).Nodup
 fss : ∀ x∈fs,FmAt x.lo x.hi X x.t x.v∧W.heap.size≤x.lo∧ ∀ b∈bx,b.1 < x.lo∨x.hi≤b.1
def faultV (ws : List Wd) (sz j : Nat) : Value:= .agg #[.int .i64 5,.int .i64 (curI ws sz j).at_]
def faultAt (ws : List Wd) (sz j : Nat) : PanicEntry:= { v:= .iface 31 (faultV ws sz j),recovered:=false }
def PostX {α : Type} (d : Dr) (ws : List Wd) (ad : Option Addr) (cp sz : Nat) (Q : α→Ending→World→Prop) (r : Except Nat (α×Nat)) (W : World) (e : Ending) (W' : World) : Prop:=match r with
 | .error j=>e= .panicked [faultAt ws sz j]∧Grew d W W'
 | .ok x=>Q x.1 e W'∧RdAt d ws ad cp sz x.2 W'∧Grew d W W'
def QT (W : World) (t : Tr) (e : Ending) (W' : World) : Prop:= ∃ T p,e= .returned (.iface T p)∧FmAt W.heap.size W'.heap.size W' t (.iface T p)
abbrev PostT (d : Dr) (ws : List Wd) (ad : Option Addr) (cp sz : Nat) (r : Except Nat (Tr×Nat)) (W : World) : Ending→World→Prop:=PostX d ws ad cp sz (QT W) r W
abbrev PostS (d : Dr) (ws : List Wd) (ad : Option Addr) (cp sz : Nat) (r : Except Nat (ByteArray×Nat)) (W : World) : Ending→World→Prop:=PostX d ws ad cp sz (fun t e _=>e= .returned (.string t)) r W
abbrev PostU (d : Dr) (ws : List Wd) (ad : Option Addr) (cp sz : Nat) (r : Except Nat (Unit×Nat)) (W : World) : Ending→World→Prop:=PostX d ws ad cp sz (fun _ e _=> ∃ v,e= .returned v) r W
abbrev PostN' (d : Dr) (ws : List Wd) (ad : Option Addr) (cp sz : Nat) (r : Except Nat (Int×Nat)) (W : World) : Ending→World→Prop:=PostX d ws ad cp sz (fun n e _=>e= .returned (.int .i64 n)) r W
section
variable {d : Dr} {ws : List Wd} {ad : Option Addr} {cp sz : Nat} {W X X' : World} {bx : List (Nat×Array Value×TypeId)} {fs : List Fr} {i k : Nat}
theorem z22 {α : Type} {Q : α→Ending→World→Prop} {r : Except Nat (α×Nat)} {e : Ending} (h : PostX d ws ad cp sz Q r W e X) : (∃ j,r= .error j∧e= .panicked [faultAt ws sz j]∧Grew d W X)∨ ∃ a k,r= .ok (a,k)∧Q a e X∧RdAt d ws ad cp sz k X∧Grew d W X:=by
 unfold PostX at h
 cases r with
 | error j=>exact Or.inl ⟨j,rfl,h.1,h.2⟩
 | ok x=>exact Or.inr ⟨x.1,x.2,rfl,h.1,h.2.1,h.2.2⟩
theorem St.start (h : RdAt d ws ad cp sz i W) : St d ws ad cp sz W [] [] i W:=
 ⟨h,Grew.refl d W,z13 h.blk,h.row,fun b hb=>(by cases hb),List.nodup_nil,fun x hx=>(by cases hx)⟩
theorem St.go (h : St d ws ad cp sz W bx fs i X) (hr : RdAt d ws ad cp sz k X') (hg : Grew d X X') : St d ws ad cp sz W bx fs k X':= by
 have hB:=h.hB;refine⟨hr,h.gr.trans hg,hB,h.wd,fun b hb=>?_,h.nd,fun x hx=>?_⟩
 ·obtain⟨h1,h2⟩:=h.bxs b hb;exact⟨(hg.block _ ⟨z13 h1,by omega,by rw [hr.eq]; omega⟩).trans h1,h2⟩
 ·obtain⟨h1,h2,h3⟩:=h.fss x hx;have:=h1.top;have:=hg.size;exact⟨h1.keep (by omega) (fun q hq hq'=> hg.block q ⟨by omega,by omega,by rw [hr.eq]; omega⟩),h2,h3⟩
theorem St.below (h : St d ws ad cp sz W bx fs i X) (hb : Below X.heap.size X X') : St d ws ad cp sz W bx fs i X':= h.go (h.rd.below hb) (Grew.of_below hb)
theorem St.form (h : St d ws ad cp sz W bx fs i X) (hr : RdAt d ws ad cp sz k X') (hg : Grew d X X') (hf : FmAt X.heap.size X'.heap.size X' t v) : St d ws ad cp sz W bx (⟨X.heap.size,X'.heap.size,t,v⟩::fs) k X':= by
 have h':= h.go hr hg;refine⟨h'.rd,h'.gr,h'.hB,h'.wd,h'.bxs,h'.nd,fun x hx=>?_⟩;rcases List.mem_cons.1 hx with rfl | hx
 ·exact⟨hf,h.gr.size,fun b hb=>Or.inl (z13 (h.bxs b hb).1)⟩
 ·exact h'.fss x hx
theorem St.alloc (h : St d ws ad cp sz W bx fs i X) (c : Array Value) (t : TypeId) : St d ws ad cp sz W ((X.heap.size,c,t)::bx) fs i (X.alloc (.cells c t)):=by
 have h':= h.below ((Below.refl _ _).alloc (Nat.le_refl _) (.cells c t));refine⟨h'.rd,h'.gr,h'.hB,h'.wd,fun b hb=>?_,List.nodup_cons.2 ⟨fun hm=>?_,h'.nd⟩,fun x hx=>?_⟩
 ·rcases List.mem_cons.1 hb with rfl | hb
  ·exact⟨(MapKept.heap_alloc X _).1,h.gr.size⟩
  ·exact h'.bxs b hb
 ·obtain⟨b,hb,e⟩:=List.mem_map.1 hm;have:=z13 (h.bxs b hb).1;have e' : b.1=X.heap.size:=e;omega
 ·obtain⟨h1,h2,h3⟩:=h'.fss x hx;refine⟨h1,h2,fun b hb=>?_⟩;rcases List.mem_cons.1 hb with rfl | hb
  ·exact Or.inr (h.fss x hx).1.top
  ·exact h3 b hb
theorem St.put {g : Nat} {c : Array Value} {t : TypeId} (h : St d ws ad cp sz W ((g,c,t)::bx) fs i X) (j : Nat) (v : Value) : St d ws ad cp sz W ((g,c.setIfInBounds j v,t)::bx) fs i (X.setCell ⟨g,j,none⟩ v):=by
 obtain⟨hg,hW⟩:=h.bxs _ (List.mem_cons_self ..);have hB:=h.hB;dsimp only at hg hW;have hne : g≠d.B:=by omega
 have hblk : ∀ q,q≠g→(X.setCell ⟨g,j,none⟩ v).heap[q]? =X.heap[q]? :=fun q hq=>Below.heap_setCell X ⟨g,j,none⟩ v q hq
 have hs : (X.setCell ⟨g,j,none⟩ v).heap.size=X.heap.size:=by simp [World.setCell]
 have hgr : Grew d W (X.setCell ⟨g,j,none⟩ v):=by
  refine⟨h.gr.os,h.gr.tape,h.gr.output,by rw [hs]; exact h.gr.size,fun q hq=>(hblk q (by have:=hq.1; omega)).trans (h.gr.block q hq)⟩
 have hbx:=h.nd;rw [List.map_cons,List.nodup_cons] at hbx;refine⟨h.rd.other hne j v (fun b e=>by have:=h.wd b e; omega),hgr,hB,h.wd,fun b hb=>?_,?_,fun x hx=>?_⟩
 ·rcases List.mem_cons.1 hb with rfl | hb
  ·exact⟨z33 v hg,hW⟩
  ·obtain⟨h1,h2⟩:=h.bxs b (List.mem_cons_of_mem _ hb);exact⟨(hblk _ (fun e=>hbx.1 (List.mem_map.2 ⟨b,hb,e⟩))).trans h1,h2⟩
 ·rw [List.map_cons,List.nodup_cons];exact hbx
 ·obtain⟨h1,h2,h3⟩:=h.fss x hx;have h4:=h3 _ (List.mem_cons_self ..);dsimp only at h4;refine⟨h1.keep (by rw [hs]; exact h1.top) (fun q hq hq'=> hblk q (by omega)),h2,fun b hb=>?_⟩;rcases List.mem_cons.1 hb with rfl | hb
  ·exact h4
  ·exact h3 b (List.mem_cons_of_mem _ hb)
theorem put_size (X : World) (g j : Nat) (v : Value) : X.heap.size=(X.setCell ⟨g,j,none⟩ v).heap.size:=by simp [World.setCell]
theorem St.drop {b : Nat×Array Value×TypeId} (h : St d ws ad cp sz W (b::bx) fs i X) : St d ws ad cp sz W bx fs i X:=by
 have hn:=h.nd;rw [List.map_cons,List.nodup_cons] at hn;exact⟨h.rd,h.gr,h.hB,h.wd,fun x hx=>h.bxs x (List.mem_cons_of_mem _ hx),hn.2,fun x hx=>⟨(h.fss x hx).1,(h.fss x hx).2.1,fun y hy=>(h.fss x hx).2.2 y (List.mem_cons_of_mem _ hy)⟩⟩
theorem St.box {g : Nat} {c : Array Value} {t : TypeId} (h : St d ws ad cp sz W ((g,c,t)::bx) fs i X) : X.heap[g]? =some (.cells c t):=(h.bxs _ (List.mem_cons_self ..)).1
theorem St.node (h : St d ws ad cp sz W bx fs i X) (l : List Fr) (hl : ∀ x∈l,x∈fs) (hs : Shape W.heap.size X (n.with_ (l.map Fr.t).length) (l.map Fr.v) v) : FmAt W.heap.size X.heap.size X (mkT n (l.map Fr.t)) v:=
 FmAt.of ⟨v,l.map Fr.v,[],rfl,forms_list l (fun x hx=>⟨(h.fss x (hl x hx)).1,(h.fss x (hl x hx)).2.1⟩),hs,rfl⟩
theorem St.mk0 (h : St d ws ad cp sz W bx fs i X) (hs : Shape W.heap.size X (n.with_ 0) [] v) : FmAt W.heap.size X.heap.size X (mkT n []) v:=
 h.node [] (fun x hx=>by cases hx) hs
theorem St.mk1 (h : St d ws ad cp sz W bx fs i X) {a : Fr} (ha : a∈fs) (hs : Shape W.heap.size X (n.with_ 1) [a.v] v) : FmAt W.heap.size X.heap.size X (mkT n [a.t]) v:=
 h.node [a] (fun x hx=>by simp at hx; subst hx; exact ha) hs
theorem St.mk2 (h : St d ws ad cp sz W bx fs i X) {a b : Fr} (ha : a∈fs) (hb : b∈fs) (hs : Shape W.heap.size X (n.with_ 2) [a.v,b.v] v) : FmAt W.heap.size X.heap.size X (mkT n [a.t,b.t]) v:=
 h.node [a,b] (fun x hx=>by simp at hx; rcases hx with rfl | rfl; exact ha; exact hb) hs
theorem St.mk3 (h : St d ws ad cp sz W bx fs i X) {a b c : Fr} (ha : a∈fs) (hb : b∈fs) (hc : c∈fs) (hs : Shape W.heap.size X (n.with_ 3) [a.v,b.v,c.v] v) : FmAt W.heap.size X.heap.size X (mkT n [a.t,b.t,c.t]) v:=
 h.node [a,b,c] (fun x hx=>by simp at hx; rcases hx with rfl | rfl | rfl; exact ha; exact hb; exact hc) hs
theorem St.same (h : St d ws ad cp sz W bx fs i X) {a : Fr} (ha : a∈fs) : FmAt W.heap.size X.heap.size X a.t a.v:=
 FmAt.of (Forms.kept (h.fss a ha).2.1 (Nat.le_refl _) (fun _ _ _=>rfl) (h.fss a ha).1.forms)
theorem St.err (h : St d ws ad cp sz W bx fs i X) {α : Type} {Q : α→Ending→World→Prop} {R : Except Nat (α×Nat)} {j : Nat} (hR : .error j=R) (hg : Grew d X X') : PostX d ws ad cp sz Q R W (.panicked [faultAt ws sz j]) X':= by
 subst hR;exact⟨rfl,h.gr.trans hg⟩
theorem St.fin (h : St d ws ad cp sz W bx fs i X) {R : Except Nat (Tr×Nat)} {T : TypeId} {p : Value} (hR : .ok (t,i)=R) (hf : FmAt W.heap.size X.heap.size X t (.iface T p)) : PostT d ws ad cp sz R W (.returned (.iface T p)) X:=by
 subst hR;exact⟨⟨T,p,rfl,hf⟩,h.rd,h.gr⟩
theorem St.fold (h : St d ws ad cp sz W bx fs i X) (hf : FmAt W.heap.size X.heap.size X t v) : St d ws ad cp sz W [] [⟨W.heap.size,X.heap.size,t,v⟩] i X:=
 ⟨h.rd,h.gr,h.hB,h.wd,fun b hb=>(by cases hb),List.nodup_nil,fun x hx=>(by
  simp at hx;subst hx;exact⟨hf,Nat.le_refl _,fun b hb=>(by cases hb)⟩)⟩
end
section
variable {α β : Type} {ws : List Wd} {p q : PI α} {k : α→PI β} {i j : Nat} {a : α}
theorem bi_ok {R : Except Nat (β×Nat)} (h : bindI p k i=R) (hq : p i= .ok (a,j)) : k a j=R:=by
 unfold bindI at h;rw [hq] at h;exact h
theorem bi_er {R : Except Nat (β×Nat)} (h : bindI p k i=R) (hq : p i= .error j) : .error j=R:=by
 unfold bindI at h;rw [hq] at h;exact h
theorem oi_t {R : Except Nat (α×Nat)} (h : orI ws l p q i=R) (hz : seesI ws i l=true) : p (i+1)=R:=by
 unfold orI at h;rw [hz] at h;exact h
theorem oi_f {R : Except Nat (α×Nat)} (h : orI ws l p q i=R) (hz : seesI ws i l=false) : q i=R:=by
 unfold orI at h;rw [hz] at h;exact h
end
theorem z31 {ws : List Wd} (hw : BriefW ws) (ho : WordsOk ws) (f : Nat) {nt : Nt Tr} {nt' : Nt (List Nd)} (hn : NtR nt' nt) (hb : NtB nt') {i k : Nat} (hi : i≤ws.length) (h : ipz ws f nt i= .ok (t,k)) : i≤k∧k≤ws.length:=by
 have ha:=(parse_alike ho f hn).same i;rw [h] at ha;obtain⟨a,h1,-⟩:=ha;have hg:=goes_at hw f nt' hb (s:=⟨i,false⟩) hi;rw [h1] at hg;exact⟨hg.on,hg.lt⟩
theorem ip_atom {ws : List Wd} (hw : BriefW ws) (ho : WordsOk ws) (f : Nat) {i k : Nat} (hi : i≤ws.length) (h : ipz ws f .atom i= .ok (t,k)) : i < k:=by
 cases f with
 | zero=>cases h
 | succ f=>
   have h' : atomI ws (ipz ws f) i= .ok (t,k):=h;unfold atomI at h';by_cases hs : startsI ws i=true
   ·have ha:=(parse_alike ho (f+1) NtR.atom).same i;rw [h] at ha;obtain⟨a,h1,-⟩:=ha;obtain⟨c,h2,h3,-,h5⟩:=atom_m hw (part_m hw f) ⟨i,false⟩ hi;have h6:=h5 hs;have h7 : atomS ws (spz ws f) ⟨i,false⟩=(a,⟨k,false⟩):=h1;rw [h7] at h2;dsimp only at h2;omega
   ·rw [if_neg hs] at h'
    cases h'
def mi (ws : List Wd) (n i : Nat) : Nat:=16*(ws.length - i)+n
structure PiAll (d : Dr) (ws : List Wd) (ad : Option Addr) (cp sz : Nat) (f : Nat) : Prop where
 expr : ∀ i W,RdAt d ws ad cp sz i W→mi ws 11 i≤f→Calls Tryz.prog 57 #[.pointer (some ⟨d.B,0,none⟩)] W (PostT d ws ad cp sz (ipz ws f .expr i) W)
 cons : ∀ i W,RdAt d ws ad cp sz i W→mi ws 10 i≤f→Calls Tryz.prog 102 #[.pointer (some ⟨d.B,0,none⟩)] W (PostT d ws ad cp sz (ipz ws f .cons i) W)
 comp : ∀ i W,RdAt d ws ad cp sz i W→mi ws 9 i≤f→Calls Tryz.prog 124 #[.pointer (some ⟨d.B,0,none⟩)] W (PostT d ws ad cp sz (ipz ws f .comp i) W)
 sum : ∀ i W,RdAt d ws ad cp sz i W→mi ws 8 i≤f→Calls Tryz.prog 135 #[.pointer (some ⟨d.B,0,none⟩)] W (PostT d ws ad cp sz (ipz ws f .sum i) W)
 prod : ∀ i W,RdAt d ws ad cp sz i W→mi ws 6 i≤f→Calls Tryz.prog 142 #[.pointer (some ⟨d.B,0,none⟩)] W (PostT d ws ad cp sz (ipz ws f .prod i) W)
 call : ∀ i W,RdAt d ws ad cp sz i W→mi ws 4 i≤f→Calls Tryz.prog 145 #[.pointer (some ⟨d.B,0,none⟩)] W (PostT d ws ad cp sz (ipz ws f .call i) W)
 atom : ∀ i W,RdAt d ws ad cp sz i W→mi ws 2 i≤f→Calls Tryz.prog 151 #[.pointer (some ⟨d.B,0,none⟩)] W (PostT d ws ad cp sz (ipz ws f .atom i) W)
 hand : ∀ k i W,RdAt d ws ad cp sz i W→mi ws 12 i≤f→k=23∨k=24→Calls Tryz.prog 156 #[.pointer (some ⟨d.B,0,none⟩),.int .i64 k] W (PostT d ws ad cp sz (ipz ws f (.hand k) i) W)
theorem fld_0 (a : Int) (b : ByteArray) (c : Int) (w : World) : (Instr.field 76 (.agg #[.int .i64 a,.string b,.int .i64 c]) 0).run Tryz.prog w= .ok (.int .i64 a) w:=by kernel_rfl
theorem fld_1 (a : Int) (b : ByteArray) (c : Int) (w : World) : (Instr.field 76 (.agg #[.int .i64 a,.string b,.int .i64 c]) 1).run Tryz.prog w= .ok (.string b) w:=by kernel_rfl
theorem fld_2 (a : Int) (b : ByteArray) (c : Int) (w : World) : (Instr.field 76 (.agg #[.int .i64 a,.string b,.int .i64 c]) 2).run Tryz.prog w= .ok (.int .i64 c) w:=by kernel_rfl
section
variable {d : Dr} {ws : List Wd} {ad : Option Addr} {cp sz : Nat}
theorem sees_cur {i : Nat} (hl : l≠ []) : ((curI ws sz i).text.toList==l)=seesI ws i l:=by
 unfold curI seesI;by_cases hi : i < ws.length
 ·rw [if_pos hi,decide_eq_true hi,Bool.true_and]
 ·rw [if_neg hi,decide_eq_false hi,Bool.false_and];have:=no_bytes;rw [this]
  cases l with
  | nil=>exact absurd rfl hl
  | cons a l=>rfl
theorem peek_at {i : Nat} {W : World} {kd : Int} {tx : ByteArray} {wa : Nat} (h : RdAt d ws ad cp sz i W) (hc : curI ws sz i=⟨kd,tx,wa⟩) :
 Calls Tryz.prog 94 #[.pointer (some ⟨d.B,0,none⟩)] W fun e W'=> e= .returned (.agg #[.int .i64 kd,.string tx,.int .i64 (wa : Int)])∧Below W.heap.size W W':= by
 have hP:=peek_calls i W h;rw [hc] at hP;exact hP
theorem misfit_calls (i : Nat) (W : World) (h : RdAt d ws ad cp sz i W) :
 Calls Tryz.prog 58 #[.pointer (some ⟨d.B,0,none⟩)] W fun e W'=> e= .returned (faultV ws sz i)∧Below W.heap.size W W':= by
 have H:=hid h;unfold faultV;obtain⟨⟨kd,tx,wa⟩,hc⟩ : ∃ c,curI ws sz i=c:=⟨_,rfl⟩
 rw [hc];have HC:=hid hc;clear h hc;have hf:=fld_2 kd tx (wa : Int);go_enter Tryz.func58,Tryz.ntmps58
 go_wp2_with fail
 have hb:=(Below.refl W.heap.size W).alloc (Nat.le_refl _) (.cells #[.int .i64 0,.int .i64 0] 31);have hg:=(MapKept.heap_alloc W (.cells #[.int .i64 0,.int .i64 0] 31)).1;have HP:=hid (peek_at (H.out.below hb) HC.out);have HB:=hid hb;obtain⟨Y,hY⟩ : ∃ Y,W.alloc (.cells #[.int .i64 0,.int .i64 0] 31)=Y:=⟨_,rfl⟩
 rw [hY] at hg HP HB ⊢;obtain⟨g,hgg⟩ : ∃ g,W.heap.size=g:=⟨_,rfl⟩
 rw [hgg] at hg HB ⊢;have HF:=hid hgg;have HG:=hid hg;clear hb hg hY hgg;refine HP.out.mono ?_;rintro e X ⟨rfl,hb⟩;have HX:=hid ((hb.block _ (z13 HG.out)).trans HG.out);have HB:=hid (HB.out.trans (hb.mono (by have:=HB.out.size; have:=HF.out; omega)));clear hb HP;have g0:=z8 HX.out 0;have g1:=z8 HX.out 1;obtain⟨z0,z1⟩:=ffz2 HX.out;simp at g0 g1;go_wp2_with fail
 obtain⟨k0,k1⟩:=fcl2 (z33 (i:=1) (.int .i64 (wa : Int)) (z33 (i:=0) (.int .i64 5) HX.out));have hl:=(HB.out.setCell (p:=⟨g,0,none⟩) (Nat.le_refl _) (.int .i64 5)).setCell (p:=⟨g,1,none⟩) (Nat.le_refl _) (.int .i64 (wa : Int));refine bodyPost_ret (v:= .agg #[.int .i64 5,.int .i64 (wa : Int)]) (by simp [results,Tryz.results58,go_sem,k0,k1]) rfl ⟨rfl,?_⟩;rw [HF.out];exact hl
theorem misfit_at {i : Nat} {W : World} (h : RdAt d ws ad cp sz i W) (hv : faultV ws sz i=v) :
 Calls Tryz.prog 58 #[.pointer (some ⟨d.B,0,none⟩)] W fun e W'=> e= .returned v∧Below W.heap.size W W':= by
 subst hv;exact misfit_calls i W h
theorem sees_calls (i : Nat) (t : ByteArray) (l : List UInt8) (ht : t.toList=l) (hl : l≠ []) (W : World) (h : RdAt d ws ad cp sz i W) :
 Calls Tryz.prog 55 #[.pointer (some ⟨d.B,0,none⟩),.string t] W fun e W'=> e= .returned (.bool (seesI ws i l))∧Below W.heap.size W W':= by
 have H:=hid h;have hs:=sees_cur (ws:=ws) (sz:=sz) (i:=i) hl;obtain⟨⟨kd,tx,wa⟩,hc⟩ : ∃ c,curI ws sz i=c:=⟨_,rfl⟩
 rw [hc] at hs;rw [← hs];have HC:=hid hc;clear h hc hs;have hf:=fld_1 kd tx (wa : Int);go_enter Tryz.func55,Tryz.ntmps55
 go_wp2_with fail
 refine (peek_at H.out HC.out).mono ?_;rintro e X ⟨rfl,hb⟩;go_wp2_with fail
 go_ret;exact⟨rfl,hb⟩
theorem z37 {i : Nat} {t : ByteArray} {W : World} (h : RdAt d ws ad cp sz i W) (ht : t.toList=l) (hl : l≠ []) (hz : seesI ws i l=true) :
 Calls Tryz.prog 98 #[.pointer (some ⟨d.B,0,none⟩),.string t] W fun e W'=> e= .returned (.bool true)∧RdAt d ws ad cp sz (i+1) W'∧Grew d W W':= by
 have hS:=sees_calls i t l ht hl W h;rw [hz] at hS;have HS:=hid hS;have H:=hid h;have hlt : i < ws.length:=by unfold seesI at hz; simp at hz; exact hz.1
 have hw : wrap64 ((i : Int)+1)=((i+1 : Nat) : Int):=z17 (by have:=h.few; omega);have HW:=hid (And.intro hw hlt);clear h hS hz ht hl hw hlt;go_enter Tryz.func98,Tryz.ntmps98
 go_wp2_with fail
 refine HS.out.mono ?_;rintro e X ⟨rfl,hb⟩;have H1:=hid (H.out.below hb);have G1:=hid (Grew.of_below (d:=d) hb);have q1:=z8 H1.out.blk 1;have z1:=z12 H1.out.blk 1;simp at q1;clear hb;go_wp2_with fail
 go_ret;rw [HW.out.1];exact⟨rfl,H1.out.move (k:=i+1) HW.out.2,G1.out.trans (grew_set X 1 _)⟩
theorem z34 {i : Nat} {t : ByteArray} {W : World} (h : RdAt d ws ad cp sz i W) (ht : t.toList=l) (hl : l≠ []) (hz : seesI ws i l=false) :
 Calls Tryz.prog 98 #[.pointer (some ⟨d.B,0,none⟩),.string t] W fun e W'=> e= .returned (.bool false)∧RdAt d ws ad cp sz i W'∧Grew d W W':= by
 have hS:=sees_calls i t l ht hl W h;rw [hz] at hS;have HS:=hid hS;have H:=hid h;clear h hS hz ht hl;go_enter Tryz.func98,Tryz.ntmps98
 go_wp2_with fail
 refine HS.out.mono ?_;rintro e X ⟨rfl,hb⟩;go_wp2_with fail
 go_ret;exact⟨rfl,H.out.below hb,Grew.of_below hb⟩
theorem z41 (i : Nat) (W : World) (h : RdAt d ws ad cp sz i W) :
 Calls Tryz.prog 96 #[.pointer (some ⟨d.B,0,none⟩)] W (PostS d ws ad cp sz (nameI ws i) W):=by
 have H:=hid h;obtain⟨⟨kd,tx,wa⟩,hc⟩ : ∃ c,curI ws sz i=c:=⟨_,rfl⟩
 have HC:=hid hc;clear h hc;by_cases hk : kd=2
 ·have hlt : i < ws.length:=by
   have:=HC.out;unfold curI at this;split at this
   ·assumption
   ·simp at this; omega
  have hn : nameI ws i= .ok (tx,i+1):=by
   have h1:=HC.out;unfold curI at h1;rw [if_pos hlt] at h1;unfold nameI;rw [h1,if_pos ⟨hlt,hk⟩]
  subst hk;rw [hn];have hw : wrap64 ((i : Int)+1)=((i+1 : Nat) : Int):=z17 (by have:=H.out.few; omega);have HW:=hid (And.intro hw hlt);clear hn hlt hw;go_enter Tryz.func96,Tryz.ntmps96
  go_wp2_with fail
  refine (peek_at H.out HC.out).mono ?_;rintro e X ⟨rfl,hb⟩;have H1:=hid (H.out.below hb);have G1:=hid (Grew.of_below (d:=d) hb);clear hb;have p1:=z8 H1.out.blk 1;have z1:=z12 H1.out.blk 1;have hl:=z13 H1.out.blk;simp at p1;go_wp2_with fail
  rw [HW.out.1];go_ret;have hm:=H1.out.move (k:=i+1) HW.out.2;have hb:=(Below.refl (X.setCell ⟨d.B,1,none⟩ (.int .i64 ((i+1 : Nat) : Int))).heap.size (X.setCell ⟨d.B,1,none⟩ (.int .i64 ((i+1 : Nat) : Int)))).alloc (Nat.le_refl _) (.cells #[.int .i64 2,.string tx,.int .i64 (wa : Int)] 76);exact⟨rfl,hm.below hb,(G1.out.trans (grew_set X 1 _)).trans (Grew.of_below hb)⟩
 ·have hn : nameI ws i= .error i:=by
   unfold nameI;by_cases hlt : i < ws.length
   ·have h1:=HC.out;unfold curI at h1;rw [if_pos hlt] at h1;rw [h1,if_neg (fun h=>hk h.2)]
   ·rw [if_neg (fun h=>hlt h.1)]
  rw [hn];clear hn;obtain⟨fv,hfv⟩ : ∃ v,faultV ws sz i=v:=⟨_,rfl⟩
  have HV:=hid hfv;clear hfv;go_enter Tryz.func96,Tryz.ntmps96
  go_wp2_with fail
  refine (peek_at H.out HC.out).mono ?_;rintro e X ⟨rfl,hb⟩;have H1:=hid (H.out.below hb);have G1:=hid (Grew.of_below (d:=d) hb);clear hb;go_wp2_with fail
  have hb:=(Below.refl X.heap.size X).alloc (Nat.le_refl _) (.cells #[.int .i64 kd,.string tx,.int .i64 (wa : Int)] 76);refine (misfit_at (H1.out.below hb) HV.out).mono ?_;rintro e Y ⟨rfl,hb2⟩;have HG:=hid (G1.out.trans ((Grew.of_below hb).trans (Grew.of_below hb2)));clear hb hb2;go_wp2_with fail
  rw [← HV.out];exact⟨rfl,rfl,HG.out⟩
end
def mustI (ws : List Wd) : List (List UInt8)→PI Unit
 | []=>pureI ()
 | l::r=>bindI (takeI ws l) fun _=>mustI ws r
section
variable {d : Dr} {ws : List Wd} {ad : Option Addr} {cp sz : Nat}
theorem take_t {i : Nat} (hz : seesI ws i l=true) : takeI ws l i= .ok ((),i+1):=by
 unfold takeI;rw [hz];rfl
theorem take_f {i : Nat} (hz : seesI ws i l=false) : takeI ws l i= .error i:=by
 unfold takeI;rw [hz];rfl
theorem must_calls (ts : List ByteArray) (g : Nat) (t : TypeId) {i : Nat} {W : World} (h : RdAt d ws ad cp sz i W) (hg : W.heap[g]? =some (.cells (ts.map Value.string).toArray t)) (hB : g≠d.B) (hn : ts.length≤3) (hl : ∀ t∈ts,t.toList≠ []) :
 Calls Tryz.prog 95 #[.pointer (some ⟨d.B,0,none⟩),.slice (some ⟨g,0,none⟩) ts.length ts.length] W (PostU d ws ad cp sz (mustI ws (ts.map ByteArray.toList) i) W):=by
 obtain⟨R,hR⟩ : ∃ R,mustI ws (ts.map ByteArray.toList) i=R:=⟨_,rfl⟩
 rw [hR];obtain⟨n,hnn⟩ : ∃ n,ts.length=n:=⟨_,rfl⟩
 rw [hnn];have H:=hid h;have HR:=hid hR;have HN:=hid (And.intro hnn (And.intro hn hl));have HG:=hid (And.intro hg hB);clear h hR hnn hg hB hn hl;go_enter Tryz.func95,Tryz.ntmps95
 go_wp2_with fail
 go_loopw [8] (fun v wr=> ∃ m : Nat,v= .int .i64 (m : Int)∧Hid (m≤n∧ ∃ k,mustI ws ((ts.drop m).map ByteArray.toList) k=R∧RdAt d ws ad cp sz k wr∧Grew d W wr)) (fun v _=>n - (intOf v).toNat)
 case atStart=>exact⟨0,rfl,hid ⟨Nat.zero_le _,i,HR.out,H.out,Grew.refl d W⟩⟩
 case round=>
  obtain⟨m,rfl,hm⟩:=hrel;have HM:=hid hm.out;clear hm;by_cases hc : (m : Int) < (n : Int)
  ·obtain⟨h1,k,h2,h3,h4⟩:=HM.out;have hml : m < ts.length:=by have:=HN.out.1; omega
   obtain⟨x,hx⟩ : ∃ x,ts[m]? =some x:=⟨ts[m],List.getElem?_eq_getElem hml⟩
   have hdr : ts.drop m=x::ts.drop (m+1):=by
    rw [List.drop_eq_getElem_cons hml];rw [List.getElem?_eq_getElem hml] at hx;rw [Option.some.inj hx]
   have hxl : x.toList≠ []:=HN.out.2.2 x (List.mem_of_getElem? hx);have hcell : wr.cell? ⟨g,m,none⟩=some (.string x):=by
    have hb:=(h4.block g ⟨z13 HG.out.1,HG.out.2,by rw [h3.eq]; exact HG.out.2⟩).trans HG.out.1;rw [z8 hb m];simp [hx]
   rw [hdr] at h2;have HR2:=hid (show bindI (takeI ws x.toList) (fun _=>mustI ws ((ts.drop (m+1)).map ByteArray.toList)) k=R from h2);have H3:=hid h3;have H4:=hid h4;have HX:=hid hxl;have h0 : (0 : Int)≤(m : Int):=by omega
   clear h1 h2 h3 h4 hdr hxl hx hml;go_wp2_with fail
   by_cases hz : seesI ws k x.toList=true
   ·refine (z37 H3.out rfl HX.out hz).mono ?_;rintro e X ⟨rfl,hr,hgr⟩;have HR3:=hid (bi_ok HR2.out (take_t hz));have HX2:=hid (And.intro hr (H4.out.trans hgr));clear hr hgr hz;go_wp2_with fail
    rw [z17 (by have:=HN.out; omega)];exact⟨⟨m+1,rfl,hid ⟨by omega,k+1,HR3.out,HX2.out⟩⟩,z45 hc⟩
   ·have hz' : seesI ws k x.toList=false:=by simpa using hz
    refine (z34 H3.out rfl HX.out hz').mono ?_;rintro e X ⟨rfl,hr,hgr⟩;have HE:=hid (bi_er HR2.out (take_f hz'));have HX2:=hid (And.intro hr (H4.out.trans hgr));clear hr hgr hz hz';go_wp2_with fail
    refine (misfit_calls k X HX2.out.1).mono ?_;rintro e Y ⟨rfl,hb⟩;go_wp2_with fail
    rw [← HE.out];exact⟨rfl,rfl,HX2.out.2.trans (Grew.of_below hb)⟩
  ·obtain⟨h1,k,h2,h3,h4⟩:=HM.out;have hd : ts.drop m= []:=List.drop_eq_nil_of_le (by have:=HN.out.1; omega);rw [hd] at h2;have HE:=hid (show Except.ok ((),k)=R from h2);have H3:=hid h3;have H4:=hid h4;clear h1 h2 h3 h4 hd;go_wp2_with fail
   first | go_end0 | refine bodyPost_ret (results_none rfl _ _ _) rfl ?_
   rw [← HE.out];exact⟨⟨_,rfl⟩,H3.out,H4.out⟩
theorem must_at {l : List (List UInt8)} (ts : List ByteArray) (cs : Array Value) (m : Nat) {i : Nat} {X : World} (h : RdAt d ws ad cp sz i X) (hc : cs=(ts.map Value.string).toArray) (hm : m=ts.length) (hts : ts.map ByteArray.toList=l) (hn : ts.length≤3) (hl : ∀ x∈l,x≠ []) :
 Calls Tryz.prog 95 #[.pointer (some ⟨d.B,0,none⟩),.slice (some ⟨X.heap.size,0,none⟩) m m] (X.alloc (.cells cs 9)) (PostU d ws ad cp sz (mustI ws l i) X):=by
 subst hc hm hts;have hb:=(Below.refl X.heap.size X).alloc (Nat.le_refl _) (.cells (ts.map Value.string).toArray 9);have hB:=z13 h.blk;refine (must_calls ts X.heap.size 9 (h.below hb) (MapKept.heap_alloc X _).1 (by omega) hn (fun t ht=>hl _ (List.mem_map_of_mem ht))).mono ?_;intro e W' hp;rcases z22 hp with ⟨j,hq,rfl,hg⟩ | ⟨u,k,hq,hv,hr,hg⟩
 ·rw [hq];exact⟨rfl,(Grew.of_below hb).trans hg⟩
 ·rw [hq];exact⟨hv,hr,(Grew.of_below hb).trans hg⟩
theorem must1 (t1 : ByteArray) {l1 : List UInt8} {i : Nat} {X : World} (h : RdAt d ws ad cp sz i X) (e1 : t1.toList=l1) (h1 : l1≠ []) :
 Calls Tryz.prog 95 #[.pointer (some ⟨d.B,0,none⟩),.slice (some ⟨X.heap.size,0,none⟩) 1 1] (X.alloc (.cells #[.string t1] 9)) (PostU d ws ad cp sz (mustI ws [l1] i) X):=
 must_at [t1] _ 1 h rfl rfl (by rw [← e1]; rfl) (by simp) (fun x hx=>by simp at hx; subst hx; exact h1)
theorem must2 (t1 t2 : ByteArray) {l1 l2 : List UInt8} {i : Nat} {X : World} (h : RdAt d ws ad cp sz i X) (e1 : t1.toList=l1) (h1 : l1≠ []) (e2 : t2.toList=l2) (h2 : l2≠ []) :
 Calls Tryz.prog 95 #[.pointer (some ⟨d.B,0,none⟩),.slice (some ⟨X.heap.size,0,none⟩) 2 2] (X.alloc (.cells #[.string t1,.string t2] 9)) (PostU d ws ad cp sz (mustI ws [l1,l2] i) X):=
 must_at [t1,t2] _ 2 h rfl rfl (by rw [← e1,← e2]; rfl) (by simp) (fun x hx=>by simp at hx; rcases hx with rfl | rfl; exact h1; exact h2)
theorem must3 (t1 t2 t3 : ByteArray) {l1 l2 l3 : List UInt8} {i : Nat} {X : World} (h : RdAt d ws ad cp sz i X) (e1 : t1.toList=l1) (h1 : l1≠ []) (e2 : t2.toList=l2) (h2 : l2≠ []) (e3 : t3.toList=l3) (h3 : l3≠ []) :
 Calls Tryz.prog 95 #[.pointer (some ⟨d.B,0,none⟩),.slice (some ⟨X.heap.size,0,none⟩) 3 3] (X.alloc (.cells #[.string t1,.string t2,.string t3] 9)) (PostU d ws ad cp sz (mustI ws [l1,l2,l3] i) X):=
 must_at [t1,t2,t3] _ 3 h rfl rfl (by rw [← e1,← e2,← e3]; rfl) (by simp) (fun x hx=>by simp at hx; rcases hx with rfl | rfl | rfl; exact h1; exact h2; exact h3)
end
section
variable {ws : List Wd} {β : Type} {i j : Nat} {u : Unit} {k : Unit→PI β} {R : Except Nat (β×Nat)} {l1 l2 l3 : List UInt8}
theorem taken_on (hq : takeI ws l1 i= .ok (u,j)) : j=i+1:=by
 unfold takeI at hq;split at hq
 ·simp at hq;exact hq.symm
 ·cases hq
theorem m1_ok (h : bindI (takeI ws l1) k i=R) (hq : mustI ws [l1] i= .ok (u,j)) : k () j=R∧i+1≤j:=by
 unfold mustI bindI at hq;unfold bindI at h
 cases h1 : takeI ws l1 i with
 | error e=>rw [h1] at hq; cases hq
 | ok r=>
   obtain⟨x,y⟩:=r;have e1:=taken_on h1;rw [h1] at hq h;simp only [mustI,pureI,Except.ok.injEq,Prod.mk.injEq] at hq;obtain⟨-,rfl⟩:=hq;exact⟨h,by omega⟩
theorem m1_er (h : bindI (takeI ws l1) k i=R) (hq : mustI ws [l1] i= .error j) : .error j=R:=by
 unfold mustI bindI at hq;unfold bindI at h
 cases h1 : takeI ws l1 i with
 | error e=>rw [h1] at hq h; cases hq; exact h
 | ok r=>rw [h1] at hq; cases hq
theorem m2_ok (h : bindI (takeI ws l1) (fun _=>bindI (takeI ws l2) k) i=R) (hq : mustI ws [l1,l2] i= .ok (u,j)) : k () j=R∧i+2≤j:=by
 unfold mustI bindI at hq;unfold bindI at h
 cases h1 : takeI ws l1 i with
 | error e=>rw [h1] at hq; cases hq
 | ok r=>
   obtain⟨x,y⟩:=r;have e1:=taken_on h1;rw [h1] at hq h;obtain⟨a,b⟩:=m1_ok h hq;exact⟨a,by omega⟩
theorem m2_er (h : bindI (takeI ws l1) (fun _=>bindI (takeI ws l2) k) i=R) (hq : mustI ws [l1,l2] i= .error j) : .error j=R:=by
 unfold mustI bindI at hq;unfold bindI at h
 cases h1 : takeI ws l1 i with
 | error e=>rw [h1] at hq h; cases hq; exact h
 | ok r=>rw [h1] at hq h; exact m1_er h hq
theorem m3_ok (h : bindI (takeI ws l1) (fun _=>bindI (takeI ws l2) (fun _=>bindI (takeI ws l3) k)) i=R) (hq : mustI ws [l1,l2,l3] i= .ok (u,j)) : k () j=R∧i+3≤j:=by
 unfold mustI bindI at hq;unfold bindI at h
 cases h1 : takeI ws l1 i with
 | error e=>rw [h1] at hq; cases hq
 | ok r=>
   obtain⟨x,y⟩:=r;have e1:=taken_on h1;rw [h1] at hq h;obtain⟨a,b⟩:=m2_ok h hq;exact⟨a,by omega⟩
theorem m3_er (h : bindI (takeI ws l1) (fun _=>bindI (takeI ws l2) (fun _=>bindI (takeI ws l3) k)) i=R) (hq : mustI ws [l1,l2,l3] i= .error j) : .error j=R:=by
 unfold mustI bindI at hq;unfold bindI at h
 cases h1 : takeI ws l1 i with
 | error e=>rw [h1] at hq h; cases hq; exact h
 | ok r=>rw [h1] at hq h; exact m2_er h hq
theorem name_on {n : ByteArray} (hq : nameI ws i= .ok (n,j)) : j=i+1:=by
 unfold nameI at hq;split at hq
 ·simp at hq;exact hq.2.symm
 ·cases hq
end
end
end Go.Proofs.YtfbojelpdccjaaaGreatDoor
