import Derived.Test.YtfbojelpdccjaaaGreatDoorPkT21
open Go.Proofs.Tryz
set_option maxHeartbeats 8000000
set_option maxRecDepth 100000
namespace Go.Proofs.YtfbojelpdccjaaaGreatDoor
open Go.RowKit Go.Deep
variable {n1:List Nd}{l:List UInt8}{xs:List Value}{B n sz:Nat}{s s' s0 s1:Ps}{a:Tr}{v v1:Value}{W X X':World}
section
open Go.RowKit Go.Deep
def lvN:Nt (List Nd)->Nat
 |.expr=>11
 |.cons=>10
 |.comp=>9
 |.sum=>8
 |.sumL _=>7
 |.prod=>6
 |.prodL _=>5
 |.call=>4
 |.callL _=>3
 |.atom=>2
 |.hand _=>12
 |.opsL _ _=>11
def ms (ws:List Wd) (nt:Nt (List Nd)) (s:Ps):Nat:=16*(ws.length-s.at_)+lvN nt
def PostN (d:Dr) (ws:List Wd) (ad:Option Addr) (cp:Nat) (r:List Nd×Ps) (W:World) (e:Ending) (W':World):Prop:=
 ∃v,e=.returned v/\NodesD d W' v r.1/\StepP d ws ad cp r.2 W W'
structure PcAll (d:Dr) (ws:List Wd) (ad:Option Addr) (cp:Nat) (f:Nat):Prop where
 expr:∀s W,PsAt d ws ad cp s W->ms ws .expr s<=f->Calls prog 34 #[.pointer (some ⟨d.B,0,none⟩)] W (PostN d ws ad cp (spz ws f .expr s) W)
 cons:∀s W,PsAt d ws ad cp s W->ms ws .cons s<=f->Calls prog 68 #[.pointer (some ⟨d.B,0,none⟩)] W (PostN d ws ad cp (spz ws f .cons s) W)
 comp:∀s W,PsAt d ws ad cp s W->ms ws .comp s<=f->Calls prog 105 #[.pointer (some ⟨d.B,0,none⟩)] W (PostN d ws ad cp (spz ws f .comp s) W)
 sum:∀s W,PsAt d ws ad cp s W->ms ws .sum s<=f->Calls prog 126 #[.pointer (some ⟨d.B,0,none⟩)] W (PostN d ws ad cp (spz ws f .sum s) W)
 prod:∀s W,PsAt d ws ad cp s W->ms ws .prod s<=f->Calls prog 137 #[.pointer (some ⟨d.B,0,none⟩)] W (PostN d ws ad cp (spz ws f .prod s) W)
 call:∀s W,PsAt d ws ad cp s W->ms ws .call s<=f->Calls prog 143 #[.pointer (some ⟨d.B,0,none⟩)] W (PostN d ws ad cp (spz ws f .call s) W)
 atom:∀s W,PsAt d ws ad cp s W->ms ws .atom s<=f->Calls prog 146 #[.pointer (some ⟨d.B,0,none⟩)] W (PostN d ws ad cp (spz ws f .atom s) W)
 hand:∀k s W,PsAt d ws ad cp s W->ms ws (.hand k) s<=f->Calls prog 153 #[.pointer (some ⟨d.B,0,none⟩),.int .i64 k] W (PostN d ws ad cp (spz ws f (.hand k) s) W)
section
variable {d:Dr}{ws:List Wd}{ad:Option Addr}{cp:Nat}
theorem StepP.start (h:PsAt d ws ad cp s W):StepP d ws ad cp s W W:=⟨h,Grew.refl d W⟩
theorem StepP.below (h:StepP d ws ad cp s W X) (hb:Below X.heap.size X X'):StepP d ws ad cp s W X':= ⟨h.1.below hb,h.2.trans (Grew.of_below hb)⟩
theorem StepP.step (h:StepP d ws ad cp s W X) (h':StepP d ws ad cp s' X X'):StepP d ws ad cp s' W X':= ⟨h'.1,h.2.trans h'.2⟩
theorem StepP.next (h:StepP d ws ad cp s W X) (hl:s.at_<ws.length):StepP d ws ad cp s.next W (X.setCell ⟨d.B,1,none⟩ (.int .i64 ((s.at_+1:Nat):Int))):=
 ⟨h.1.move (i:=s.at_+1) yf,h.2.trans (z42 X 1 _)⟩
theorem StepP.wrap (h:StepP d ws ad cp s W X):wrap64 ((s.at_:Int)+1)=((s.at_+1:Nat):Int):=z18 (by have:=h.1.lt;have:=h.1.few;omega)
theorem kids_litP {d:Dr}(ls:List (Value×List Nd)) (c:Array Value) (hc:c=(ls.map Prod.fst).toArray) (h1:d.B<X.heap.size) (h2:d.G<X.heap.size) (h:∀x∈ls,NodesD d X x.1 x.2) :
 KidsV d (X.alloc (.cells c 24)) (.slice (some ⟨X.heap.size,0,none⟩) ls.length ls.length) ls:=by
 subst hc;refine zb65 ?_;unhygienic intros
 simp[List.getD,hi]
theorem put_any (h:PsAt d ws ad cp s X) (k nm kd:Int) (a b c:ByteArray) (ls:List (Value×List Nd)) (cs:Array Value) (m:Nat) (hc:cs=(ls.map Prod.fst).toArray) (hm:m=ls.length) (hls:∀x∈ls,NodesD d X x.1 x.2) (hb:Brief a/\Brief b/\Brief c) (hl:ls.length<=1000) (hfl:(flatL ls).length<=800000) :
 Calls prog 67 #[.agg #[.int .i64 k,.int .i64 nm,.string a,.string b,.string c,.int .i64 kd],.slice (some ⟨X.heap.size,0,none⟩) m m] (X.alloc (.cells cs 24)) fun e X'=> ∃v,e=.returned v/\NodesD d X' v (putN ⟨k,nm,a,b,c,kd⟩ (ls.map Prod.snd))/\Below X.heap.size X X':= by
 subst hm;have hB:(X.alloc (.cells cs 24)).heap.size=X.heap.size+1:=yn;have hPB:=z12 h.blk;refine(gput_calls (d:=d) k nm kd a b c (X.alloc (.cells cs 24)) _ ls (by rw[hB];omega) (by rw[hB,h.eq];omega) (kids_litP ls cs hc hPB (by rw[h.eq];exact hPB) hls) hb hl hfl).mono ?_;rintro e X' ⟨v,rfl,hn,hbl⟩;refine⟨v,rfl,?_,(Lb.alloc La _).trans (hbl.mono (by rw[hB];omega))⟩;have e:putN ⟨k,nm,a,b,c,kd⟩ (ls.map Prod.snd)=⟨k,nm,a,b,c,(ls.length:Int)⟩::flatL ls:=by
  unfold putN Nd.with_ flatL;rw[List.length_map,List.flatMap_def]
 rw[e];exact hn
theorem put0_calls (h:PsAt d ws ad cp s X) (k nm kd:Int) (a b c:ByteArray) (hb:Brief a/\Brief b/\Brief c) :
 Calls prog 67 #[.agg #[.int .i64 k,.int .i64 nm,.string a,.string b,.string c,.int .i64 kd],.slice none 0 0] X fun e X'=> ∃v,e=.returned v/\NodesD d X' v (putN ⟨k,nm,a,b,c,kd⟩ [])/\Below X.heap.size X X':= by
 have hPB:=z12 h.blk;refine(gput_calls (d:=d) k nm kd a b c X _ [] hPB (by rw[h.eq];exact hPB) ⟨Or.inl ⟨rfl,rfl⟩,fun x hx=>mt⟩ hb yn (by simp[flatL])).mono ?_;rintro e X' ⟨v,rfl,hn,hbl⟩;exact⟨v,rfl,hn,hbl⟩
theorem put1_calls (h:PsAt d ws ad cp s X) (k nm kd:Int) (a b c:ByteArray) (h1:NodesD d X v1 n1) (hb:Brief a/\Brief b/\Brief c) (hfl:n1.length<=20000) :
 Calls prog 67 #[.agg #[.int .i64 k,.int .i64 nm,.string a,.string b,.string c,.int .i64 kd],.slice (some ⟨X.heap.size,0,none⟩) 1 1] (X.alloc (.cells #[v1] 24)) fun e X'=> ∃v,e=.returned v/\NodesD d X' v (putN ⟨k,nm,a,b,c,kd⟩ [n1])/\Below X.heap.size X X':=
 put_any h k nm kd a b c [(v1,n1)] _ 1 rfl rfl (fun x hx=>ud) hb yn uf
theorem z66 (h:PsAt d ws ad cp s X) (k nm kd:Int) (a b c:ByteArray) {v2:Value}{n2:List Nd}(h1:NodesD d X v1 n1) (h2:NodesD d X v2 n2) (hb:Brief a/\Brief b/\Brief c) (hfl:n1.length<=20000/\n2.length<=20000) :
 Calls prog 67 #[.agg #[.int .i64 k,.int .i64 nm,.string a,.string b,.string c,.int .i64 kd],.slice (some ⟨X.heap.size,0,none⟩) 2 2] (X.alloc (.cells #[v1,v2] 24)) fun e X'=> ∃v,e=.returned v/\NodesD d X' v (putN ⟨k,nm,a,b,c,kd⟩ [n1,n2])/\Below X.heap.size X X':=
 put_any h k nm kd a b c [(v1,n1),(v2,n2)] _ 2 rfl rfl (fun x hx=>ue) hb yn uf
theorem put3_calls (h:PsAt d ws ad cp s X) (k nm kd:Int) (a b c:ByteArray) {v2 v3:Value}{n2 n3:List Nd}(h1:NodesD d X v1 n1) (h2:NodesD d X v2 n2) (h3:NodesD d X v3 n3) (hb:Brief a/\Brief b/\Brief c) (hfl:n1.length<=20000/\n2.length<=20000/\n3.length<=20000) :
 Calls prog 67 #[.agg #[.int .i64 k,.int .i64 nm,.string a,.string b,.string c,.int .i64 kd],.slice (some ⟨X.heap.size,0,none⟩) 3 3] (X.alloc (.cells #[v1,v2,v3] 24)) fun e X'=> ∃v,e=.returned v/\NodesD d X' v (putN ⟨k,nm,a,b,c,kd⟩ [n1,n2,n3])/\Below X.heap.size X X':=
 put_any h k nm kd a b c [(v1,n1),(v2,n2),(v3,n3)] _ 3 rfl rfl (fun x hx=>ug) hb yn uf
structure Goes (ws:List Wd) (s:Ps) (r:List Nd×Ps) (k:Nat):Prop where
 on:s.at_<=r.2.at_
 lt:r.2.at_<=ws.length
 len:r.1.length<=3*(r.2.at_-s.at_)+k
theorem goes_at (hw:BriefW ws) (f:Nat) (nt:Nt (List Nd)) (hb:NtB nt) (hs:s.at_<=ws.length):Goes ws s (spz ws f nt s) (accN nt):=by
 by_cases ha:nt=.atom
 .subst ha;obtain⟨c,h1,h2,h3,-⟩:=(part_m hw f).atom s hs;exact⟨yf,yf,yf⟩
 .obtain⟨c,h1,h2,h3,-⟩:=(part_m hw f).at nt hb ha s hs;exact⟨yf,yf,yf⟩
theorem take_goes (hl:l≠ []) (hs:s.at_<=ws.length):s.at_<=(takeS ws l s).2.at_/\(takeS ws l s).2.at_<=ws.length:=by
 obtain⟨c,h1,h2,-⟩:=Mv.take (ws:=ws) hl s hs;omega
theorem name_goes (hw:BriefW ws) (hs:s.at_<=ws.length):s.at_<=(nameS ws s).2.at_/\(nameS ws s).2.at_<=ws.length/\Brief (nameS ws s).1:=by
 obtain⟨c,h1,h2,h3⟩:=Mv.name (ws:=ws) hw s hs;exact⟨yf,yf,h3⟩
end
theorem y_type {e:TypeId}(h:W.ownsRow B e sz v n xs) {g:Nat}(hg:v.ownBlock=some g):B<=g/\ ∃cur,W.heap[g]?=some (.cells cur e):=by
 obtain⟨-,⟨rfl,h0⟩|⟨g',cap,cur,rfl,hB,hc,-⟩⟩:=h
 .simp[Value.ownBlock]at hg
 .simp[Value.ownBlock]at hg;subst hg;exact⟨hB,cur,hc⟩
theorem y_same {W':World}{e:TypeId}(h:W.ownsRow B e sz v n xs) (he:∀g,v.ownBlock=some g->W'.heap[g]?=W.heap[g]?):W'.ownsRow B e sz v n xs:=by
 obtain⟨h0,⟨rfl,h1⟩|⟨g,cap,cur,rfl,hB,hc,hr⟩⟩:=h
 .exact⟨h0,Or.inl ⟨rfl,h1⟩⟩
 .exact⟨h0,Or.inr ⟨g,cap,cur,rfl,hB,(he g qf).trans hc,hr⟩⟩
theorem y_is {e:TypeId}(h:W.ownsRow B e sz v n xs):∃ad c,v=.slice ad n c:=by
 obtain⟨-,⟨rfl,h0⟩|⟨g',cap,cur,rfl,-⟩⟩:=h
 .exact⟨none,0,by rw[h0]⟩
 .exact⟨_,_,rfl⟩
theorem y_grew {d:Dr}{W':World}{e:TypeId}(h:W.ownsRow B e sz v n xs) (h1:d.B<B) (h2:d.G<B) (g:Grew d W W'):W'.ownsRow B e sz v n xs:=
 y_same h fun k hk=>g.block k ⟨(h.lt k hk).2,xk,xk⟩
theorem y_info:(prog.info? 24).map (fun i=>(i.zero,i.size,i.bytes))=some (some (.slice none 0 0),1,24):=yb
theorem y_congr {d:Dr}{F H:Nat->Value}(h:Lies d W v n sz F) (e:∀i,i<n*sz->F i=H i):Lies d W v n sz H:=by
 rcases h with h|⟨b,off,cap,h1,h2,h3,h4,h5⟩
 .exact Or.inl h
 .exact Or.inr ⟨b,off,cap,h1,h2,h3,h4,fun i hi=>by rw[h5 i hi,e i hi]⟩
structure Ky where
 ad:Option Addr
 cp:Nat
 ns:List Nd
instance:Inhabited Ky:=⟨⟨none,0,[]⟩⟩
def Ky.val (k:Ky):Value:=.slice k.ad k.ns.length k.cp
def kyV (k:Ky) (_:Nat):Value:=k.val
theorem ky_one (k:Ky) (i:Nat):(kyV k i).oneCell'= true:=rfl
def kyL (ls:List Ky):List (Value×List Nd):=ls.map fun k=>(k.val,k.ns)
theorem kyL_snd (ls:List Ky):(kyL ls).map Prod.snd=ls.map Ky.ns:=by
 unfold kyL;rw[List.map_map];rfl
theorem kyL_flat (ls:List Ky):flatL (kyL ls)=(ls.map Ky.ns).flatten:=by
 unfold flatL;rw[List.flatMap_def,kyL_snd]
theorem ky_own {d:Dr}{ls:List Ky}(h:X.ownsRow B 24 1 v ls.length (rowZ kyV 1 ls)) (h1:d.B<B) (h2:d.G<B) (hn:∀k∈ls,NodesD d X k.val k.ns):KidsV d X v (kyL ls):=by
 refine⟨?_,fun x hx=>?_⟩
 .have hl:(kyL ls).length=ls.length:=by simp[kyL]
  rw[hl];refine y_congr (lies_owns (f:=kyV) yh h h1 h2) fun i hi=>?_
  rw[Nat.div_one];rw[Nat.mul_one]at hi;simp[kyL,kyV,List.getD,hi]
 .unfold kyL at hx;rw[List.mem_map]at hx;obtain⟨k,hk,rfl⟩:=hx;exact hn k hk
theorem y_other {d:Dr}{u:Value}{ns:List Nd}{ls:List Ky}(h:NodesD d X v ns) (hu:X.ownsRow B 24 1 u ls.length (rowZ kyV 1 ls)) (h1:1<=ls.length) (hg:X.grownBy X' u.ownBlock):NodesD d X' v ns:=by
 obtain⟨h,hb⟩:=h;refine⟨?_,hb⟩;rcases h with h|⟨b,off,cap,rfl,hn,rfl,hq,hc⟩
 .exact Or.inl h
 ·refine Or.inr ⟨b,0,cap,rfl,hn,rfl,⟨Le hq.1 hg.size,hq.2⟩,fun i hi=>?_⟩;have hne:some b≠u.ownBlock:=fun e=>by
   have h':= hu;obtain⟨-,⟨-,h0⟩|⟨g,cap',cur,rfl,hB,hcc,-⟩⟩:=hu
   .omega
   .simp[Value.ownBlock]at e;subst e;have e1:=h'.cellAt 0 yf;rw[z61 kyV 1 yh ls 0 yf]at e1;have e2:=hc 0 yf;rw[Nat.zero_add,e1]at e2
    cases e2
  exact(Lj (a:=⟨b,0+i,none⟩) (hg.block b hq.1 hne)).trans (hc i hi)
section
variable {d:Dr}{ws:List Wd}{ad:Option Addr}{cp:Nat}
theorem StepP.own {row:Option Nat}(h:StepP d ws ad cp s W X) (h0:PsAt d ws ad cp s0 W) (hg:X.grownBy X' row) (hr:∀g,row=some g->W.heap.size<=g):StepP d ws ad cp s W X':= by
 have hs:=h.2.size;have h1:=z12 h0.blk;have hne:∀q,q<W.heap.size->some q≠row:=fun q hq e=>by have:=hr q e.symm;omega
 have hgr:Grew d W X':= ⟨hg.os.trans h.2.os,hg.tape.trans h.2.tape,hg.output.trans h.2.output,Lf hs hg.size,fun q hq=>(hg.block q xl (hne q hq.1)).trans (h.2.block q hq)⟩
 exact⟨⟨(hg.block _ yf (hne _ h1)).trans h.1.blk,h.1.eq,h.1.lt,h.1.few,h0.words.grew hgr⟩,hgr⟩
structure Hy (d:Dr) (ws:List Wd) (ad:Option Addr) (cp:Nat) (s:Ps) (W X:World) (v:Value) (ls:List Ky):Prop where
 step:StepP d ws ad cp s W X
 kids:X.ownsRow W.heap.size 24 1 v ls.length (rowZ kyV 1 ls)
 nodes:∀k∈ls,NodesD d X k.val k.ns
 some_:1<=ls.length
theorem Hy.go {ls:List Ky}(h:Hy d ws ad cp s W X v ls) (h0:PsAt d ws ad cp s0 W) (hp:StepP d ws ad cp s' X X'):Hy d ws ad cp s' W X' v ls:=
 ⟨h.step.step hp,y_grew h.kids (z12 h0.blk) mu hp.2,fun k hk=>(h.nodes k hk).grew hp.2,h.some_⟩
theorem Hy.below {ls:List Ky}(h:Hy d ws ad cp s W X v ls) (h0:PsAt d ws ad cp s0 W) (hb:Below X.heap.size X X'):Hy d ws ad cp s W X' v ls:=
 h.go h0 ⟨h.step.1.below hb,Grew.of_below hb⟩
theorem Hy.start (h:StepP d ws ad cp s W X) (k:Ky) (hk:NodesD d X k.val k.ns) :
 Hy d ws ad cp s W (X.alloc (.cells #[k.val] 24)) (.slice (some ⟨X.heap.size,0,none⟩) 1 1) [k]:=by
 have hb:Below X.heap.size X (X.alloc (.cells #[k.val] 24)):=Lb.alloc La _;refine⟨h.below hb,World.ownsRow_lit (base:=W.heap.size) (e:=24) (size:=1) X #[k.val] 1 h.2.size zp rfl,fun x hx=>?_,yn⟩;rw[List.mem_singleton]at hx;subst hx;exact hk.grew (Grew.of_below hb)
theorem Hy.re {ls:List Ky}(h:Hy d ws ad cp s W X v ls) (h0:PsAt d ws ad cp s0 W) (g:Grew d X X') (hp:StepP d ws ad cp s' W X'):Hy d ws ad cp s' W X' v ls:=
 ⟨hp,y_grew h.kids (z12 h0.blk) mu g,fun k hk=>(h.nodes k hk).grew g,h.some_⟩
theorem Hy.nx {ls:List Ky}(h:Hy d ws ad cp s W X v ls) (h0:PsAt d ws ad cp s0 W) (hl:s.at_<ws.length):Hy d ws ad cp s.next W (X.setCell ⟨d.B,1,none⟩ (.int .i64 ((s.at_+1:Nat):Int))) v ls:=
 h.re h0 (z42 X 1 _) (h.step.next hl)
theorem set_grew {q i:Nat}(g:Grew d W X) (hq:W.heap.size<=q):Grew d W (X.setCell ⟨q,i,none⟩ v):=by
 have k:=kept_set (kept_refl X (some q)) i v;exact⟨k.os.trans g.os,k.tape.trans g.tape,k.output.trans g.output,Lf g.size k.size,fun b hb=>(k.block b (Le hb.1 g.size) (by intro e;cases e;have:=hb.1;omega)).trans (g.block b hb)⟩
theorem StepP.put {q:Nat}(h:StepP d ws ad cp s W X) (h0:PsAt d ws ad cp s0 W) (hq:W.heap.size<=q) (i:Nat) (v:Value):StepP d ws ad cp s W (X.setCell ⟨q,i,none⟩ v):=
 h.own h0 (kept_set (kept_refl X (some q)) i v) (fun g e=>by cases e;exact hq)
theorem sees_live (hl:l≠ []) (h:seesS ws s l=true):s.bad=false:=by
 unfold seesS txt at h;by_cases hc:s.bad=true\/ws.length<=s.at_\/(curW ws s.at_).kind<3
 .rw[if_pos hc,no_bytes]at h
  cases l with
  |nil=>exact absurd rfl hl
  |cons a l=>cases h
 .cases hb:s.bad with
  |true=>exact absurd (Or.inl hb) hc
  |false=>rfl
theorem name_live (h:(nameS ws s).2.bad=false):(nameS ws s).2.at_=s.at_+1:=by
 unfold nameS at h |-
 cases hn:isNm ws s with
 |true=>rfl
 | false=>
   rw[hn]at h
   cases h
theorem take_on:s.at_<=(takeS ws l s).2.at_:=by
 unfold takeS
 cases seesS ws s l with
 |true=>exact Nat.le_succ _
 |false=>exact La
theorem stuck_false {α:Type}{p:PS α}(h:StuckS p) (hb:(p s).2.bad=false):s.bad=false:=by
 cases hs:s.bad with
 | true=>
   rw[h s hs,hs]at hb
   cases hb
 |false=>rfl
theorem Hy.app {ls:List Ky}(h:Hy d ws ad cp s W X v ls) (h0:PsAt d ws ad cp s0 W) (k:Ky) (hk:NodesD d X k.val k.ns) (hl:ls.length<=10000) (ty:TypeId) :
 ∃v' X',(Builtin.append_ #[139,139] ty #[v,.slice (some ⟨X.heap.size,0,none⟩) 1 1]).run prog (X.alloc (.cells #[.slice k.ad k.ns.length k.cp] 24))=.ok v' X'/\Hy d ws ad cp s W X' v' (ls++ [k])/\ ∀(q:Nat) (c:Array Value),X.heap[q]?=some (.cells c 60)->X'.heap[q]?=some (.cells c 60):=by
 obtain⟨i0,hinf,hz0,hz1,hz2⟩:=info_parts y_info;have hb:Below X.heap.size X (X.alloc (.cells #[.slice k.ad k.ns.length k.cp] 24)):=Lb.alloc La _;have hX:=h.below h0 hb;have hB:=z12 h.step.1.blk;have hli:Lies d (X.alloc (.cells #[.slice k.ad k.ns.length k.cp] 24)) (.slice (some ⟨X.heap.size,0,none⟩) 1 1) [k].length 1 (fun i=>kyV ([k].getD (i/1) default) (i % 1)):=
  lies_lit (f:=kyV) (sz:=1) yh X 24 [k] _ rfl hB (by rw[h0.eq];exact hB)
 obtain⟨v',X',hr,ho,hgr⟩:=z70 (d:=d) ky_one underlying139 hinf hz0 hz1 hz2 rfl yh yh hX.kids hli yk hX.step.2.size ty;refine⟨v',X',hr,⟨hX.step.own h0 hgr (fun g hg=>(hX.kids.lt g hg).1),ho,fun x hx=>?_,yn⟩,fun q c hq=>?_⟩
 .rw[List.mem_append,List.mem_singleton]at hx;rcases hx with hx|rfl
  .exact y_other (hX.nodes x hx) hX.kids h.some_ hgr
  .exact y_other (hk.grew (Grew.of_below hb)) hX.kids h.some_ hgr
 .have hq':= (hb.block q (z12 hq)).trans hq;refine(hgr.block q (z12 hq') fun e=>?_).trans hq';obtain⟨-,cur,hc⟩:=y_type hX.kids e.symm;rw[hq']at hc
  cases hc
end
section
variable {ws:List Wd}
theorem orT {α:Type}{p q:PS α}(h:seesS ws s l=true) (h1:s.next=s1):orS ws l p q s=p s1:=by
 unfold orS;rw[h,h1];rfl
theorem orF {α:Type}{p q:PS α}(h:seesS ws s l=false):orS ws l p q s=q s:=by
 unfold orS;rw[h];rfl
theorem bindEq {α β:Type}{p:PS α}{k:α->PS β}{a:α}(h:p s=(a,s1)):bindS p k s=k a s1:=by
 unfold bindS;rw[h]
theorem bindTake {β:Type}{k:Unit->PS β}(h:(takeS ws l s).2=s1):bindS (takeS ws l) k s=k () s1:=by
 unfold bindS;rw[h]
def badS:PS Int:=fun s=>(0,s.fail)
variable (ws)
def baseS:PS Int:=orS ws kInt (pureS 1) (orS ws kBool (pureS 2) (orS ws kUnit (pureS 3) (orS ws kList (pureS 4) badS)))
def effsS:Nat->List Ef->PS (List Ef)
 |0,es=>pureS es
 |f+1,es=>orS ws kEffect (bindS (nameS ws) fun x=>bindS (takeS ws gColon) fun _=>bindS (baseS ws) fun a=>bindS (takeS ws gGives) fun _=>bindS (baseS ws) fun r=>bindS (takeS ws gSemi) fun _=>effsS f (es++ [⟨x,a,r⟩])) (pureS es)
variable {ws}
theorem base_on (hs:s.at_<=ws.length):s.at_<=(baseS ws s).2.at_/\(baseS ws s).2.at_<=ws.length:=by
 have one:∀(l:List UInt8) (a:Int) (q:PS Int),l≠ []->(s.at_<=(q s).2.at_/\(q s).2.at_<=ws.length)->s.at_<=(orS ws l (pureS a) q s).2.at_/\(orS ws l (pureS a) q s).2.at_<=ws.length:=fun l a q hl hq=>by
  cases hc:seesS ws s l with
  | true=>
    have:=sees_lt hl hc;rw[orT hc rfl];exact⟨Nat.le_succ _,this⟩
  | false=>
    rw[orF hc];exact hq
 exact one _ _ _ yh (one _ _ _ yh (one _ _ _ yh (one _ _ _ yh ⟨La,hs⟩)))
end
section
variable {d:Dr}{ws:List Wd}{ad:Option Addr}{cp:Nat}
theorem base_calls (s:Ps) (W:World) (h:PsAt d ws ad cp s W) :
 Calls prog 65 #[.pointer (some ⟨d.B,0,none⟩)] W fun e W'=> e=.returned (.int .i64 (baseS ws s).1)/\StepP d ws ad cp (baseS ws s).2 W W':= by
 have SP:=J (StepP.start h);have G:=J (show s.at_+0<=s.at_/\s.at_<=ws.length from⟨La,h.lt⟩);clear h;go_enter func65,ntmps65
 go_wp2_with fail
 refine(text_calls s W SP.o.1).mono ?_;rintro e X1 ⟨rfl,hb1⟩;have SP:=J (SP.o.below hb1);obtain⟨u1,hu1⟩:∃u,txt ws s=u:=⟨_,rfl⟩
 rw[hu1];have HU1:=J hu1;clear hb1 hu1;by_cases hkInt1:(u1.toList==([105,110,116]:List UInt8))=true
 .have hz2:seesS ws s kInt=true:=by unfold seesS;rw[HU1.o];exact hkInt1
  have hl2:=sees_lt yh hz2;have Z2:=J (Lc hz2 hl2);clear hz2 hl2;have q1:=z8 SP.o.1.blk 1;have z1:=z11 SP.o.1.blk 1;simp at q1;have HWr:=J SP.o.wrap;have hn3:=SP.o.next Z2.o.2;obtain⟨s3,hs3⟩:∃x,s.next=x:=⟨_,rfl⟩
  have hc3:s3.at_=s.at_+1:=by rw[<-hs3];rfl
  rw[hs3]at hn3;have GR3:=J (z42 (d:=d) X1 1 (.int .i64 ((s.at_+1:Nat):Int)));obtain⟨X3,hX3⟩:∃Y,X1.setCell ⟨d.B,1,none⟩ (.int .i64 ((s.at_+1:Nat):Int))=Y:=⟨_,rfl⟩
  rw[hX3]at hn3 GR3;have HX3:=J hX3;have G:=J (show s.at_+1<=s3.at_/\s3.at_<=ws.length by have h1:=G.o;have h2:=Z2.o.2;omega);have SPn:=J hn3;have Q3:=J hs3;clear hn3 hs3 hc3 hX3 GR3;go_wp2_with fail
  go_ret;have hE:baseS ws s=(1,s3):=by
   refine(orT Z2.o.1 Q3.o).trans ?_;rfl
  rw[hE,HWr.o,HX3.o];exact⟨rfl,SPn.o⟩
 have hx1kInt:(u1.toList==([105,110,116]:List UInt8))=false:=by simpa using hkInt1
 clear hkInt1;have hkInt1:=hx1kInt;clear hx1kInt;have hz4:seesS ws s kInt=false:=by unfold seesS;rw[HU1.o];exact hkInt1
 have Z4:=J hz4;clear hz4;by_cases hkBool1:(u1.toList==([98,111,111,108]:List UInt8))=true
 .have hz5:seesS ws s kBool=true:=by unfold seesS;rw[HU1.o];exact hkBool1
  have hl5:=sees_lt yh hz5;have Z5:=J (Lc hz5 hl5);clear hz5 hl5;have q1:=z8 SP.o.1.blk 1;have z1:=z11 SP.o.1.blk 1;simp at q1;have HWr:=J SP.o.wrap;have hn6:=SP.o.next Z5.o.2;obtain⟨s6,hs6⟩:∃x,s.next=x:=⟨_,rfl⟩
  have hc6:s6.at_=s.at_+1:=by rw[<-hs6];rfl
  rw[hs6]at hn6;have GR6:=J (z42 (d:=d) X1 1 (.int .i64 ((s.at_+1:Nat):Int)));obtain⟨X6,hX6⟩:∃Y,X1.setCell ⟨d.B,1,none⟩ (.int .i64 ((s.at_+1:Nat):Int))=Y:=⟨_,rfl⟩
  rw[hX6]at hn6 GR6;have HX6:=J hX6;have G:=J (show s.at_+1<=s6.at_/\s6.at_<=ws.length by have h1:=G.o;have h2:=Z5.o.2;omega);have SPn:=J hn6;have Q6:=J hs6;clear hn6 hs6 hc6 hX6 GR6;go_wp2_with fail
  go_ret;have hE:baseS ws s=(2,s6):=by
   refine(orF Z4.o).trans ?_;refine(orT Z5.o.1 Q6.o).trans ?_;rfl
  rw[hE,HWr.o,HX6.o];exact⟨rfl,SPn.o⟩
 have hx1kBool:(u1.toList==([98,111,111,108]:List UInt8))=false:=by simpa using hkBool1
 clear hkBool1;have hkBool1:=hx1kBool;clear hx1kBool;have hz7:seesS ws s kBool=false:=by unfold seesS;rw[HU1.o];exact hkBool1
 have Z7:=J hz7;clear hz7;by_cases hkUnit1:(u1.toList==([117,110,105,116]:List UInt8))=true
 .have hz8:seesS ws s kUnit=true:=by unfold seesS;rw[HU1.o];exact hkUnit1
  have hl8:=sees_lt yh hz8;have Z8:=J (Lc hz8 hl8);clear hz8 hl8;have q1:=z8 SP.o.1.blk 1;have z1:=z11 SP.o.1.blk 1;simp at q1;have HWr:=J SP.o.wrap;have hn9:=SP.o.next Z8.o.2;obtain⟨s9,hs9⟩:∃x,s.next=x:=⟨_,rfl⟩
  have hc9:s9.at_=s.at_+1:=by rw[<-hs9];rfl
  rw[hs9]at hn9;have GR9:=J (z42 (d:=d) X1 1 (.int .i64 ((s.at_+1:Nat):Int)));obtain⟨X9,hX9⟩:∃Y,X1.setCell ⟨d.B,1,none⟩ (.int .i64 ((s.at_+1:Nat):Int))=Y:=⟨_,rfl⟩
  rw[hX9]at hn9 GR9;have HX9:=J hX9;have G:=J (show s.at_+1<=s9.at_/\s9.at_<=ws.length by have h1:=G.o;have h2:=Z8.o.2;omega);have SPn:=J hn9;have Q9:=J hs9;clear hn9 hs9 hc9 hX9 GR9;go_wp2_with fail
  go_ret;have hE:baseS ws s=(3,s9):=by
   refine(orF Z4.o).trans ?_;refine(orF Z7.o).trans ?_;refine(orT Z8.o.1 Q9.o).trans ?_;rfl
  rw[hE,HWr.o,HX9.o];exact⟨rfl,SPn.o⟩
 have hx1kUnit:(u1.toList==([117,110,105,116]:List UInt8))=false:=by simpa using hkUnit1
 clear hkUnit1;have hkUnit1:=hx1kUnit;clear hx1kUnit;have hz10:seesS ws s kUnit=false:=by unfold seesS;rw[HU1.o];exact hkUnit1
 have Z10:=J hz10;clear hz10;by_cases hkList1:(u1.toList==([108,105,115,116]:List UInt8))=true
 .have hz11:seesS ws s kList=true:=by unfold seesS;rw[HU1.o];exact hkList1
  have hl11:=sees_lt yh hz11;have Z11:=J (Lc hz11 hl11);clear hz11 hl11;have q1:=z8 SP.o.1.blk 1;have z1:=z11 SP.o.1.blk 1;simp at q1;have HWr:=J SP.o.wrap;have hn12:=SP.o.next Z11.o.2;obtain⟨s12,hs12⟩:∃x,s.next=x:=⟨_,rfl⟩
  have hc12:s12.at_=s.at_+1:=by rw[<-hs12];rfl
  rw[hs12]at hn12;have GR12:=J (z42 (d:=d) X1 1 (.int .i64 ((s.at_+1:Nat):Int)));obtain⟨X12,hX12⟩:∃Y,X1.setCell ⟨d.B,1,none⟩ (.int .i64 ((s.at_+1:Nat):Int))=Y:=⟨_,rfl⟩
  rw[hX12]at hn12 GR12;have HX12:=J hX12;have G:=J (show s.at_+1<=s12.at_/\s12.at_<=ws.length by have h1:=G.o;have h2:=Z11.o.2;omega);have SPn:=J hn12;have Q12:=J hs12;clear hn12 hs12 hc12 hX12 GR12;go_wp2_with fail
  go_ret;have hE:baseS ws s=(4,s12):=by
   refine(orF Z4.o).trans ?_;refine(orF Z7.o).trans ?_;refine(orF Z10.o).trans ?_;refine(orT Z11.o.1 Q12.o).trans ?_;rfl
  rw[hE,HWr.o,HX12.o];exact⟨rfl,SPn.o⟩
 have hx1kList:(u1.toList==([108,105,115,116]:List UInt8))=false:=by simpa using hkList1
 clear hkList1;have hkList1:=hx1kList;clear hx1kList;have hz13:seesS ws s kList=false:=by unfold seesS;rw[HU1.o];exact hkList1
 have Z13:=J hz13;clear hz13;have q2:=z8 SP.o.1.blk 2;have z2:=z11 SP.o.1.blk 2;simp at q2;go_wp2_with fail
 go_ret;have hE:baseS ws s=(0,s.fail):=by
  refine(orF Z4.o).trans ?_;refine(orF Z7.o).trans ?_;refine(orF Z10.o).trans ?_;refine(orF Z13.o).trans ?_;rfl
 rw[hE];exact⟨rfl,SP.o.1.fails,SP.o.2.trans (z42 X1 2 _)⟩
end
end
section
open Go.RowKit
section
variable (ws:List Wd)
def badI:PI Int:=fun i=> .error i
def baseI:PI Int:=orI ws kInt (pureI 1) (orI ws kBool (pureI 2) (orI ws kUnit (pureI 3) (orI ws kList (pureI 4) badI)))
def effsI:Nat->List Ef->PI (List Ef)
 |0,es=>pureI es
 |f+1,es=>orI ws kEffect (bindI (nameI ws) fun x=>bindI (takeI ws gColon) fun _=>bindI (baseI ws) fun a=>bindI (takeI ws gGives) fun _=>bindI (baseI ws) fun r=>bindI (takeI ws gSemi) fun _=>effsI f (es++ [⟨x,a,r⟩])) (pureI es)
variable {ws}
theorem base_alike (h:WordsOk ws):Alike (fun a b=>a=b) (baseS ws) (baseI ws):=by
 have hb:Alike (fun a b=>a=b) badS badI:=⟨fun s hb=>by cases s;cases hb;rfl,fun i=>rfl⟩
 unfold baseS baseI;refine z41 h ?_ ?_ (Alike.pure rfl) (z41 h ?_ ?_ (Alike.pure rfl) (z41 h ?_ ?_ (Alike.pure rfl) (z41 h ?_ ?_ (Alike.pure rfl) hb)));all_goals decide
theorem effs_stuck:∀(f:Nat) (es:List Ef),StuckS (effsS ws f es)
 |0,es=>z27 es
 |f+1,es=>or_stuck yh (z27 es)
theorem base_stuck:StuckS (baseS ws):=
 or_stuck yh (or_stuck yh (or_stuck yh (or_stuck yh (fun s hb=>by cases s;cases hb;rfl))))
theorem effs_alike (h:WordsOk ws):∀(f:Nat) (es:List Ef),Alike (fun a b=>a=b) (effsS ws f es) (effsI ws f es)
 |0,es=>Alike.pure rfl
 | f+1,es=>by
   unfold effsS effsI;refine z41 h ?_ ?_ ?_ (Alike.pure rfl)
   .decide
   .decide
   refine Alike.bind name_alike ?_ ?_
   .rintro x y rfl;refine Alike.bind (take_alike h ?_ ?_) ?_ ?_
    .decide
    .decide
    .intro _ _ _;refine Alike.bind (base_alike h) ?_ ?_
     .rintro a b rfl;refine Alike.bind (take_alike h ?_ ?_) ?_ ?_
      .decide
      .decide
      .intro _ _ _;refine Alike.bind (base_alike h) ?_ ?_
       .rintro r r' rfl;refine Alike.bind (take_alike h ?_ ?_) ?_ ?_
        .decide
        .decide
        .intro _ _ _;exact effs_alike h f _
        .exact fun _=>effs_stuck f _
       .exact fun _=>z26 (z35 yh) (fun _=>effs_stuck f _)
      .exact fun _=>z26 base_stuck (fun _=>z26 (z35 yh) (fun _=>effs_stuck f _))
     .exact fun _=>z26 (z35 yh) (fun _=>z26 base_stuck (fun _=>z26 (z35 yh) (fun _=>effs_stuck f _)))
    .exact fun _=>z26 base_stuck (fun _=>z26 (z35 yh) (fun _=>z26 base_stuck (fun _=>z26 (z35 yh) (fun _=>effs_stuck f _))))
   .exact fun _=>z26 (z35 yh) (fun _=>z26 base_stuck (fun _=>z26 (z35 yh) (fun _=>z26 base_stuck (fun _=>z26 (z35 yh) (fun _=>effs_stuck f _)))))
variable (ws)
def wholeS:(List Ef×List Nd)×Ps:=bindS (effsS ws (ws.length+1) []) (fun es=>bindS (spz ws (16*ws.length+11) .expr) (fun ns=>pureS (es,ns))) ⟨0,false⟩
def wholeI:Except Nat ((List Ef×Tr)×Nat):=bindI (effsI ws (ws.length+1) []) (fun es=>bindI (ipz ws (16*ws.length+11) .expr) (fun t=>pureI (es,t))) 0
variable {ws}
theorem whole_alike (h:WordsOk ws):match wholeI ws with
 |.ok r=>wholeS ws=((r.1.1,Tr.flat r.1.2),⟨r.2,false⟩)
 |.error j=>(wholeS ws).2=⟨j,true⟩:=by
 have ha:Alike (fun(a:List Ef×List Nd) (b:List Ef×Tr)=>a.1=b.1/\a.2=Tr.flat b.2) (bindS (effsS ws (ws.length+1) []) (fun es=>bindS (spz ws (16*ws.length+11) .expr) (fun ns=>pureS (es,ns)))) (bindI (effsI ws (ws.length+1) []) (fun es=>bindI (ipz ws (16*ws.length+11) .expr) (fun t=>pureI (es,t)))):=by
  refine Alike.bind (effs_alike h _ _) ?_ ?_
  .rintro es es' rfl;refine Alike.bind (parse_alike h _ NtR.expr) ?_ ?_
   .intro ns t hf;exact Alike.pure ⟨rfl,hf⟩
   .exact fun _=>z27 _
  .exact fun _=>z26 (stuck_all _ _) (fun _=>z27 _)
 have hs:=ha.same 0;unfold wholeI wholeS;split
 .rename_i r hr;rw[hr]at hs;obtain⟨⟨a,b⟩,h1,h2,h3⟩:=hs;dsimp only at h2 h3;rw[h1,h2,h3]
 .rename_i j hr;rw[hr]at hs;exact hs
end
def TrOk (t:Tr):Prop:=t.1.kids=t.2.count/\t.2.wf
def AllI {α:Type}(P:α->Prop) (p:PI α):Prop:= ∀i r,p i=.ok r->P r.1
section
variable {α β:Type}{P:α->Prop}{Q:β->Prop}
theorem AllI.bind {p:PI α}{k:α->PI β}(h:AllI P p) (hk:∀a,P a->AllI Q (k a)):AllI Q (bindI p k):=fun i r hr=>by
 unfold bindI at hr
 cases he:p i with
 | error j=>
   rw[he]at hr
   cases hr
 | ok x=>
   rw[he]at hr;exact hk x.1 (h i x he) x.2 r hr
theorem AllI.pure {a:α}(h:P a):AllI P (pureI a):=fun i r hr=>by
 cases hr;exact h
theorem AllI.any (p:PI α):AllI (fun _=>True) p:=fun _ _ _=>trivial
theorem AllI.or {ws:List Wd}{p q:PI α}(h1:AllI P p) (h2:AllI P q):AllI P (orI ws l p q):=fun i r hr=>by
 unfold orI at hr;split at hr
 .exact h1 _ r hr
 .exact h2 _ r hr
theorem AllI.skip {p:PI α}{k:α->PI β}(hk:∀a,AllI Q (k a)):AllI Q (bindI p k):=AllI.bind (AllI.any p) (fun a _=>hk a)
end
theorem foL_count:∀(l:List Tr),(foL l).count=l.length
 |[]=>rfl
 |t::r=>by simp[foL,Fo.count,foL_count r]
theorem foL_wf:∀(l:List Tr),(∀t∈l,TrOk t)->(foL l).wf
 |[],_=>trivial
 |t::r,h=>⟨(h t yn).1,(h t yn).2,foL_wf r (fun x hx=>h x (by simp[hx]))⟩
theorem mk_ok (n:Nd) (ks:List Tr) (h:∀t∈ks,TrOk t):TrOk (mkT n ks):=by
 refine⟨?_,foL_wf ks h⟩;show(ks.length:Int)=((foL ks).count:Int);rw[foL_count]
def NtOk:Nt Tr->Prop
 |.sumL a=>TrOk a
 |.prodL a=>TrOk a
 |.callL a=>TrOk a
 |.opsL _ ks=> ∀t∈ks,TrOk t
 |_=>True
theorem ok0 (n:Nd):TrOk (mkT n []):=mk_ok n [] (fun t ht=>by cases ht)
theorem ok1 {n:Nd}(h:TrOk a):TrOk (mkT n [a]):=mk_ok n [a] (fun t ht=>by simp at ht;subst ht;exact h)
theorem ok2 {n:Nd}{b:Tr}(h:TrOk a) (h':TrOk b):TrOk (mkT n [a,b]):=mk_ok n [a,b] (fun t ht=>mv)
theorem ok3 {n:Nd}{b c:Tr}(h:TrOk a) (h':TrOk b) (h'':TrOk c):TrOk (mkT n [a,b,c]):=mk_ok n [a,b,c] (fun t ht=>mw)
section
variable {ws:List Wd}{go:Nt Tr->PI Tr}
theorem step_ok (hg:∀nt,NtOk nt->AllI TrOk (go nt)):∀nt,NtOk nt->AllI TrOk (stepI ws go nt):=by
 have ex:=hg .expr trivial;have at':= hg .atom trivial;have cl:=hg .call trivial;have pr:=hg .prod trivial;have sm:=hg .sum trivial;intro nt hn
 cases nt with
 | expr=>
   refine AllI.or (AllI.or ?_ ?_) (AllI.or ?_ (AllI.or ?_ (AllI.or ?_ (hg .cons trivial))))
   .exact AllI.skip fun _=>AllI.skip fun _=>AllI.skip fun _=>ex.bind fun a ha=>AllI.skip fun _=>ex.bind fun b hb=>AllI.pure (ok2 ha hb)
   .exact AllI.skip fun _=>AllI.skip fun _=>ex.bind fun a ha=>AllI.skip fun _=>ex.bind fun b hb=>AllI.pure (ok2 ha hb)
   .exact ex.bind fun a ha=>AllI.skip fun _=>ex.bind fun b hb=>AllI.skip fun _=>ex.bind fun c hc=>AllI.pure (ok3 ha hb hc)
   .exact AllI.skip fun _=>AllI.skip fun _=>ex.bind fun a ha=>AllI.pure (ok1 ha)
   .exact ex.bind fun a ha=>AllI.skip fun _=>AllI.skip fun _=>AllI.skip fun _=>ex.bind fun b hb=>AllI.skip fun _=>AllI.skip fun _=>AllI.skip fun _=>AllI.skip fun _=>AllI.skip fun _=>ex.bind fun c hc=>AllI.pure (ok3 ha hb hc)
 |cons=>exact(hg .comp trivial).bind fun a ha=>AllI.or ((hg .cons trivial).bind fun b hb=>AllI.pure (ok2 ha hb)) (AllI.pure ha)
 |comp=>exact sm.bind fun a ha=>AllI.or (sm.bind fun b hb=>AllI.pure (ok2 ha hb)) (AllI.or (sm.bind fun b hb=>AllI.pure (ok2 ha hb)) (AllI.pure ha))
 |sum=>exact pr.bind fun a ha=>hg (.sumL a) ha
 |prod=>exact cl.bind fun a ha=>hg (.prodL a) ha
 |sumL a=>exact AllI.or (pr.bind fun b hb=>hg (.sumL _) (ok2 hn hb)) (AllI.or (pr.bind fun b hb=>hg (.sumL _) (ok2 hn hb)) (AllI.pure hn))
 |prodL a=>exact AllI.or (cl.bind fun b hb=>hg (.prodL _) (ok2 hn hb)) (AllI.pure hn)
 | call=>
   refine AllI.bind (P:=TrOk) ?_ fun a ha=>hg (.callL a) ha
   exact AllI.or (at'.bind fun a ha=>AllI.pure (ok1 ha)) (AllI.or (at'.bind fun a ha=>AllI.pure (ok1 ha)) (AllI.or (at'.bind fun a ha=>AllI.pure (ok1 ha)) (AllI.or (AllI.skip fun _=>at'.bind fun a ha=>AllI.pure (ok1 ha)) at')))
 | callL a=>
   intro i r hr;simp only[stepI,callLI]at hr;split at hr
   .exact(at'.bind fun b hb=>hg (.callL (mkT (nd0 7) [a,b])) (ok2 hn hb)) i r hr
   .exact AllI.pure (show TrOk a from hn) i r hr
 | atom=>
   intro i r hr;simp only[stepI,atomI]at hr;split at hr
   ·have hb:AllI TrOk (brackI ws go):=AllI.or (AllI.pure (ok0 _)) (ex.bind fun a ha=>AllI.or (ex.bind fun b hb=>AllI.skip fun _=>AllI.pure (ok2 ha hb)) (AllI.skip fun _=>AllI.pure ha));have hw:∀w,AllI TrOk (wordI ws go w):=fun w=>by
     unfold wordI;split
     .exact AllI.pure (ok0 _)
     split
     .exact AllI.pure (ok0 _)
     split
     .exact AllI.pure (ok0 _)
     split
     .exact AllI.pure (ok0 _)
     split
     .exact AllI.pure (ok0 _)
     split
     .exact hg (.hand 23) trivial
     split
     .exact hg (.hand 24) trivial
     .exact hb
    exact hw _ _ r hr
   .cases hr
 | hand k=>
   refine ex.bind fun a ha=>AllI.skip fun _=>AllI.skip fun _=>AllI.skip fun x=>AllI.skip fun _=>ex.bind fun b hb=>hg (.opsL k [a,mkT (nd1 25 x) [b]]) (show ∀t∈ [a,mkT (nd1 25 x) [b]],TrOk t from fun t ht=>?_)
   simp only[List.mem_cons,List.not_mem_nil,or_false]at ht;rcases ht with rfl|rfl
   .exact ha
   .exact ok1 hb
 | opsL k ks=>
   refine AllI.or ?_ (AllI.skip fun _=>AllI.pure (mk_ok _ _ hn));refine AllI.skip fun _=>AllI.skip fun _=>AllI.skip fun _=>AllI.skip fun _=>ex.bind fun e he=>hg (.opsL k _) (fun t ht=>?_)
   rw[List.mem_append,List.mem_singleton]at ht;rcases ht with ht|rfl
   .exact hn t ht
   .exact ok1 he
theorem read_ok:∀(f:Nat) (nt:Nt Tr),NtOk nt->AllI TrOk (ipz ws f nt)
 |0,_,_=>fun i r hr=>by cases hr
 |f+1,nt,hn=>step_ok (fun nt hn=>read_ok f nt hn) nt hn
theorem whole_ok {r:(List Ef×Tr)×Nat}(h:wholeI ws=.ok r):TrOk r.1.2:=by
 have hA:AllI (fun x:List Ef×Tr=>TrOk x.2) (bindI (effsI ws (ws.length+1) []) (fun es=>bindI (ipz ws (16*ws.length+11) .expr) (fun t=>pureI (es,t)))):=
  AllI.skip fun es=>(read_ok _ .expr trivial).bind fun t ht=>AllI.pure ht
 exact hA 0 r h
end
end
section
open Go.RowKit Go.Deep
def NumB (t:ByteArray):Prop:=t.size<=9/\ ∀b∈t.toList,48<=b.toNat/\b.toNat<=57
def NumW (ws:List Wd):Prop:= ∀w∈ws,w.kind=1->NumB w.text
theorem numZ_app (l:List UInt8) (b:UInt8):numZ (l++ [b])=10*numZ l+(b.toNat-48):=by
 unfold numZ;rw[List.foldl_append];rfl
theorem z67 (t:ByteArray):t.toList=t.data.toList:=ByteArray.toList_eq t
theorem take_next (t:ByteArray) {k:Nat}(h:k<t.size):t.toList.take (k+1)=t.toList.take k++ [t[k]'h]:=by
 rw[z67];have h':k<t.data.toList.length:=zn;rw[List.take_add_one,List.getElem?_eq_getElem h'];rfl
theorem num_calls (t:ByteArray) (ht:NumB t) (W:World) :
 Calls prog 152 #[.string t] W fun e W'=> e=.returned (.int .i64 (numZ t.toList:Int))/\W=W':= by
 obtain⟨R,hR⟩:∃R,numZ t.toList=R:=⟨_,rfl⟩
 have HR:=J hR;rw[hR];clear hR;have HT:=J ht;clear ht;go_enter func152,ntmps152
 go_wp2_with fail
 go_loop [3,4] (fun n i=> ∃k m:Nat,i=.int .i64 k/\n=.int .i64 m/\k<=t.size/\I (m=numZ (t.toList.take k)/\m<10 ^ k)) (fun _ i=>t.size-(intOf i).toNat)
 case atStart=>exact⟨0,0,rfl,rfl,Li _,rfl,yh⟩
 case round=>
  obtain⟨k,m,rfl,rfl,hk,HM⟩:=hrel;by_cases hlt:k<t.size
  .obtain⟨x,hx⟩:∃x:Nat,(t[k]'hlt).toNat=x:=⟨_,rfl⟩
   have h9:=HT.o.1;have hmem:(t[k]'hlt)∈t.toList:=by rw[z67];exact List.getElem_mem (l:=t.data.toList) (by simpa using hlt)
   have hd:=HT.o.2 _ hmem;rw[hx]at hd;have hp:10 ^ k<=10 ^ 8:=Nat.pow_le_pow_right yh yf;have hp8:(10:Nat) ^ 8=100000000:=yh;have hm:=HM.o.2;have w1:wrap64 (10*(m:Int))=10*(m:Int):=my;have w2:wrap64 (10*(m:Int)+((x:Int)-48) % 256)=((10*m+(x-48):Nat):Int):=my;have W1:=J w1;have W2:=J w2;have HN:=J (show 10*m+(x-48)=numZ (t.toList.take (k+1))/\10*m+(x-48)<10 ^ (k+1) from by
    rw[take_next t hlt,numZ_app,<-HM.o.1,hx];refine⟨rfl,?_⟩;rw[Nat.pow_succ];omega)
   have HS:=J (z18 (x:=k) yf);clear w1 w2 hp hp8 hm hd hmem h9;go_wp2_with fail
   rw[W1.o,W2.o,HS.o];exact⟨⟨k+1,_,rfl,rfl,yf,HN⟩,yl⟩
  ·have hf:=J (show m=R by
    have h:t.toList.length<=k:=by
     rw[z67,Array.length_toList];exact Nat.le_of_not_lt hlt
    rw[HM.o.1,<-HR.o,List.take_of_length_le h])
   have hkk:t.size<=k:=yf;go_wp2_with fail
   go_ret;rw[hf.o];exact⟨rfl,rfl⟩
end
end Go.Proofs.YtfbojelpdccjaaaGreatDoor
