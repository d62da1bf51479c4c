import Derived.Test.YtbbffkiobmbkfaaGreatDoorPkV26
open Go.Proofs.Tryz
open Go.Value Go.IntKind
set_option maxHeartbeats 8000000
set_option maxRecDepth 100000
namespace Go.Proofs.YtbbffkiobmbkfaaGreatDoor
open Go.RowKit Go.Deep
variable {d:Dr}{es:List Ef}{ns:List Nd}{bp i n p q rb:Nat}{ve vt:Value}{W X Z:World}
section
open Go.RowKit Go.Deep
def GTr (ns:List Nd):Prop:= ∃(n:Nd) (k:Fo),ns=n::k.flat/\n.kids=k.count/\k.wf/\ns.length<=300
theorem tr_of_ans (h:SpecAns ns true):GTr ns:=by
 rcases h with ⟨-,h⟩|⟨-,-,-,h⟩|⟨h1,h2,n,k,e1,e2,e3,-⟩
 .cases h
 .cases h
 .exact⟨n,k,e1,e2,e3,h2⟩
theorem prog_true {T:Bool}(h:progZ es ns T=true):T=true:=by
 unfold progZ at h
 cases T
 .simp at h
 .rfl
def ProgPost (d:Dr) (W:World) (p:Nat) (e:Ending) (W':World):Prop:=
 ∃ad n cp vt es ns p',e=.returned (.agg #[.slice ad n cp,vt])/\EffsD d W' (.slice ad n cp) es/\es.length<=4/\NodesD d W' vt ns/\GTr ns/\Rdr d W' p'/\p'<=p+200000/\Grew d W W'
structure Pg (d:Dr) (W X:World) (p p':Nat) (rb:Nat):Prop where
 rd:Rdr d X p'
 gr:Grew d W X
 res:X.heap[rb]?=some (.cells #[.slice none 0 0,.slice none 0 0] 26)
 low:W.heap.size<=rb
theorem pick_either2 {P:Program}{l0:List Oper}{Q:Exit->Act->World->Prop}{S:World->Prop}{j:Nat}{ls:Array Bool}{a:Act}{w:World}(hr:(Region.ready .any l0.toArray ls== [i,j])=true) (h1:PickCl P l0 Q S n ls a w i) (h2:PickMk P l0 Q S n ls a w j):wpAnyH P .any l0.toArray (NoPanic Q) S (n+1) ls a w:=by
 refine zb94 ?_;unhygienic intros
 rcases hk with rfl|rfl
 .exact h1.op
 .exact h2.op
theorem made_bools (n:Nat) (hn:n<=1000) (w:World):∃c:Array Value,c=madeCells #[.bool false] n/\(Instr.makeSlice 164 (int i64 (n:Int)) (int i64 (n:Int))).run prog w=.ok (.slice (some ⟨w.heap.size,0,none⟩) n n) (w.alloc (.cells c 4)):=by
 obtain⟨i0,hi,hz0,hz1,hz2⟩:=info_parts info_bool;have h:=run_make (P:=prog) w 164 4 i0 _ underlying164 hi hz0 .i64 .i64 n n ya (Int.le_refl _) (by rw[hz2];omega) ya;rw[hz1]at h;simp only[Lp,Nat.mul_one]at h;exact⟨_,rfl,h⟩
theorem bools_made {c:Array Value}(hc:c=madeCells #[.bool false] n) (h1:d.B<X.heap.size) (h2:d.G<X.heap.size):BoolsD d (X.alloc (.cells c 4)) (.slice (some ⟨X.heap.size,0,none⟩) n n) (List.replicate n false):=by
 subst hc;have hh:=(Ld X (.cells (madeCells #[.bool false] n) 4)).1;unfold BoolsD;rw[List.length_replicate];refine Or.inr ⟨_,0,_,rfl,La,rfl,⟨z13 hh,ya,ya⟩,fun i hi=>?_⟩;rw[Nat.mul_one]at hi;rw[Nat.zero_add,z11 hh i];have e:(madeCells #[.bool false] n)[i]?=some (.bool false):=by simp[madeCells,hi,Nat.mod_one]
 rw[e];simp[List.getD,hi]
structure Fi (d:Dr) (W:World) (p i rb bp:Nat) (ve vt:Value) (es:List Ef) (ns:List Nd) (Z:World) (q:Nat):Prop where
 rd:Rdr d Z q
 cost:q<=p+30000*(i+1)
 gr:Grew d W Z
 res:Z.heap[rb]?=some (.cells #[.slice none 0 0,.slice none 0 0] 26)
 low:W.heap.size<=rb
 box:Z.heap[bp]?=some (.cells #[ve,vt] 26)
 effs:EffsD d Z ve es
 some_:1<=es.length
 nodes:NodesD d Z vt ns
 any:1<=ns.length/\ns.length<=100000
theorem Fi.below {Z':World}(h:Fi d W p i rb bp ve vt es ns Z q) (hb:Below Z.heap.size Z Z'):Fi d W p i rb bp ve vt es ns Z' q:=
 ⟨h.rd.below hb,h.cost,h.gr.trans (Grew.of_below hb),(hb.block _ (z13 h.res)).trans h.res,h.low,(hb.block _ (z13 h.box)).trans h.box,h.effs.grew (Grew.of_below hb),h.some_,h.nodes.grew (Grew.of_below hb),h.any⟩
theorem Fi.lies (h:Fi d W p i rb bp ve vt es ns Z q) :
 ∃be ce bt ct,ve=.slice (some ⟨be,0,none⟩) es.length ce/\vt=.slice (some ⟨bt,0,none⟩) ns.length ct/\be<Z.heap.size/\bt<Z.heap.size/\EffsAt Z be 0 es/\NodesAt Z bt 0 ns/\ns.length<=1048576:=by
 have h1:=h.some_;have h2:=h.any;obtain⟨⟨-,h0⟩|⟨be,off,ce,e1,-,rfl,hq,hc⟩,-⟩:=h.effs
 .omega
 obtain⟨⟨-,h0⟩|⟨bt,off,ct,e2,-,rfl,hq',hc'⟩,-⟩:=h.nodes
 .omega
 refine⟨be,ce,bt,ct,e1,e2,hq.1,hq'.1,fun k hk c hc2=>?_,fun k hk c hc2=>?_,ya⟩
 .rw[Nat.add_assoc,hc (k*3+c) ya];exact congrArg some (cell_div es Ef.cell 3 k c hc2)
 .rw[Nat.add_assoc,hc' (k*6+c) ya];exact congrArg some (cell_div ns Nd.cell 6 k c hc2)
theorem lies_not {v:Value}{sz:Nat}{F:Nat->Value}{u0 u1:Value}{t:TypeId}(h:Lies d W v n sz F) (hn:0<n*sz) (hb:W.heap[bp]?=some (.cells #[u0,u1] t)) (hne:F 0≠u0) (hX:∀q,q≠bp->X.heap[q]?=W.heap[q]?) (hs:X.heap.size=W.heap.size):Lies d X v n sz F:=by
 rcases h with h|⟨b,off,cap,h1,h2,rfl,h4,h5⟩
 .exact Or.inl h
 ·refine Or.inr ⟨b,0,cap,h1,h2,rfl,⟨yax,h4.2⟩,fun i hi=>?_⟩;have hbb:b≠bp:=fun e=>by
   subst e;have e1:=h5 0 hn;rw[Nat.zero_add,z11 hb 0]at e1;simp at e1;exact hne e1.symm
  exact(Lj (a:=⟨b,0+i,none⟩) (hX b hbb)).trans (h5 i hi)
theorem rdr_not {a1 c1 a2 c2:Option Addr×Nat×Nat}{u0 u1:Value}(hu0:u0=.slice a1.1 a1.2.1 a1.2.2) (hu1:u1=.slice a2.1 a2.2.1 a2.2.2) (h:Rdr d W p) (hb:W.heap[bp]?=some (.cells #[u0,u1] 26)) (hX:∀q,q≠bp->X.heap[q]?=W.heap[q]?) (hs:X.heap.size=W.heap.size) (_:c1=c2):Rdr d X p:=by
 subst hu0;subst hu1;have hne:d.B≠bp:=fun e=>by
  have:=h.blk;rw[e,hb]at this;simp at this
 refine⟨(hX _ hne).trans h.blk,fun hl=>?_⟩;obtain⟨b,off,ea,hq,hz⟩:=h.bytes hl;have hbb:b≠bp:=fun e=>by
  subst e;obtain⟨z,hz,-⟩:=hz 0 hl;rw[z11 hb]at hz;match off,hz with
  |0,hz=>simp at hz
  |1,hz=>simp at hz
  |_+2,hz=>simp at hz
 refine⟨b,off,ea,⟨zp,hq.2⟩,fun i hi=>?_⟩;obtain⟨z,hz,h2⟩:=hz i hi;exact⟨z,(Lj (a:=⟨b,off+i,none⟩) (hX b hbb)).trans hz,h2⟩
theorem prog_rest {Y X1 X2 X4:World}{p':Nat}{ade:Option Addr}{cpe:Nat}{s s':Cn}{t0 t' c:Nat}{adt:Option Addr}{cpt:Nat}(hG:d.G=d.B) (hP:Pg d W Y p p' rb) (hc:p'<=p+30000*i) (hg1:Grew d Y X1) (hg2:Grew d X1 X2) (he:EffsD d X1 (.slice ade es.length cpe) es) (h1:1<=es.length) (hb24:Below X2.heap.size X2 X4) (hs:s.p=p'+ 1+1) (hleft:s.left<=89) (hcC:c<=20)
 (ha:At (d.on X2.heap.size) (.slice ade es.length cpe) X4 s X s' (t0+t') c) (hb:X.heap[X2.heap.size+1]?=some (.cells #[.slice ade es.length cpe,.slice none 0 0] 26)) (hn:NodesD (d.on X2.heap.size) X (.slice adt ns.length cpt) ns) (hl:1<=ns.length/\ns.length<=t') :
 Fi d W p i rb (X2.heap.size+1) (.slice ade es.length cpe) (.slice adt ns.length cpt) es ns (X.setCell ⟨X2.heap.size+1,1,none⟩ (.slice adt ns.length cpt)) s'.p:=by
 have hX:∀q,q≠X2.heap.size+1->(X.setCell ⟨X2.heap.size+1,1,none⟩ (.slice adt ns.length cpt)).heap[q]?=X.heap[q]? :=fun q hq=>Lg X ⟨X2.heap.size+1,1,none⟩ _ q hq
 have hs':(X.setCell ⟨X2.heap.size+1,1,none⟩ (.slice adt ns.length cpt)).heap.size=X.heap.size:=qo;have hYX:Grew d Y X2:=hg1.trans hg2;have hlow:=hP.low;have hrb:=z13 hP.res;have hYs:=hYX.size;have hWX:Grew d W X:=((hP.gr.trans hYX).trans (Grew.of_below hb24)).off ha.2.1 (by have:=hP.gr.size;omega);have hsp:=ha.2.2;unfold Spent at hsp;have hrbB:rb≠d.B:=fun e=>by
  have:=hP.rd.blk;rw[<-e,hP.res]at this;simp at this
 have hrX:X.heap[rb]?=some (.cells #[.slice none 0 0,.slice none 0 0] 26):=by
  rw[ha.2.1.block rb ⟨by have:=hb24.size;omega,hrbB,by show rb≠X2.heap.size;omega⟩,hb24.block rb ya,hYX.block rb ⟨hrb,hrbB,by rw[hG];exact hrbB⟩];exact hP.res
 refine⟨rdr_not (a1:=(ade,es.length,cpe)) (a2:=(none,0,0)) (c1:=(none,0,0)) rfl rfl (ha.1.rd.off hG) hb hX hs' rfl,ya,⟨hWX.os,hWX.tape,hWX.output,by rw[hs'];exact hWX.size,fun q hq=>(hX q (by have:=hq.1;have:=hP.gr.size;omega)).trans (hWX.block q hq)⟩,(hX rb ya).trans hrX,hlow,z68 hb,?_,h1,?_,ya⟩
 .refine⟨lies_not ((he.1.grew hg2).on hb24 La |>.grew ha.2.1 |>.off hG) ya hb (fun e=>?_) hX hs',he.2⟩;simp only[Nat.zero_div,Nat.zero_mod]at e
  cases e
 .refine⟨lies_not (hn.1.off hG) ya hb (fun e=>?_) hX hs',hn.2⟩;simp only[Nat.zero_div,Nat.zero_mod]at e
  cases e
theorem Fi.stored (h:Fi d W p i rb bp ve vt es ns Z q) (u0 u1:Value) :
 EffsD d ((Z.setCell ⟨rb,0,none⟩ u0).setCell ⟨rb,1,none⟩ u1) ve es/\NodesD d ((Z.setCell ⟨rb,0,none⟩ u0).setCell ⟨rb,1,none⟩ u1) vt ns/\Rdr d ((Z.setCell ⟨rb,0,none⟩ u0).setCell ⟨rb,1,none⟩ u1) q/\Grew d W ((Z.setCell ⟨rb,0,none⟩ u0).setCell ⟨rb,1,none⟩ u1):=by
 have hX:∀k,k≠rb->((Z.setCell ⟨rb,0,none⟩ u0).setCell ⟨rb,1,none⟩ u1).heap[k]?=Z.heap[k]? :=fun k hk=>(Lg _ ⟨rb,1,none⟩ _ k hk).trans (Lg Z ⟨rb,0,none⟩ _ k hk)
 have hs':((Z.setCell ⟨rb,0,none⟩ u0).setCell ⟨rb,1,none⟩ u1).heap.size=Z.heap.size:=qo;have h1:=h.some_;have h2:=h.any;have hlow:=h.low;refine⟨⟨lies_not h.effs.1 ya h.res (fun e=>?_) hX hs',h.effs.2⟩,⟨lies_not h.nodes.1 ya h.res (fun e=>?_) hX hs',h.nodes.2⟩,rdr_not (a1:=(none,0,0)) (a2:=(none,0,0)) (c1:=(none,0,0)) rfl rfl h.rd h.res hX hs' rfl,⟨h.gr.os,h.gr.tape,h.gr.output,by rw[hs'];exact h.gr.size,fun k hk=>(hX k yay).trans (h.gr.block k hk)⟩⟩
 .simp only[Nat.zero_div,Nat.zero_mod]at e
  cases e
 .simp only[Nat.zero_div,Nat.zero_mod]at e
  cases e
theorem fall_back {Y:World}{p':Nat}{v:Value}{n:Nd}(hP:Pg d W Y p p' rb) (hb:Below Y.heap.size Y Z) (hn:NodesD d Z v [n]) (u0 u1:Value) :
 NodesD d ((Z.setCell ⟨rb,0,none⟩ u0).setCell ⟨rb,1,none⟩ u1) v [n]/\Rdr d ((Z.setCell ⟨rb,0,none⟩ u0).setCell ⟨rb,1,none⟩ u1) p'/\Grew d W ((Z.setCell ⟨rb,0,none⟩ u0).setCell ⟨rb,1,none⟩ u1):=by
 have hX:∀k,k≠rb->((Z.setCell ⟨rb,0,none⟩ u0).setCell ⟨rb,1,none⟩ u1).heap[k]?=Z.heap[k]? :=fun k hk=>(Lg _ ⟨rb,1,none⟩ _ k hk).trans (Lg Z ⟨rb,0,none⟩ _ k hk)
 have hs':((Z.setCell ⟨rb,0,none⟩ u0).setCell ⟨rb,1,none⟩ u1).heap.size=Z.heap.size:=qo;have hres:=(hb.block _ (z13 hP.res)).trans hP.res;have hlow:=hP.low;have hg:=hP.gr.trans (Grew.of_below hb);refine⟨⟨lies_not hn.1 yq hres (fun e=>?_) hX hs',hn.2⟩,rdr_not (a1:=(none,0,0)) (a2:=(none,0,0)) (c1:=(none,0,0)) rfl rfl (hP.rd.below hb) hres hX hs' rfl,⟨hg.os,hg.tape,hg.output,by rw[hs'];exact hg.size,fun k hk=>(hX k yay).trans (hg.block k hk)⟩⟩;simp only[Nat.zero_div,Nat.zero_mod]at e
 cases e
theorem prog_calls (hG:d.G=d.B) (h:Rdr d W p) (hp:p<=500000):Calls prog 34 #[.pointer (some ⟨d.B,0,none⟩)] W (ProgPost d W p):=by
 have hB:=z13 h.blk;have HG:=U hG;have HPl:=U hp;have P0:O (Pg d W (W.alloc (.cells #[.slice none 0 0,.slice none 0 0] 26)) p p W.heap.size):=⟨h.below (Lb.alloc La _),(Grew.refl d W).alloc _,(Ld W _).1,La⟩
 clear hG h hp;go_enter func34,ntmps34
 go_wp2_with fail
 obtain⟨rb,hrb⟩:∃rb,W.heap.size=rb:=⟨_,rfl⟩
 have HRb:=U hrb;rw[hrb]at P0 |-;clear hrb;go_loopw [3] (fun i wr=> ∃(i' p':Nat),i=int i64 i'/\i'<=6/\O (Pg d W wr p p' rb/\p'<=p+30000*i')) (fun i _=>6-(intOf i).toNat)
 case atStart=>exact⟨0,p,rfl,Li _,P0.o,ya⟩
 case round=>
  obtain⟨i',p',rfl,hle,HP⟩:=hrel;rename World=>Y
  by_cases hi:(i':Int)<6
  .have hstep:6-(intOf (int i64 ((i'+ 1:Nat):Int))).toNat<6-(intOf (int i64 (i':Int))).toNat:=by simp[intOf];omega
   have HE0:=U (effs_calls HG.o HP.o.1.rd yaz);go_wp2_with fail
   refine HE0.o.mono ?_;rintro e X1 ⟨ve,es,rfl,hes,hes1,hes4,hr1,hg1⟩;obtain⟨ade,cpe,rfl⟩:=hes.is;have E1:=U (Lc hes (Lc hes1 hes4));have R1:=U (Lc hr1 hg1);clear hes hes1 hes4 hr1 hg1 HE0;go_wp2_with fail
   refine(z52 R1.o.1 yaz 60 yk).mono ?_;rintro e X2 ⟨m2,rfl,hm0,hm1,hr2,hg2,-,-⟩;have R2:=U (Lc hr2 hg2);clear hr2 hg2;go_upto_region 6 with fail
   have hB2:Below X2.heap.size X2 ((X2.alloc (.cells #[.pointer (some ⟨d.B,0,none⟩),.slice ade es.length cpe,int i64 (30+m2),int i64 0] 162)).alloc (.cells #[.slice ade es.length cpe,.slice none 0 0] 26)):=(Lb.alloc La _).alloc yq _;have hG2:=(Ld X2 (.cells #[.pointer (some ⟨d.B,0,none⟩),.slice ade es.length cpe,int i64 (30+m2),int i64 0] 162)).1
   have hb3:Below (X2.alloc (.cells #[.pointer (some ⟨d.B,0,none⟩),.slice ade es.length cpe,int i64 (30+m2),int i64 0] 162)).heap.size (X2.alloc (.cells #[.pointer (some ⟨d.B,0,none⟩),.slice ade es.length cpe,int i64 (30+m2),int i64 0] 162)) ((X2.alloc (.cells #[.pointer (some ⟨d.B,0,none⟩),.slice ade es.length cpe,int i64 (30+m2),int i64 0] 162)).alloc (.cells #[.slice ade es.length cpe,.slice none 0 0] 26)):=Lb.alloc La _;have hG4:=(hb3.block X2.heap.size yq).trans hG2
   have hP4:=(Ld (X2.alloc (.cells #[.pointer (some ⟨d.B,0,none⟩),.slice ade es.length cpe,int i64 (30+m2),int i64 0] 162)) (.cells #[.slice ade es.length cpe,.slice none 0 0] 26)).1;rw[show(X2.alloc (.cells #[.pointer (some ⟨d.B,0,none⟩),.slice ade es.length cpe,int i64 (30+m2),int i64 0] 162)).heap.size=X2.heap.size+1 by simp]at hP4;clear hb3 hG2;generalize (X2.alloc (.cells #[.pointer (some ⟨d.B,0,none⟩),.slice ade es.length cpe,int i64 (30+m2),int i64 0] 162)).alloc (.cells #[.slice ade es.length cpe,.slice none 0 0] 26)=X4 at*;have HB2:=U hB2
   have A0:O (At (d.on X2.heap.size) (.slice ade es.length cpe) X4 ⟨p'+ 1+1,30+m2,0⟩ X4 ⟨p'+ 1+1,30+m2,0⟩ 0 0):=At.start ⟨R2.o.1.on HB2.o La,hG4,by have:=z13 R2.o.1.blk;show d.B≠X2.heap.size;omega⟩;have EF:O (EffsD (d.on X2.heap.size) X4 (.slice ade es.length cpe) es):=⟨(E1.o.1.1.grew R2.o.2).on HB2.o La,E1.o.1.2⟩
   have HF:O (Fit ⟨p'+ 1+1,30+m2,0⟩ 20):=by
    have:=HP.o.2;have:=HPl.o;unfold O Fit;dsimp only;omega
   have BP:=U hP4;have HQp:O ((d.on X2.heap.size).free X4 (X2.heap.size+1)):=⟨z13 hP4,by have:=z13 R2.o.1.blk;show X2.heap.size+1≠d.B;omega,by show X2.heap.size+1≠X2.heap.size;omega⟩
   clear hB2 hG4 hP4;refine z31 (S:=fun w'=> w'.cell? ⟨X2.heap.size,1,none⟩=some (.slice ade es.length cpe)) ye rfl rfl ?_;have A1:=U A0.o.drew;have G1:=U (Grew.refl (d.on X2.heap.size) X4).drew;generalize X4.drew=X11 at*;refine pick_o 0 (.pointer (some ⟨X2.heap.size,0,none⟩)) (A1.o.1.c1) ?_;refine pick_o 1 (.pointer (some ⟨d.B,0,none⟩)) (A1.o.1.c1) ?_;refine pick_o 4 (.pointer (some ⟨X2.heap.size,0,none⟩)) (A1.o.1.c1) ?_;refine pick_o 5 (.pointer (some ⟨X2.heap.size,0,none⟩)) (A1.o.1.c1) ?_;refine pick_o 6 (.pointer (some ⟨X2.heap.size,1,none⟩)) (A1.o.1.c1) ?_
   refine pick_o (hy:=fun w' hw=>ut) 7 (.slice ade es.length cpe) (A1.o.1.c1) ?_;refine pick_o 8 (int i64 (es.length:Int)) (A1.o.1.c1) ?_;refine pick_o 10 (.pointer (some ⟨d.B,0,none⟩)) (A1.o.1.c1) ?_;refine pick_either2 (i:=2) (j:=9) ye ?_ ?_
   .refine⟨_,35,#[.pointer (some ⟨d.B,0,none⟩),int i64 5],rfl,rfl,yf,?_⟩;refine(A1.o.pick HF.o ya 5 yk).mono ?_;rintro e X21 ⟨m21,s21,rfl,hm21,hM21,ha,(G21:O _)⟩;have A21:=U ha;clear ha;refine⟨_,rfl,(A21.o.1.c1),?_⟩;refine z25 yg ?_;have hwr21:IntKind.i64.wrap (1+m21)=1+m21:=ym;refine pick_o (hy:=fun w' hw=>by simp[go_sem,hwr21]) 3 (int i64 (1+m21)) (A21.o.1.c1) ?_;clear hwr21;refine z61 (i:=9) (j:=11) ye ?_ ?_
    .obtain⟨cb,hcb,hmk⟩:=made_bools es.length zo X21;have MB:O (BoolsD (d.on X2.heap.size) (X21.alloc (.cells cb 4)) (.slice (some ⟨X21.heap.size,0,none⟩) es.length es.length) (List.replicate es.length false)):=bools_made hcb A21.o.1.ltB A21.o.1.ltG;have A22:=U (A21.o.alloc (.cells cb 4));have G22:=U ((Grew.refl (d.on X2.heap.size) X21).alloc (.cells cb 4));refine⟨_,.slice (some ⟨X21.heap.size,0,none⟩) es.length es.length,X21.alloc (.cells cb 4),rfl,rfl,yba,(A22.o.1.c1),?_⟩;refine z25 yg ?_;clear hmk;obtain⟨qb,hqb⟩:∃q,X21.heap.size=q:=⟨_,rfl⟩
     generalize X21.alloc (.cells cb 4)=X22 at*;rw[hqb]at MB |-;clear hqb hcb;refine zb15 ?_;intro X23 m23 s23 hm23 hM23 G23 A23;refine z26 (i:=13) (f:=83) (args:= #[.pointer (some ⟨X2.heap.size,0,none⟩),int i64 (1+m21),.slice none 0 0,.slice (some ⟨qb,0,none⟩) es.length es.length,int i64 (4+m23)]) rfl ye rfl rfl yf ?_
     refine nE (A23.o.nodes (of_all 12 ya (4+m23) (1+m21) (.slice none 0 0) _ [] (List.replicate es.length false) _ _ ya ya (A23.o.fit HF.o 10 ya) A23.o.1 ⟨⟨Or.inl ⟨rfl,rfl⟩,fun k hk=>gj⟩,(MB.o.grew G23.o),yq,(EF.o.grew (G1.o.trans (G21.o.trans (G22.o.trans G23.o)))),yq,E1.o.2.2⟩)) fun X24 ad24 cp24 n24 s24 t24 N24 A24 G24=>?_
     refine zb27 ?_;intro BP2 cb0 fb0 cb1 CG;refine z38 (i:=15) (w1:=X24.setCell ⟨X2.heap.size+1,1,none⟩ (.slice ad24 n24.length cp24)) rfl rfl ye rfl rfl ybb ?_ ?_
     .exact(World.cell?_setCell_other _ _ _ _ (fun h=>ybc)).trans CG
     refine zb84 ?_;intro FIN;clear cb0 fb0 cb1 CG;generalize X24.setCell ⟨X2.heap.size+1,1,none⟩ (.slice ad24 n24.length cp24)=Z at*;refine zb28 ?_;intro cz0' cz1' R hR hcap be ce bt ct heE heT hbe hbt hEA hNA hl5;simp only[Value.slice.injEq]at heE heT;obtain⟨rfl,-,rfl⟩:=heE;obtain⟨rfl,-,rfl⟩:=heT;refine zb86 ?_;intro HPK HR;clear hbe hbt hEA hNA hl5 hR;go_wp2_with fail
     refine HPK.o.mono ?_;rintro e Z2 ⟨rfl,hbz⟩;have FZ:=U (FIN.o.below hbz);clear hbz HPK
     cases hpz:progZ es n24 R with
     | false=>
       go_wp2_with fail
       try rw[z30 ya]
       exact⟨⟨i'+ 1,_,rfl,ya,⟨FZ.o.rd,FZ.o.gr,FZ.o.res,FZ.o.low⟩,FZ.o.cost⟩,hstep⟩
     | true=>
       have HT:=U (tr_of_ans (ns:=n24) ybd);refine zb8 ?_;intro rz0' rz1' fz0 fz1 qz0' qz1' HFi;refine bodyPost_ret (v:=.agg #[.slice (some ⟨be,0,none⟩) es.length cpe,.slice (some ⟨bt,0,none⟩) n24.length cp24]) ?_ rfl ?_
       .simp[results,results34,go_sem,rz0',rz1']
       .exact⟨_,_,_,_,es,n24,_,rfl,HFi.o.1,E1.o.2.2,HFi.o.2.1,HT.o,HFi.o.2.2.1,ybe,HFi.o.2.2.2⟩
    .refine⟨_,35,#[.pointer (some ⟨d.B,0,none⟩),int i64 6],rfl,rfl,yf,?_⟩;refine(A21.o.pick HF.o ya 6 yk).mono ?_;rintro e X22 ⟨m22,s22,rfl,hm22,hM22,ha,(G22:O _)⟩;have A22:=U ha;clear ha;refine⟨_,rfl,(A22.o.1.c1),?_⟩;refine z25 yg ?_;have hwr22:IntKind.i64.wrap (4+m22)=4+m22:=ym;refine pick_o (hy:=fun w' hw=>by simp[go_sem,hwr22]) 12 (int i64 (4+m22)) (A22.o.1.c1) ?_;clear hwr22;obtain⟨cb,hcb,hmk⟩:=made_bools es.length zo X22
     have MB:O (BoolsD (d.on X2.heap.size) (X22.alloc (.cells cb 4)) (.slice (some ⟨X22.heap.size,0,none⟩) es.length es.length) (List.replicate es.length false)):=bools_made hcb A22.o.1.ltB A22.o.1.ltG;have A23:=U (A22.o.alloc (.cells cb 4));have G23:=U ((Grew.refl (d.on X2.heap.size) X22).alloc (.cells cb 4));refine z27 (i:=9) (v:=.slice (some ⟨X22.heap.size,0,none⟩) es.length es.length) (w1:=X22.alloc (.cells cb 4)) rfl ye rfl rfl yba (A23.o.1.c1) yg ?_;clear hmk;obtain⟨qb,hqb⟩:∃q,X22.heap.size=q:=⟨_,rfl⟩
     generalize X22.alloc (.cells cb 4)=X23 at*;rw[hqb]at MB |-;clear hqb hcb;refine z26 (i:=13) (f:=83) (args:= #[.pointer (some ⟨X2.heap.size,0,none⟩),int i64 (1+m21),.slice none 0 0,.slice (some ⟨qb,0,none⟩) es.length es.length,int i64 (4+m22)]) rfl ye rfl rfl yf ?_;refine nE (A23.o.nodes (of_all 12 ya (4+m22) (1+m21) (.slice none 0 0) _ [] (List.replicate es.length false) _ _ ya ya (A23.o.fit HF.o 10 ya) A23.o.1 ⟨⟨Or.inl ⟨rfl,rfl⟩,fun k hk=>gj⟩,MB.o,yq,(EF.o.grew (G1.o.trans (G21.o.trans (G22.o.trans G23.o)))),yq,E1.o.2.2⟩)) fun X24 ad24 cp24 n24 s24 t24 N24 A24 G24=>?_
     refine zb27 ?_;intro BP2 cb0 fb0 cb1 CG;refine z38 (i:=15) (w1:=X24.setCell ⟨X2.heap.size+1,1,none⟩ (.slice ad24 n24.length cp24)) rfl rfl ye rfl rfl ybb ?_ ?_
     .exact(World.cell?_setCell_other _ _ _ _ (fun h=>ybc)).trans CG
     refine zb84 ?_;intro FIN;clear cb0 fb0 cb1 CG;generalize X24.setCell ⟨X2.heap.size+1,1,none⟩ (.slice ad24 n24.length cp24)=Z at*;refine zb28 ?_;intro cz0' cz1' R hR hcap be ce bt ct heE heT hbe hbt hEA hNA hl5;simp only[Value.slice.injEq]at heE heT;obtain⟨rfl,-,rfl⟩:=heE;obtain⟨rfl,-,rfl⟩:=heT;refine zb86 ?_;intro HPK HR;clear hbe hbt hEA hNA hl5 hR;go_wp2_with fail
     refine HPK.o.mono ?_;rintro e Z2 ⟨rfl,hbz⟩;have FZ:=U (FIN.o.below hbz);clear hbz HPK
     cases hpz:progZ es n24 R with
     | false=>
       go_wp2_with fail
       try rw[z30 ya]
       exact⟨⟨i'+ 1,_,rfl,ya,⟨FZ.o.rd,FZ.o.gr,FZ.o.res,FZ.o.low⟩,FZ.o.cost⟩,hstep⟩
     | true=>
       have HT:=U (tr_of_ans (ns:=n24) ybd);refine zb8 ?_;intro rz0' rz1' fz0 fz1 qz0' qz1' HFi;refine bodyPost_ret (v:=.agg #[.slice (some ⟨be,0,none⟩) es.length cpe,.slice (some ⟨bt,0,none⟩) n24.length cp24]) ?_ rfl ?_
       .simp[results,results34,go_sem,rz0',rz1']
       .exact⟨_,_,_,_,es,n24,_,rfl,HFi.o.1,E1.o.2.2,HFi.o.2.1,HT.o,HFi.o.2.2.1,ybe,HFi.o.2.2.2⟩
   .obtain⟨cb,hcb,hmk⟩:=made_bools es.length zo X11;have MB:O (BoolsD (d.on X2.heap.size) (X11.alloc (.cells cb 4)) (.slice (some ⟨X11.heap.size,0,none⟩) es.length es.length) (List.replicate es.length false)):=bools_made hcb A1.o.1.ltB A1.o.1.ltG;have A21:=U (A1.o.alloc (.cells cb 4));have G21:=U ((Grew.refl (d.on X2.heap.size) X11).alloc (.cells cb 4));refine⟨_,.slice (some ⟨X11.heap.size,0,none⟩) es.length es.length,X11.alloc (.cells cb 4),rfl,rfl,yba,(A21.o.1.c1),?_⟩;refine z25 yg ?_;clear hmk;obtain⟨qb,hqb⟩:∃q,X11.heap.size=q:=⟨_,rfl⟩
    generalize X11.alloc (.cells cb 4)=X21 at*;rw[hqb]at MB |-;clear hqb hcb;refine z26 (i:=2) (f:=35) (args:= #[.pointer (some ⟨d.B,0,none⟩),int i64 5]) rfl ye rfl rfl yf ?_;refine(A21.o.pick HF.o ya 5 yk).mono ?_;rintro e X22 ⟨m22,s22,rfl,hm22,hM22,ha,(G22:O _)⟩;have A22:=U ha;clear ha;refine⟨_,rfl,(A22.o.1.c1),?_⟩;refine z25 yg ?_;have hwr22:IntKind.i64.wrap (1+m22)=1+m22:=ym;refine pick_o (hy:=fun w' hw=>by simp[go_sem,hwr22]) 3 (int i64 (1+m22)) (A22.o.1.c1) ?_;clear hwr22;refine zb15 ?_;intro X23 m23 s23 hm23 hM23 G23 A23
    refine z26 (i:=13) (f:=83) (args:= #[.pointer (some ⟨X2.heap.size,0,none⟩),int i64 (1+m22),.slice none 0 0,.slice (some ⟨qb,0,none⟩) es.length es.length,int i64 (4+m23)]) rfl ye rfl rfl yf ?_;refine nE (A23.o.nodes (of_all 12 ya (4+m23) (1+m22) (.slice none 0 0) _ [] (List.replicate es.length false) _ _ ya ya (A23.o.fit HF.o 10 ya) A23.o.1 ⟨⟨Or.inl ⟨rfl,rfl⟩,fun k hk=>gj⟩,(MB.o.grew (G22.o.trans G23.o)),yq,(EF.o.grew (G1.o.trans (G21.o.trans (G22.o.trans G23.o)))),yq,E1.o.2.2⟩)) fun X24 ad24 cp24 n24 s24 t24 N24 A24 G24=>?_
    refine zb27 ?_;intro BP2 cb0 fb0 cb1 CG;refine z38 (i:=15) (w1:=X24.setCell ⟨X2.heap.size+1,1,none⟩ (.slice ad24 n24.length cp24)) rfl rfl ye rfl rfl ybb ?_ ?_
    .exact(World.cell?_setCell_other _ _ _ _ (fun h=>ybc)).trans CG
    refine zb84 ?_;intro FIN;clear cb0 fb0 cb1 CG;generalize X24.setCell ⟨X2.heap.size+1,1,none⟩ (.slice ad24 n24.length cp24)=Z at*;refine zb28 ?_;intro cz0' cz1' R hR hcap be ce bt ct heE heT hbe hbt hEA hNA hl5;simp only[Value.slice.injEq]at heE heT;obtain⟨rfl,-,rfl⟩:=heE;obtain⟨rfl,-,rfl⟩:=heT;refine zb86 ?_;intro HPK HR;clear hbe hbt hEA hNA hl5 hR;go_wp2_with fail
    refine HPK.o.mono ?_;rintro e Z2 ⟨rfl,hbz⟩;have FZ:=U (FIN.o.below hbz);clear hbz HPK
    cases hpz:progZ es n24 R with
    | false=>
      go_wp2_with fail
      try rw[z30 ya]
      exact⟨⟨i'+ 1,_,rfl,ya,⟨FZ.o.rd,FZ.o.gr,FZ.o.res,FZ.o.low⟩,FZ.o.cost⟩,hstep⟩
    | true=>
      have HT:=U (tr_of_ans (ns:=n24) ybd);refine zb8 ?_;intro rz0' rz1' fz0 fz1 qz0' qz1' HFi;refine bodyPost_ret (v:=.agg #[.slice (some ⟨be,0,none⟩) es.length cpe,.slice (some ⟨bt,0,none⟩) n24.length cp24]) ?_ rfl ?_
      .simp[results,results34,go_sem,rz0',rz1']
      .exact⟨_,_,_,_,es,n24,_,rfl,HFi.o.1,E1.o.2.2,HFi.o.2.1,HT.o,HFi.o.2.2.1,ybe,HFi.o.2.2.2⟩
  .have hBY:=z13 HP.o.1.rd.blk;go_wp2_with fail
   refine(node_calls (d:=d) 1 7 Y hBY (by rw[HG.o];exact hBY)).mono ?_;rintro e Z ⟨v,rfl,hn,hb⟩;obtain⟨adv,cpv,rfl⟩:=hn.is;have HFb:=U (fall_back HP.o.1 hb hn (.slice none 0 0) (.slice adv 1 cpv));have hres:=(hb.block _ (z13 HP.o.1.res)).trans HP.o.1.res;obtain⟨rz0,rz1⟩:=fcl2 hres;obtain⟨fz0,fz1⟩:=ffz2 hres;clear hn hb hres;go_wp2_with fail
   refine bodyPost_ret (v:=.agg #[.slice none 0 0,.slice adv 1 cpv]) ?_ rfl ?_
   .simp[results,results34,go_sem,rz0,rz1]
   .exact⟨none,0,0,_,[],_,p',rfl,⟨Or.inl ⟨rfl,rfl⟩,fun e he=>by simp at he⟩,yq,HFb.o.1,⟨_,.none,rfl,rfl,trivial,yq⟩,HFb.o.2.1,by have:=HP.o.2;omega,HFb.o.2.2⟩
end
end Go.Proofs.YtbbffkiobmbkfaaGreatDoor
