import Derived.Test.YtfbojelpdccjaaaGreatDoorPkB27
import Derived.Test.YtfbojelpdccjaaaGreatDoorPkB28
import Derived.Test.YtfbojelpdccjaaaGreatDoorPkB26
set_option maxHeartbeats 8000000
set_option maxRecDepth 100000
namespace Go.Proofs.YtfbojelpdccjaaaGreatDoor
open Go.RowKit Go.Deep
variable {d : Dr} {G : Nat} {W W' : World}
section
open Go.RowKit Go.Deep
theorem of_zero {ve : Value} {es : List Ef} : OfC d ve es 0:=by
 intro deep ty v vm ks ms W s h1 h2 hf h hE;have hl:=h.setLeft (s.left - 1);have f2:=h.f2;have c2:=h.c2;have HW : Hid (wrap64 (s.left - 1)=s.left - 1):=by show _=_; unfold Fit at hf; unfold wrap64; omega
 have hd : deep≤1:=by omega
 obtain⟨ad,cp,rfl⟩:=hE.know.is;obtain⟨adm,cpm,rfl⟩:=hE.may.is;obtain⟨X,hX⟩ : ∃ X,W.setCell ⟨d.G,2,none⟩ (.int .i64 (s.left - 1))=X:=⟨_,rfl⟩
 rw [hX] at hl;have HX:=hid hX;obtain⟨s1,hs1⟩ : ∃ s1 : Cn,{ s with left:=s.left - 1 }= s1:=⟨_,rfl⟩
 rw [hs1] at hl;have e1 : s1.p=s.p:=by rw [← hs1]
 have e2 : s1.next=s.next:=by rw [← hs1]
 have e3 : s1.left=s.left - 1:=by rw [← hs1]
 have HFF:=hid (of_fit hf e1 e2 e3);have HP:=hid (fun (c : Nat) (e : Ending) (Y : World) (h : NodesPost d ve X s1 c e Y) (hc : c≤9∨(0 < s.left∧c≤300))=>of_post hl.2 e1 e2 e3 h hc);have A0:=hid (At.start hl.1);have HE:=hid (hE.grew hl.2);have g2:=hl.1.c2;have g0:=hl.1.c0;rw [e3] at g2;obtain⟨L,hL⟩ : ∃ L : Int,s.left - 1=L:=⟨_,rfl⟩
 have HLe:=hid hL;rw [hL] at g2;clear hl hf h hE hX hs1 e1 e2 e3 hL;go_enter Tryz.func70,Tryz.ntmps70
 go_upto_region 2 with fail
 try rw [HW.out]
 rw [HX.out];clear c2 f2 HW HX;have HLF:=hid (leaf_nine ty A0.out.1 HFF.out.1 HE.out.know (by have:=HE.out.room; omega));go_wp2_with fail
 refine HLF.out.mono ?_;rintro e Xl ⟨vl,nl,sl,tl,rfl,hnl,hll,hgl,hgrl,hspl⟩;have NL:=hid (And.intro hnl (And.intro hll (And.intro hgl (And.intro hgrl hspl))));clear hnl hll hgl hgrl hspl;go_wp2_with fail
 go_ret;exact HP.out 9 _ _ ⟨vl,nl,sl,tl,rfl,NL.out.1,NL.out.2.1,NL.out.2.2.1,NL.out.2.2.2.1,NL.out.2.2.2.2⟩ (Or.inl (by omega))
theorem of_all {d : Dr} {ve : Value} {es : List Ef} : ∀ D : Nat,D≤90→OfC d ve es D
 | 0,_=>of_zero
 | D+1,h=>of_step (by omega) (of_all D (by omega)) (fun ty deep v vm ks ms X s h1 h2 hG hF hE=>handler_calls ty deep (of_all D (by omega)) h1 h2 (by omega) hG hF hE)
def Dr.on (d : Dr) (G : Nat) : Dr:=⟨d.B,G,d.a0,d.len,d.cap⟩
theorem free_on {q : Nat} (h : d.free W q) (hs : W.heap.size≤W'.heap.size) (hg : W.heap.size≤G) : (d.on G).free W' q:=
 ⟨Nat.lt_of_lt_of_le h.1 hs,h.2.1,by have:=h.1; show q≠G; omega⟩
theorem free_off {q : Nat} (hG : d.G=d.B) (h : (d.on G).free W q) : d.free W q:=⟨h.1,h.2.1,by rw [hG]; exact h.2.1⟩
theorem Lies.on {v : Value} {n sz : Nat} {F : Nat→Value} (h : Lies d W v n sz F) (hb : Below W.heap.size W W') (hg : W.heap.size≤G) : Lies (d.on G) W' v n sz F:=by
 rcases h with h | ⟨b,off,cap,h1,h2,h3,h4,h5⟩
 ·exact Or.inl h
 ·exact Or.inr ⟨b,off,cap,h1,h2,h3,free_on h4 hb.size hg,fun i hi=>(hb.cell (p:=⟨b,off+i,none⟩) h4.1).trans (h5 i hi)⟩
theorem Lies.off {d : Dr} {W : World} {v : Value} {n sz G : Nat} {F : Nat→Value} (hG : d.G=d.B) (h : Lies (d.on G) W v n sz F) : Lies d W v n sz F:=by
 rcases h with h | ⟨b,off,cap,h1,h2,h3,h4,h5⟩
 ·exact Or.inl h
 ·exact Or.inr ⟨b,off,cap,h1,h2,h3,free_off hG h4,h5⟩
theorem Rdr.on {p : Nat} (h : Rdr d W p) (hb : Below W.heap.size W W') (hg : W.heap.size≤G) : Rdr (d.on G) W' p:=by
 refine⟨(hb.block _ (z13 h.blk)).trans h.blk,fun hl=>?_⟩;obtain⟨b,off,ea,hq,hz⟩:=h.bytes hl;refine⟨b,off,ea,free_on hq hb.size hg,fun i hi=>?_⟩;obtain⟨z,hz,h2⟩:=hz i hi;exact⟨z,(hb.cell (p:=⟨b,off+i,none⟩) hq.1).trans hz,h2⟩
theorem Rdr.off {d : Dr} {W : World} {p G : Nat} (hG : d.G=d.B) (h : Rdr (d.on G) W p) : Rdr d W p:=by
 refine⟨h.blk,fun hl=>?_⟩;obtain⟨b,off,ea,hq,hz⟩:=h.bytes hl;exact⟨b,off,ea,free_off hG hq,hz⟩
theorem Grew.off {X Y : World} (h : Grew d W X) (g : Grew (d.on G) X Y) (hg : W.heap.size≤G) : Grew d W Y:=
 ⟨g.os.trans h.os,g.tape.trans h.tape,g.output.trans h.output,Nat.le_trans h.size g.size,fun q hq=>(g.block q ⟨Nat.lt_of_lt_of_le hq.1 h.size,hq.2.1,by have:=hq.1; show q≠G; omega⟩).trans (h.block q hq)⟩
theorem lies_take {α : Type} [Inhabited α] {f : α→Nat→Value} {sz : Nat} {b cap n k : Nat} {l : List α} (h : Lies d W (.slice (some ⟨b,0,none⟩) n cap) l.length sz (fun i=>f (l.getD (i / sz) default) (i % sz))) (hk : k≤n) (hn : 0 < n) (hl : l.length=n) : Lies d W (.slice (some ⟨b,0,none⟩) k cap) (l.take k).length sz (fun i=>f ((l.take k).getD (i / sz) default) (i % sz)):=by
 obtain⟨-,hc,b',off,e,hq,h5⟩:=h.at hn
 cases e;have hlk : (l.take k).length=k:=by rw [List.length_take]; omega
 rw [hlk];refine Or.inr ⟨b,0,cap,rfl,by omega,rfl,hq,fun i hi=>?_⟩;have hi' : i / sz < k:=Nat.div_lt_of_lt_mul (by rw [Nat.mul_comm]; exact hi);rw [h5 i (Nat.lt_of_lt_of_le hi (Nat.mul_le_mul_right _ hk))];have e : (l.take k).getD (i / sz) default=l.getD (i / sz) default:=by simp [List.getD,List.getElem?_take_of_lt hi']
 show _=some (f ((l.take k).getD (i / sz) default) (i % sz));rw [e]
def all4 : List Ef:= [⟨⟨#[97,115,107]⟩,3,1⟩,⟨⟨#[116,101,108,108]⟩,1,3⟩,⟨⟨#[102,108,105,112]⟩,3,2⟩,⟨⟨#[112,97,115,115]⟩,4,1⟩]
theorem all4_brief : ∀ e∈all4,Brief e.name:=by
 intro e he;unfold all4 at he;simp only [List.mem_cons,List.not_mem_nil,or_false] at he;rcases he with rfl | rfl | rfl | rfl <;> (unfold Brief; decide)
def EffsPost (d : Dr) (W : World) (p : Nat) (e : Ending) (W' : World) : Prop:=
 ∃ v es,e= .returned v∧EffsD d W' v es∧1≤es.length∧es.length≤4∧Rdr d W' (p+1)∧Grew d W W'
theorem effs_calls {p : Nat} (hG : d.G=d.B) (h : Rdr d W p) (hp : p≤1000000) : Calls Tryz.prog 69 #[.pointer (some ⟨d.B,0,none⟩)] W (EffsPost d W p):=by
 have hB:=z13 h.blk;have HL:=hid (lies_lit (f:=Ef.cell) (sz:=3) (d:=d) (by decide) W 45 all4 _ rfl hB (by rw [hG]; exact hB));have hbl : Below W.heap.size W (W.alloc (.cells (rowZ Ef.cell 3 all4).toArray 45)):=(Below.refl _ _).alloc (Nat.le_refl _) _;have HB:=hid hbl;have HP:=hid (z39 (h.below hbl) hp 4 (by decide));clear hbl h hp;go_enter Tryz.func69,Tryz.ntmps69
 go_wp2_with fail
 refine HP.out.mono ?_;rintro e X ⟨m,rfl,hm0,hm1,hr,hg,-,-⟩;have HR:=hid (And.intro hr hg);have HX:=hid (HL.out.grew hg);clear hr hg HP HL;have hcs : m=0∨m=1∨m=2∨m=3:=by omega
 rcases hcs with rfl | rfl | rfl | rfl
 ·go_wp2_with fail
  go_ret;exact⟨_,all4.take 1,rfl,⟨lies_take HX.out (by decide) (by decide) rfl,fun e he=>all4_brief e (List.mem_of_mem_take he)⟩,by decide,by decide,HR.out.1,(Grew.of_below HB.out).trans HR.out.2⟩
 ·go_wp2_with fail
  go_ret;exact⟨_,all4.take 2,rfl,⟨lies_take HX.out (by decide) (by decide) rfl,fun e he=>all4_brief e (List.mem_of_mem_take he)⟩,by decide,by decide,HR.out.1,(Grew.of_below HB.out).trans HR.out.2⟩
 ·go_wp2_with fail
  go_ret;exact⟨_,all4.take 3,rfl,⟨lies_take HX.out (by decide) (by decide) rfl,fun e he=>all4_brief e (List.mem_of_mem_take he)⟩,by decide,by decide,HR.out.1,(Grew.of_below HB.out).trans HR.out.2⟩
 ·go_wp2_with fail
  go_ret;exact⟨_,all4.take 4,rfl,⟨lies_take HX.out (by decide) (by decide) rfl,fun e he=>all4_brief e (List.mem_of_mem_take he)⟩,by decide,by decide,HR.out.1,(Grew.of_below HB.out).trans HR.out.2⟩
end
end Go.Proofs.YtfbojelpdccjaaaGreatDoor
