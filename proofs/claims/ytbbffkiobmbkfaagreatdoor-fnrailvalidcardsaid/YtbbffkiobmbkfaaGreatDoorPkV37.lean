import Derived.Test.YtbbffkiobmbkfaaGreatDoorPkV35
import Derived.Test.YtbbffkiobmbkfaaGreatDoorPkV36
import Derived.Stop.Asserts
import Derived.LaidMore
import Derived.Stop.Joined
open Go.Proofs.Tryz
open Go.Value Go.IntKind
set_option maxHeartbeats 16000000
set_option maxRecDepth 100000
namespace Go.Proofs.YtbbffkiobmbkfaaGreatDoor
open Go.RowKit Go.Conc
variable {cs is:List In}{wk:List Nat}{T:List Sq}{Fb N cc ch gs q:Nat}{ac:Option Addr}{vc x y:Value}{W W0 X w:World}
section
open Go.RowKit Go.Conc
theorem okI_op {i:In}(hi:i.ok=true):0<=i.op/\i.op<=25:=by
 unfold In.ok insOkZ at hi;split at hi
 .cases hi
 .rename_i hn;have h0:¬ manyZ i.op<0:=fun e=>hn (Or.inl e)
  unfold manyZ at h0;repeat' split at h0
  all_goals omega
theorem exits_calls {bc oc:Nat}{d:Int}{closed:Bool}(h:Fl W0 Fb (.slice (some ⟨bc,oc,none⟩) is.length cc) gs ch is.length T wk d closed W) (hC:CodeAt W0 bc oc cc is) (k:Nat) (hk:k<is.length) (hp:1<=(tg T k).p) (hn:needsZ is (is.getD k default) (tg T k)=true) :
 Calls prog 114 #[.pointer (some ⟨Fb,0,none⟩),int i64 (k:Int)] W (ExitsP (exitsZ is k (is.getD k default) (tg T k)) W):=by
 obtain⟨hbc,hin,hcc,hN,hall⟩:=hC;refine zb13 ?_;unhygienic intros
 obtain⟨⟨op,a,b,c⟩,hi⟩:∃i,is.getD k default=i:=⟨_,rfl⟩
 obtain⟨⟨n,v,p⟩,hx⟩:∃s,tg T k=s:=⟨_,rfl⟩
 rw[hi]at f2 f3 f4 f5 hok hn ⊢;rw[hx]at f6 f7 f8 hp hs hn ⊢;simp only[In.cell,Nat.add_zero]at f2 f3 f4 f5;unfold SaneS at hs;dsimp only at f6 f7 f8 hp hs;have hb:0<=n/\n<=100/\0<=v/\v<=100:=by rcases hs with hs|hs<;>omega
 have ho:=okI_op hok;dsimp only at ho;have k0:(0:Int)<=(k:Int):=ya;have k1:(k:Int)<(is.length:Int):=ya;have k5:k<=1500:=ya;rcases ops_cases op with hz|hz
 .omega
 refine exits_any k0 k1 k5 hb.1 hb.2.1 hb.2.2.1 hb.2.2.2 f0 f1 f2 f3 f4 f5 f6 f7 f8 (fun X hop hX=>?_) (by rcases hz with rfl|rfl|rfl|rfl|rfl|rfl|rfl|rfl|rfl|rfl|rfl|rfl|rfl|rfl|rfl|rfl|rfl|rfl|rfl|rfl|rfl|rfl|rfl|rfl|rfl|rfl<;>simp)
 subst hop;have ht:tableZ is a=true:=by simpa[needsZ]using hn
 have hnum:=ok_nums hok qf qf qf;have e:exitsZ is k ⟨21,a,b,c⟩ ⟨n,v,p⟩=handleZ is k ⟨21,a,b,c⟩ ⟨n,v,p⟩:=mz;rw[e];have g:∀ {q:Addr} {u:Value},W.cell? q=some u->X.cell? q=some u:=fun {q u} hq=>(hX.cell (z29 hq)).trans hq
 exact handleI_calls k0 k1 k5 hb.1 hb.2.1 hb.2.2.1 hb.2.2.2 (g f0) (g f1) (g f2) (g f3) (g f4) (g f5) (g f6) (g f7) (g f8) rfl (hinW.below hX (Le hbc h.bel.size)) hcc hN hall ht hnum.1
def stepI (is:List In) (T:List Sq) (wk:List Nat) (k:Nat):Option (List Sq×List Nat):=if needsZ is (is.getD k default) (tg T k)=true then comesZ is.length T wk (exitsZ is k (is.getD k default) (tg T k)) else none
def FollowP (W0:World) (Fb:Nat) (vc:Value) (gs ch N:Nat) (d:Int) (r:Option (List Sq×List Nat)) (e:Ending) (W':World):Prop:=
 Below W0.heap.size W0 W'/\(r=none->IsBad e)/\ ∀x,r=some x->e=.returned .nilIface/\Fl W0 Fb vc gs ch N x.1 x.2 d false W'
theorem comes_take (N:Nat):∀(es:List (Int×Sq)) (T:List Sq) (w:List Nat) (j:Nat),j<es.length->comesZ N T w (es.take (j+1))=(comesZ N T w (es.take j)).bind fun x=>comeZ N x.1 x.2 (es.getD j (0,⟨0,0,0⟩))
 |[],_,_,_,h=>absurd h yq
 | e::r,T,w,0,_=>by
   simp only[List.take_succ_cons,List.take_zero,comesZ,Option.bind_some];show _=comeZ N T w e
   cases comeZ N T w e with
   |none=>rfl
   |some x=>rfl
 | e::r,T,w,j+1,h=>by
   have ih:=fun T w=>comes_take N r T w j zx
   simp only[List.take_succ_cons,comesZ]
   cases hc:comeZ N T w e with
   |none=>rfl
   |some x=>exact ih x.1 x.2
theorem exits_len (is:List In) (k:Nat) (i:In) (s:Sq):(exitsZ is k i s).length<=is.length+3:=by
 have hc:(clausesZ is i.a).length<=is.length:=by
  unfold clausesZ;rw[List.length_take,List.length_drop];omega
 unfold exitsZ;repeat' split
 all_goals(try unfold handleZ)
 all_goals simp only[Ll,Lm,Lk,List.length_map]
 all_goals omega
theorem comes_none (N:Nat):∀(es:List (Int×Sq)) (T:List Sq) (w:List Nat) (j:Nat),comesZ N T w (es.take j)=none->comesZ N T w es=none
 | [],T,w,j,h=>by
   simp only[List.take_nil,comesZ]at h
   cases h
 | e::r,T,w,0,h=>by
   simp only[List.take_zero,comesZ]at h
   cases h
 | e::r,T,w,j+1,h=>by
   simp only[List.take_succ_cons,comesZ]at h |-
   cases hc:comeZ N T w e with
   |none=>rfl
   | some x=>
     rw[hc]at h;exact comes_none N r x.1 x.2 j h
theorem follow_calls {bc oc:Nat}{d:Int}(h:Fl W0 Fb (.slice (some ⟨bc,oc,none⟩) is.length cc) gs ch is.length T wk d false W) (hC:CodeAt W0 bc oc cc is) (k:Nat) (hk:k<is.length) (hp:1<=(tg T k).p) :
 Calls prog 80 #[.pointer (some ⟨Fb,0,none⟩),int i64 (k:Int)] W (FollowP W0 Fb (.slice (some ⟨bc,oc,none⟩) is.length cc) gs ch is.length d (stepI is T wk k)):=by
 obtain⟨hbc,hin,hcc,hN,hall⟩:=id hC;refine zb13 ?_;unhygienic intros
 have hbcW:bc<W.heap.size:=Le hbc h.bel.size;have HNd:=U (fun(X:World) (hX:Below W.heap.size W X)=>needs_calls (Fb:=Fb) ((hX.cell (z29 f0)).trans f0) (hinW.below hX hbcW) (Le hbcW hX.size) hcc hN hall (is.getD k default) hok (tg T k));have HEx:=U (fun(X:World) (hX:Below W.heap.size W X) hn=>exits_calls (h.below hX) hC k hk hp hn);have HH:=U h;have HC:=U hC;have HSt:O (∀es,exitsZ is k (is.getD k default) (tg T k)=es->needsZ is (is.getD k default) (tg T k)=true->(∀e∈es,1<=e.2.p/\e.2.p<=3/\0<=e.1/\0<=e.2.n/\0<=e.2.v)):=fun es he hn=>by
  subst he;have hs':= hs;unfold SaneS at hs';exact exits_right hall hk ycz ycz ⟨hp,ycz⟩ hn
 obtain⟨⟨op,a,b,c⟩,hi⟩:∃i,is.getD k default=i:=⟨_,rfl⟩
 obtain⟨⟨n,v,p⟩,hx⟩:∃s,tg T k=s:=⟨_,rfl⟩
 have HSI:O (stepI is T wk k=if needsZ is ⟨op,a,b,c⟩ ⟨n,v,p⟩=true then comesZ is.length T wk (exitsZ is k ⟨op,a,b,c⟩ ⟨n,v,p⟩) else none):=by
  show _=_;unfold stepI;rw[hi,hx]
 rw[hi]at f2 f3 f4 f5 HNd HEx HSt;rw[hx]at f6 f7 f8 HNd HEx HSt;simp only[In.cell,Nat.add_zero]at f2 f3 f4 f5;dsimp only at f6 f7 f8 HNd;obtain⟨nd,hnd⟩:∃nd,needsZ is ⟨op,a,b,c⟩ ⟨n,v,p⟩=nd:=⟨_,rfl⟩
 obtain⟨es,hes⟩:∃es,exitsZ is k ⟨op,a,b,c⟩ ⟨n,v,p⟩=es:=⟨_,rfl⟩
 have HEr:=U (HSt.o es hes);have HLn:O (es.length<=2000):=by
  show _<=_;rw[<-hes];have:=exits_len is k ⟨op,a,b,c⟩ ⟨n,v,p⟩;omega
 rw[hnd,hes]at HSI;rw[hnd]at HNd HEr;simp only[hes,hnd]at HEx;have k0:(0:Int)<=(k:Int):=ya;have k1:(k:Int)<(is.length:Int):=ya;have q0:∀y:Later W.heap.size W,y.w.cell? ⟨Fb,0,none⟩=_:=fun y=>y.cell (z29 f0) f0
 have q1:∀y:Later W.heap.size W,y.w.cell? ⟨Fb,1,none⟩=_:=fun y=>y.cell (z29 f1) f1
 have q2:∀y:Later W.heap.size W,y.w.cell? ⟨bc,oc+k*4,none⟩=_:=fun y=>y.cell (z29 f2) f2
 have q3:∀y:Later W.heap.size W,y.w.cell? ⟨bc,oc+k*4+1,none⟩=_:=fun y=>y.cell (z29 f3) f3
 have q4:∀y:Later W.heap.size W,y.w.cell? ⟨bc,oc+k*4+2,none⟩=_:=fun y=>y.cell (z29 f4) f4
 have q5:∀y:Later W.heap.size W,y.w.cell? ⟨bc,oc+k*4+3,none⟩=_:=fun y=>y.cell (z29 f5) f5
 have q6:∀y:Later W.heap.size W,y.w.cell? ⟨gs,k*3,none⟩=_:=fun y=>y.cell (z29 f6) f6
 have q7:∀y:Later W.heap.size W,y.w.cell? ⟨gs,k*3+1,none⟩=_:=fun y=>y.cell (z29 f7) f7
 have q8:∀y:Later W.heap.size W,y.w.cell? ⟨gs,k*3+2,none⟩=_:=fun y=>y.cell (z29 f8) f8
 clear h hC hbc hin hcc hN hall hinW hok f0 f1 f2 f3 f4 f5 f6 f7 f8 hs hbcW hi hx hnd hes HSt hk hp;go_enter func80,ntmps80
 go_wp2_with fail
 refine z28 W.heap.size ye ye ?_;repeat(go_big_quiet_step (first|(rename_i y;go_at_call 113;refine(HNd.o _ y.h).mono ?_;rintro e w5 ⟨rfl,hb5⟩;exact⟨rfl,⟨w5,y.h.trans (hb5.mono y.h.size)⟩,rfl⟩)))
 refine wpQuiet_nil ?_;rintro w5 ⟨y,rfl⟩;have HY:=U y.h;generalize y.w=X at*;clear q0 q1 q2 q3 q4 q5 q6 q7 q8 HNd;have HBW:O (Below W0.heap.size W0 X):=HH.o.bel.trans (HY.o.mono HH.o.bel.size)
 cases nd with
 | false=>
   go_wp2_with fail
   go_ret;rw[HSI.o];exact⟨HBW.o.alloc HBW.o.size _,fun _=>⟨X.heap.size,rfl⟩,fun x hx=>by simp at hx⟩
 | true=>
   have HEx1:=U (HEx.o X HY.o rfl);have HFX:=U (HH.o.below HY.o);go_wp2_with fail
   refine HEx1.o.mono ?_;rintro e X2 ⟨hb2,ad,cp,rfl,hor⟩;have HF2:=U (HFX.o.below hb2);have HOr:=U hor;clear hb2 hor HEx HEx1 HFX;obtain⟨M,hM⟩:∃M,es.length=M:=⟨_,rfl⟩
   have HM:=U hM;rw[hM];clear hM;go_wp2_with fail
   go_loopw [33] (fun i wr=> ∃(j:Nat) (T':List Sq) (w':List Nat),i=int i64 (j:Int)/\j<=M/\O (comesZ is.length T wk (es.take j)=some (T',w'))/\O (Fl W0 Fb (.slice (some ⟨bc,oc,none⟩) is.length cc) gs ch is.length T' w' d false wr)/\O (Fz X2 wr)) (fun i _=>M-(intOf i).toNat)
   case atStart=>exact⟨0,T,wk,rfl,Li _,rfl,HF2,Fz.refl _⟩
   case round=>
    obtain⟨j,T',w',rfl,hj,HCo,HFl,HFz⟩:=hrel;by_cases hlt:(j:Int)<(M:Int)
    .have hjM:j<es.length:=by have:=HM.o;omega
     obtain⟨g,hg,cur,hcur,hcs⟩:=HOr.o.resolve_left (fun e=>by rw[e]at hjM;cases hjM);subst hg;have hcw:=(HFz.o.block g cur _ hcur yk yk).trans hcur;obtain⟨c0,c1,c2,c3⟩:=hcs j hjM;have d0:=(z11 hcw (j*4)).trans c0;have d1:=(z11 hcw (j*4+1)).trans c1;have d2:=(z11 hcw (j*4+2)).trans c2;have d3:=(z11 hcw (j*4+3)).trans c3;have htk:=comes_take is.length es T wk j hjM;have her:=HEr.o trivial (es.getD j (0,⟨0,0,0⟩)) (by
      rw[List.getD_eq_getElem?_getD,Lr hjM];exact List.getElem_mem _)
     obtain⟨⟨tt,n1,v1,p1⟩,het⟩:∃e,es.getD j (0,⟨0,0,0⟩)=e:=⟨_,rfl⟩
     rw[het]at d0 d1 d2 d3 htk her;dsimp only at d0 d1 d2 d3 her;have hj0:(0:Int)<=(j:Int):=ya;have hst:M-(intOf (int i64 ((j+1:Nat):Int))).toNat<M-(intOf (int i64 (j:Int))).toNat:=yu;have HSt:=U hst;have HJ:O (j<M/\M<=1048576):=⟨ya,by have:=HM.o;have:=HLn.o;omega⟩
     have hB5:=(Below.refl wr.heap.size wr).alloc La (.cells #[int i64 tt,int i64 n1,int i64 v1,int i64 p1] 155);have hA5:=(Ld wr (.cells #[int i64 tt,int i64 n1,int i64 v1,int i64 p1] 155)).1;obtain⟨V,hV⟩:∃V,wr.alloc (.cells #[int i64 tt,int i64 n1,int i64 v1,int i64 p1] 155)=V:=⟨_,rfl⟩
     rw[hV]at hA5 hB5;have HFv:=U (HFl.o.below hB5);have HZv:=U (HFz.o.trans (Fz.of_below hB5));have HCome:=U (comeI_calls HFv.o tt n1 v1 p1 her.2.2.1 her.2.2.2.1 her.2.2.2.2 her.1 her.2.1);have htk2:comesZ is.length T wk (es.take (j+1))=comeZ is.length T' w' (tt,⟨n1,v1,p1⟩):=by rw[htk,HCo.o];rfl
     have HTk:=U htk2;have HV:=U hV;have HJM:=U hjM;clear hcur hcs hcw c0 c1 c2 c3 htk htk2 het hst hB5 hA5 hV hjM hj her;go_wp2_with fail
     rw[HV.o];refine HCome.o.mono ?_;rintro e V2 ⟨hbl,hfz,hnone,hsome⟩;have HBl:=U hbl;have HZ2:=U (HZv.o.trans hfz);clear d0 d1 d2 d3 hbl hfz HV
     cases hc:comeZ is.length T' w' (tt,⟨n1,v1,p1⟩) with
     | none=>
       obtain⟨pb,rfl⟩:=hnone hc;have HNo:O (comesZ is.length T wk es=none):=comes_none is.length es T wk (j+1) (HTk.o.trans hc);clear hnone hsome hc;go_wp2_with fail
       go_ret;rw[HSI.o,if_pos trivial,HNo.o];exact⟨HBl.o,fun _=>⟨pb,rfl⟩,fun x hx=>by cases hx⟩
     | some x=>
       obtain⟨rfl,hfl⟩:=hsome x hc;have HFn:=U hfl;have HCn:O (comesZ is.length T wk (es.take (j+1))=some (x.1,x.2)):=HTk.o.trans hc;clear hnone hsome hc hfl;go_wp2_with fail
       try rw[wrap_inc HJ.o.1 HJ.o.2]
       exact⟨⟨j+1,x.1,x.2,rfl,HJ.o.1,HCn,HFn,HZ2⟩,HSt.o⟩
    .have hjM:j=M:=by omega
     have HAll:O (comesZ is.length T wk es=some (T',w')):=by
      show _=_;rw[<-HCo.o,hjM,<-HM.o,List.take_length]
     clear hj hjM;go_wp2_with fail
     go_ret;rw[HSI.o,if_pos trivial,HAll.o];refine⟨HFl.o.bel,fun hx=>(by cases hx),fun x hx=>?_⟩
     cases hx;exact⟨rfl,HFl.o⟩
theorem info_spot:(prog.info? 153).map (fun i=>(i.zero,i.size,i.bytes))=some (some (.agg #[int i64 0,int i64 0,int i64 0]),3,24):=ye
theorem made_spots (n:Nat) (hn:n<=1500) (w:World):∃c:Array Value,c.size=3*n/\(∀i,i<3*n->c[i]?=some (int i64 0))/\
 (Instr.makeSlice 77 (int i64 (n:Int)) (int i64 (n:Int))).run prog w=.ok (.slice (some ⟨w.heap.size,0,none⟩) n n) (w.alloc (.cells c 153)):=by
 obtain⟨i0,hi,hz0,hz1,hz2⟩:=info_parts info_spot;have h:=run_make (P:=prog) w 77 153 i0 _ underlying77 hi hz0 .i64 .i64 n n ya (Int.le_refl _) (by rw[hz2];omega) ya;rw[hz1]at h;simp only[Lp]at h;refine⟨_,?_,fun i hi=>?_,h⟩
 .rw[size_madeCells];exact Nat.mul_comm _ _
 .have h3:i % 3=0\/i % 3=1\/i % 3=2:=by omega
  rcases h3 with h3|h3|h3<;>simp[madeCells,h3,Value.cells,show i<n*3 by omega]
theorem bytes_int:∃i,prog.info? 3=some i/\i.bytes=8:=by
 have h:(prog.info? 3).map (·.bytes)=some 8:=ye;obtain⟨i,hi,hb⟩:=Option.map_eq_some_iff.1 h;exact⟨i,hi,hb⟩
theorem made_chan (n:Nat) (hn:n<=1500) (w:World):(Instr.makeChan 148 (int i64 (n:Int))).run prog w=.ok (.chan (some w.heap.size)) (w.alloc (.chan n #[] false 0 0 false)):=by
 obtain⟨i,hi,hb⟩:=bytes_int;exact run_makeChan (P:=prog) (w:=w) underlying148 hi .i64 n ya (by rw[hb];omega)
def SpotsP (is:List In) (w:World) (e:Ending) (w':World):Prop:=
 Below w.heap.size w w'/\((validZ is=false/\ ∃pb,e=.returned (.tuple #[.slice none 0 0,.iface 144 (.pointer (some ⟨pb,0,none⟩))]))\/
  (validZ is=true/\ ∃T g,WholeV is T/\e=.returned (.tuple #[.slice (some ⟨g,0,none⟩) is.length is.length,.nilIface])/\w'.rowIs g 153 (3*is.length) (spF T)))
theorem Fl.recv {k:Nat}(h:Fl W0 Fb vc gs ch N T (k::wk) 0 false W) {s r:Nat}(hc:W.heap[ch]?=some (.chan N (wkA (k::wk)) false s r false)):Fl W0 Fb vc gs ch N T wk 1 false (W.setChan ch N (wkA wk) false s (r+1) false):=by
 obtain⟨n1,n2,n3⟩:=h.ne;have hr:=h.room;rw[Ll]at hr;have hb:=h.blk;rw[show(0:Int)+((k::wk).length:Int)=1+(wk.length:Int) by rw[Ll];omega]at hb;exact⟨(z75 W ch _ _ _ _ _ _ n2).trans hb,h.row.of_block (z75 W ch _ _ _ _ _ _ n3),⟨s,r+1,heap_setChan W ch _ _ _ _ _ _ (z13 hc)⟩,h.lo,below_setChan h.bel h.lo.2.2 _ _ _ _ _ _,h.len,h.nl,h.sane,ya,⟨ya,ya⟩⟩
theorem Fl.paid (h:Fl W0 Fb vc gs ch N T wk 1 false W):Fl W0 Fb vc gs ch N T wk 0 false (W.setCell ⟨Fb,3,none⟩ (int i64 (wk.length:Int))):=by
 obtain⟨n1,n2,n3⟩:=h.ne;obtain⟨s,r,hc⟩:=h.chb;have ho:∀q,q≠Fb->(W.setCell ⟨Fb,3,none⟩ (int i64 (wk.length:Int))).heap[q]?=W.heap[q]? :=fun q hq=>Lg W ⟨Fb,3,none⟩ _ q hq
 have hl:=h.lo;refine⟨?_,h.row.of_block (ho gs (Ne.symm n1)),⟨s,r,(ho ch (Ne.symm n2)).trans hc⟩,h.lo,⟨h.bel.os,h.bel.tape,h.bel.output,by simpa[World.setCell]using h.bel.size,fun q hq=>(ho q ya).trans (h.bel.block q hq)⟩,h.len,h.nl,h.sane,h.room,⟨ya,ya⟩⟩;rw[show(0:Int)+(wk.length:Int)=(wk.length:Int) by omega];simp[World.setCell,Array.getElem?_modify,h.blk]
theorem Fl.shut (h:Fl W0 Fb vc gs ch N T [] 0 false W) {s r:Nat}(hc:W.heap[ch]?=some (.chan N #[] false s r false)):Fl W0 Fb vc gs ch N T [] 0 true (W.setChan ch N #[] true s r false):=by
 obtain⟨n1,n2,n3⟩:=h.ne;exact⟨(z75 W ch _ _ _ _ _ _ n2).trans h.blk,h.row.of_block (z75 W ch _ _ _ _ _ _ n3),⟨s,r,heap_setChan W ch _ _ _ _ _ _ (z13 hc)⟩,h.lo,below_setChan h.bel h.lo.2.2 _ _ _ _ _ _,h.len,h.nl,h.sane,h.room,h.dl⟩
theorem fl_start {cS:Array Value}(hb:Below w.heap.size w X) (h1:X.heap[Fb]?=some (.cells #[.slice ac N cc,.slice (some ⟨gs,0,none⟩) N N,.chan (some ch),int i64 0] 150)) (h2:X.heap[gs]?=some (.cells cS 153)) (h3:X.heap[ch]?=some (.chan N #[] false 0 0 false)) (l1:w.heap.size<=Fb) (l2:w.heap.size<=gs) (l3:w.heap.size<=ch) (hs:cS.size=3*N) (hz:∀i,i<3*N->cS[i]?=some (int i64 0)) (hN:N<=1500):Fl w Fb (.slice ac N cc) gs ch N (List.replicate N ⟨0,0,0⟩) [] 0 false X:=by
 have fr:=free_le (List.replicate N (⟨0,0,0⟩:Sq));rw[List.length_replicate]at fr;have z:∀k,tg (List.replicate N (⟨0,0,0⟩:Sq)) k=⟨0,0,0⟩:=fun k=>by
  by_cases hk:k<N
  .unfold tg;rw[List.getD_eq_getElem?_getD,List.getElem?_replicate,if_pos hk];rfl
  .exact tg_out kz
 refine⟨h1,⟨cS,h2,hs,fun i hi=>?_⟩,⟨0,0,h3⟩,⟨l1,l2,l3⟩,hb,List.length_replicate,hN,fun s hs'=> ?_,by simpa using fr,⟨ya,ya⟩⟩
 .rw[hz i hi];unfold spF;rw[z];have h3:i % 3=0\/i % 3=1\/i % 3=2:=ya;rcases h3 with h3|h3|h3<;>rw[h3]<;>rfl
 .rw[List.eq_of_mem_replicate hs'];exact Or.inl ⟨rfl,rfl,rfl⟩
theorem wkA_cons (k:Nat) (wk:List Nat):(wkA (k::wk)).getD 0 undef=int i64 (k:Int)/\(wkA (k::wk)).extract 1 (wkA (k::wk)).size=wkA wk/\0<(wkA (k::wk)).size:=by
 refine⟨rfl,?_,by simp[wkA]⟩;simp[wkA];exact List.take_of_length_le yq
noncomputable def restC:Code:=match Tryz.f32.body with
 |some (.seq _ (.seq _ (.seq _ r)))=>r
 |_=> .skip
theorem spots_rest (hN:is.length=N) (hF:Fl w Fb (.slice ac N cc) gs ch N (List.replicate N ⟨0,0,0⟩) [] 0 false X) (hok:codeOkZ is=true) (hcc:is.length<=cc) (hin:is= []\/ ∃bc oc,ac=some ⟨bc,oc,none⟩/\bc<w.heap.size/\InsAt w bc oc is) :
 wpN prog restC (bodyPost prog Tryz.f32 (SpotsP is w)) (⟨#[.slice ac N cc,undef,.slice none 0 0,.nilIface,.pointer (some ⟨Fb,0,none⟩),undef,undef,undef,.slice ac N cc,.bool true,.bool false,undef,undef,undef,.slice ac N cc,.slice ac N cc,int i64 (N:Int),.slice (some ⟨gs,0,none⟩) N N,.slice ac N cc,int i64 (N:Int),.chan (some ch),.agg #[.slice ac N cc,.slice (some ⟨gs,0,none⟩) N N,.chan (some ch),int i64 0],.pointer (some ⟨Fb,0,none⟩),undef,undef,undef,undef,undef,undef,undef,undef,undef,undef,undef,undef,undef,undef,undef,undef,undef,undef,undef,undef,undef,undef,undef,undef,undef,undef,undef,undef,undef,undef,undef,undef,undef,undef,undef,undef,undef,undef,undef,undef],[]⟩:Act) X:=by
 have HN:=U hN;have HF:=U hF;have HOk:=U hok;have HIn:=U (Lc hcc hin);have HCm:=U (comeI_calls hF 0 0 0 1 yk yk yk yk yk);clear hN hF hok hcc hin;conv=>arg 2;whnf
 refine z57 fun K hK=>?_
 go_wp2_with fail
 refine HCm.o.mono ?_;rintro e X2 ⟨hbl,-,hnone,hsome⟩;have HBl:=U hbl;clear hbl HCm;by_cases hN0:0<N
 case neg=>
  have hz:comeZ N (List.replicate N ⟨0,0,0⟩) [] (0,⟨0,0,1⟩)=none:=by
   unfold comeZ;rw[if_pos (Or.inr (Or.inl qw))]
  obtain⟨pb,rfl⟩:=hnone hz;have HNb:O (¬ GoodV is):=none_bad ycf;clear hnone hsome hz hN0;go_wp2_with fail
  go_ret2
  exact⟨HBl.o,Or.inl ⟨valid_bad (Or.inr HNb.o),pb,rfl⟩⟩
 have hz:=first_some (cs:=is) ycf;rw[HN.o]at hz;obtain⟨rfl,hfl⟩:=hsome _ hz;have HFl:=U hfl;have HGo:=U (going_start (cs:=is) ycf);rw[HN.o]at HGo;have HN0:=U hN0;obtain⟨bc,oc,hac,hbc,hia⟩:=HIn.o.2.resolve_left (fun e=>by have:=HN.o;rw[e]at this;simp at this;omega);subst hac;have hall:∀i∈is,i.ok=true:=by
  have:=HOk.o;unfold codeOkZ at this;rw[Lq,List.all_eq_true]at this;exact this.2
 have HAl:=U hall;have HC:O (CodeAt w bc oc cc is):=⟨hbc,hia,HIn.o.1,by have h1:=HF.o.nl;have:=HN.o;omega,hall⟩
 clear hnone hsome hz hfl hbc hia hall HF hN0;go_wp2_with fail
 have e2:=z11 HFl.o.blk 2;simp at e2;refine wpN_seq ?_;refine z57 fun K hK=>?_
 go_wp2_with fail
 clear e2;refine wpN_block ?_
 refine wpN_loop (fun n a w'=> ∃(u6 u7 u34 u35 u36 u37 u38 u39 u40 u41 u42 u43 u44 u45 u46 u47 u48 u49 u50 u51 u52 u53 u54 u55 u56 u57 u58:Value) (T:List Sq) (wk:List Nat) (closed:Bool),a=(⟨#[.slice (some ⟨bc,oc,none⟩) N cc,undef,.slice none 0 0,.nilIface,.pointer (some ⟨Fb,0,none⟩),.nilIface,u6,u7,.slice (some ⟨bc,oc,none⟩) N cc,.bool true,.bool false,undef,undef,undef,.slice (some ⟨bc,oc,none⟩) N cc,.slice (some ⟨bc,oc,none⟩) N cc,int i64 (N:Int),.slice (some ⟨gs,0,none⟩) N N,.slice (some ⟨bc,oc,none⟩) N cc,int i64 (N:Int),.chan (some ch),.agg #[.slice (some ⟨bc,oc,none⟩) N cc,.slice (some ⟨gs,0,none⟩) N N,.chan (some ch),int i64 0],.pointer (some ⟨Fb,0,none⟩),.pointer (some ⟨Fb,0,none⟩),.agg #[int i64 0,int i64 0,int i64 1],.agg #[int i64 0,int i64 0,int i64 0,int i64 1],.nilIface,.nilIface,.bool false,undef,.pointer (some ⟨Fb,0,none⟩),.pointer (some ⟨Fb,0,none⟩),.pointer (some ⟨Fb,2,none⟩),.chan (some ch),u34,u35,u36,u37,u38,u39,u40,u41,u42,u43,u44,u45,u46,u47,u48,u49,u50,u51,u52,u53,u54,u55,u56,u57,u58,undef,undef,undef,undef],[]⟩:Act)/\Fl w Fb (.slice (some ⟨bc,oc,none⟩) N cc) gs ch N T wk 0 closed w'/\Going is T wk/\(closed=true↔wk= [])/\2*free T+wk.length<=n) (2*N) ?_ ?_
 .refine⟨undef,undef,undef,undef,undef,undef,undef,undef,undef,undef,undef,undef,undef,undef,undef,undef,undef,undef,undef,undef,undef,undef,undef,undef,undef,undef,undef,_,_,false,rfl,HFl.o,HGo.o,⟨fun e=>yci,fun e=>yci⟩,?_⟩;have h1:=HGo.o.tab.room;have h2:=free_le ((List.replicate N (⟨0,0,0⟩:Sq)).set 0 ⟨0,0,1⟩);rw[List.length_set,List.length_replicate]at h2;have:=HN.o;have:=HN0.o;simp only[List.length_singleton]at h1 |-;omega
 rintro n a Wn ⟨u6,u7,u34,u35,u36,u37,u38,u39,u40,u41,u42,u43,u44,u45,u46,u47,u48,u49,u50,u51,u52,u53,u54,u55,u56,u57,u58,T,wk,closed,rfl,hfl,hgo,hcl,hms⟩;have HFn:=U hfl;have HGn:=U hgo;have HMs:=U hms;obtain⟨s0,r0,hch⟩:=hfl.chb;clear HFl HGo hfl hgo hms
 cases wk with
 | nil=>
   have hc1:closed=true:=hcl.2 rfl;subst hc1;have hch':Wn.heap[ch]?=some (.chan N #[] true s0 r0 false):=hch;clear hch hcl;refine wpN_seq ?_;refine wpN_region ?_;change InR _ _ [0,1] _ _ _;refine inR_shut (c:=ch) (z:=int i64 0) (w':= Wn) rfl (wanted_none rfl) (by simp[go_sem,rcase]) hch' ?_;refine inR_value (v:=.bool false) (w':= Wn) rfl (wanted_none rfl) (by simp[go_sem,Act.put]) ?_;refine inR_of ?_;show wpN _ _ _ _ _;refine wpN_of (wp_at yg ?_);have HW:=U (going_end HAl.o HGn.o);clear hch';go_wp2_with fail
   have e1:=z11 HFn.o.blk 1;simp at e1;refine wpN_of ?_;go_wp2_with fail
   go_ret2
   refine⟨HFn.o.bel,Or.inr ⟨valid_good HOk.o HW.o.good,T,gs,HW.o,?_,?_⟩⟩
   .rw[HN.o];rfl
   .rw[HN.o];exact HFn.o.row
 | cons k wk=>
   have hc1:closed=false:=by
    cases closed with
    |false=>rfl
    |true=>cases hcl.1 rfl
   subst hc1;obtain⟨g1,g2,g3⟩:=wkA_cons k wk;refine wpN_seq ?_;refine wpN_region ?_;change InR _ _ [0,1] _ _ _;refine inR_recv (c:=ch) (z:=int i64 0) (w':= Wn) rfl (wanted_none rfl) (by simp[go_sem,rcase]) hch g3 ?_;rw[g1,g2];have HF1:=U (HFn.o.recv hch);obtain⟨Z,hZ⟩:∃Z,Wn.setChan ch N (wkA wk) false s0 (r0+1) false=Z:=⟨_,rfl⟩
   rw[hZ]at HF1 |-;refine inR_value (v:=.bool true) (w':= Z) rfl (wanted_none rfl) (by simp[go_sem,Act.put]) ?_;refine inR_of ?_;show wpN _ _ _ _ _;refine wpN_of (wp_at yg ?_);clear hZ hch hcl g1 g2 g3;have HAt:=U (going_at HAl.o HGn.o (List.mem_cons_self ..));have HGs:=U (going_step HAl.o HGn.o (k:=k) (w:=wk) (List.mem_cons_self ..) (fun q hq=>by
    rcases List.mem_cons.1 hq with h|h
    .exact Or.inl h
    .exact Or.inr h) (fun q hq=>List.mem_cons_of_mem _ hq) (by rw[Ll]))
   have HFo:O (Calls prog 80 #[.pointer (some ⟨Fb,0,none⟩),int i64 (k:Int)] Z (FollowP w Fb (.slice (some ⟨bc,oc,none⟩) N cc) gs ch N 1 (stepI is T wk k))):=by
    show Calls _ _ _ _ _;have h1:=HF1.o;rw[<-HN.o]at h1 |-;exact follow_calls h1 HC.o k HAt.o.1 HAt.o.2.2.2.2.2.2.1
   clear HFn HF1;go_wp2_with fail
   refine HFo.o.mono ?_;rintro e Z2 ⟨hb2,hnone,hsome⟩;have HB2:=U hb2;clear hb2 HFo;have HR:O ((stepI is T wk k=none/\ ¬ GoodV is)\/ ∃x,stepI is T wk k=some x/\Going is x.1 x.2/\2*free x.1+x.2.length<n):=by
    show _\/_;have hgs:=HGs.o;have hms:=HMs.o;unfold stepI;by_cases hn:needsZ is (is.getD k default) (tg T k)=true
    .rw[if_pos hn]
     cases hc:comesZ is.length T wk (exitsZ is k (is.getD k default) (tg T k)) with
     |none=>exact Or.inl ⟨rfl,hgs.2.1 hn hc⟩
     | some x=>
       have h3:=hgs.2.2 x.1 x.2 hn hc;exact Or.inr ⟨x,rfl,h3.1,by have:=h3.2;omega⟩
    .rw[if_neg hn];exact Or.inl ⟨rfl,hgs.1 (by simpa using hn)⟩
   clear HGs HGn HMs HAt;rcases HR.o with ⟨hz,hng⟩|⟨⟨T2,w2⟩,hz,hg2,hm2⟩
   .obtain⟨pb,rfl⟩:=hnone hz;have HNg:=U hng;clear hnone hsome hz hng HR;go_wp2_with fail
    go_ret2
    exact⟨HB2.o,Or.inl ⟨valid_bad (Or.inr HNg.o),pb,rfl⟩⟩
   ·obtain⟨rfl,hf2⟩:=hsome _ hz;dsimp only at hf2 hg2 hm2;have HF2:=U hf2;have HG2:=U (Lc hg2 hm2);have HP:=U hf2.paid;have f3:=z11 hf2.blk 3;have z3:=z15 hf2.blk 3;have f2:=z11 hf2.blk 2;simp at f3 f2;have hw3:wrap64 (1+(w2.length:Int)-1)=(w2.length:Int):=by
     rw[wrap64];have:=hf2.room;have:=hf2.nl;omega
    clear hnone hsome hz hg2 hm2 HR hf2;have hw4:(1+(w2.length:Int)-1)=(w2.length:Int):=ya;obtain⟨lw,hlw⟩:∃lw:Int,(w2.length:Int)=lw:=⟨_,rfl⟩
    have HLw:=U hlw;rw[hlw]at f3 hw3 HP;clear hw4 hlw
    cases w2 with
    | nil=>
      have hl0:lw=0:=by rw[<-HLw.o];rfl
      subst hl0;obtain⟨s1,r1,hc1⟩:=HP.o.chb;have hc1':(Z2.setCell ⟨Fb,3,none⟩ (int i64 0)).heap[ch]?=some (.chan N #[] false s1 r1 false):=hc1;have HSh:=U (HP.o.shut hc1');have hcl:=fun ats ty=>run_close_open (P:=prog) (w:=Z2.setCell ⟨Fb,3,none⟩ (int i64 0)) ats ty hc1'
      clear hc1;go_wp2_with fail
      exact⟨2*free T2+([]:List Nat).length,HG2.o.2,_,_,_,_,_,_,_,_,_,_,_,_,_,_,_,_,_,_,_,_,_,_,_,_,_,_,_,T2,[],true,rfl,HSh.o,HG2.o.1,⟨fun _=>rfl,fun _=>rfl⟩,La⟩
    | cons q w3=>
      have hl0:(lw==0)=false:=by
       have:=HLw.o;rw[Ll]at this;simp;omega
      go_wp2_with fail
      exact⟨2*free T2+(q::w3).length,HG2.o.2,_,_,_,_,_,_,_,_,_,_,_,_,_,_,_,_,_,_,_,_,_,_,_,_,_,_,_,T2,q::w3,false,rfl,HP.o,HG2.o.1,⟨fun e=>yci,fun e=>yci⟩,La⟩
theorem codeSpots_calls (ac:Option Addr) (cc:Nat) (is:List In) (w:World) (hcc:is.length<=cc) (hin:is= []\/ ∃bc oc,ac=some ⟨bc,oc,none⟩/\bc<w.heap.size/\InsAt w bc oc is) (HLs:O (Calls prog 27 #[.slice ac is.length cc] w fun e w'=> e=.returned (.bool (codeOkZ is))/\Below w.heap.size w w')) :
 Calls prog 32 #[.slice ac is.length cc] w (SpotsP is w):=by
 obtain⟨N,hN⟩:∃N,is.length=N:=⟨_,rfl⟩
 have HN:=U hN;have HIn:=U (Lc hcc hin);obtain⟨ok,hok⟩:∃ok,codeOkZ is=ok:=⟨_,rfl⟩
 have HOk:=U hok;rw[hN,hok]at HLs;rw[hN];clear hN hcc hin hok;refine calls_of_wpN func32 rfl ?_;simp only[ntmps32,List.size_toArray,Ll,Lm,Nat.reduceAdd,Nat.reduceSub,Array.replicate_succ,Array.replicate_zero,List.push_toArray,List.append_toArray,List.nil_append,Ln];refine z57 fun K hK=>?_
 go_wp2_with fail
 refine z57 fun K hK=>?_
 go_wp2_with fail
 refine HLs.o.mono ?_;rintro e W1 ⟨rfl,hb1⟩;have HB1:=U hb1;clear hb1 HLs
 cases ok with
 | false=>
   go_wp2_with fail
   go_ret2
   exact⟨HB1.o.alloc HB1.o.size _,Or.inl ⟨valid_bad (Or.inl HOk.o),W1.heap.size,rfl⟩⟩
 | true=>
   have hN15:N<=1500:=by
    have h:=HOk.o;unfold codeOkZ at h;rw[Lq]at h;have:=of_decide_eq_true h.1;have:=HN.o;omega
   have HN15:=U hN15;clear hN15;go_wp2_with fail
   refine z57 fun K hK=>?_
   have hD:Below W1.heap.size W1 W1.drew:=Lb.drew;refine z31 (S:=fun _=>True) ye rfl rfl ?_;refine pick_o 0 (.slice ac N cc) trivial ?_;refine pick_o 1 (.slice ac N cc) trivial ?_;refine pick_o 2 (int i64 (N:Int)) trivial ?_;refine pick_o 4 (.slice ac N cc) trivial ?_;refine pick_o 5 (int i64 (N:Int)) trivial ?_;refine pick_fork (i:=3) (j:=6) ye ?_ ?_
   .obtain⟨cS,hcs,hcz,hmk⟩:=made_spots N HN15.o W1.drew;have hmc:=made_chan N HN15.o ((W1.alloc (.cells cS 153)).drew);refine⟨_,.slice (some ⟨W1.heap.size,0,none⟩) N N,(W1.drew.alloc (.cells cS 153)),rfl,rfl,by simp[go_sem];rw[hmk];rfl,trivial,?_⟩;refine z25 yg ?_;refine z27 (i:=6) (v:=.chan (some (W1.heap.size+1))) (w1:=((W1.drew.alloc (.cells cS 153)).alloc (.chan N #[] false 0 0 false))) rfl ye rfl rfl (by simp[go_sem];rw[hmc];simp;rfl) trivial yg ?_
    refine z27 (i:=7) (v:=.agg #[.slice ac N cc,.slice (some ⟨W1.heap.size,0,none⟩) N N,.chan (some (W1.heap.size+1)),int i64 0]) (w1:=((W1.drew.alloc (.cells cS 153)).alloc (.chan N #[] false 0 0 false))) rfl ye rfl rfl yf trivial yg ?_;refine z27 (i:=8) (v:=.pointer (some ⟨W1.heap.size+2,0,none⟩)) (w1:=((W1.drew.alloc (.cells cS 153)).alloc (.chan N #[] false 0 0 false)).alloc (.cells #[.slice ac N cc,.slice (some ⟨W1.heap.size,0,none⟩) N N,.chan (some (W1.heap.size+1)),int i64 0] 150)) rfl ye rfl rfl yf trivial yg ?_
    refine z27 (i:=9) (v:=.pointer (some ⟨W1.heap.size+2,0,none⟩)) (w1:=((W1.drew.alloc (.cells cS 153)).alloc (.chan N #[] false 0 0 false)).alloc (.cells #[.slice ac N cc,.slice (some ⟨W1.heap.size,0,none⟩) N N,.chan (some (W1.heap.size+1)),int i64 0] 150)) rfl ye rfl rfl yf trivial yg ?_;refine z37 ye ?_;have t2:=two_newE W1.drew (.cells cS 153) (.chan N #[] false 0 0 false);have t3:=Ld ((W1.drew.alloc (.cells cS 153)).alloc (.chan N #[] false 0 0 false)) (.cells #[.slice ac N cc,.slice (some ⟨W1.heap.size,0,none⟩) N N,.chan (some (W1.heap.size+1)),int i64 0] 150)
    have hs2:((W1.drew.alloc (.cells cS 153)).alloc (.chan N #[] false 0 0 false)).heap.size=W1.heap.size+2:=yq;have hs0:W1.drew.heap.size=W1.heap.size:=rfl;rw[hs0]at t2;have g3:=t3.1;rw[hs2]at g3;have hb:Below w.heap.size w (((W1.drew.alloc (.cells cS 153)).alloc (.chan N #[] false 0 0 false)).alloc (.cells #[.slice ac N cc,.slice (some ⟨W1.heap.size,0,none⟩) N N,.chan (some (W1.heap.size+1)),int i64 0] 150)):=by
     have hb1:=HB1.o.trans (hD.mono HB1.o.size);have hb2:=hb1.alloc hb1.size (.cells cS 153);have hb3:=hb2.alloc hb2.size (.chan N #[] false 0 0 false);exact hb3.alloc hb3.size _
    have hFl:=fl_start (Fb:=W1.heap.size+2) (gs:=W1.heap.size) (ch:=(W1.heap.size+1)) hb g3 ((t3.2 _ ya).trans t2.1) ((t3.2 _ ya).trans t2.2) yda yda yda hcs hcz HN15.o;clear hmk hmc t2 t3 g3 hs2 hs0 hcs hcz hb;obtain⟨X,hX⟩:∃X,((W1.drew.alloc (.cells cS 153)).alloc (.chan N #[] false 0 0 false)).alloc (.cells #[.slice ac N cc,.slice (some ⟨W1.heap.size,0,none⟩) N N,.chan (some (W1.heap.size+1)),int i64 0] 150)=X:=⟨_,rfl⟩
    rw[hX]at hFl |-;clear hX;have hrest:=spots_rest HN.o hFl HOk.o HIn.o.1 HIn.o.2;go_wp2_with fail
    exact hrest
   .obtain⟨cS,hcs,hcz,hmk⟩:=made_spots N HN15.o ((W1.alloc (.chan N #[] false 0 0 false)).drew);have hmc:=made_chan N HN15.o W1.drew;refine⟨_,.chan (some W1.heap.size),(W1.drew.alloc (.chan N #[] false 0 0 false)),rfl,rfl,by simp[go_sem];rw[hmc];rfl,trivial,?_⟩;refine z25 yg ?_;refine z27 (i:=3) (v:=.slice (some ⟨W1.heap.size+1,0,none⟩) N N) (w1:=((W1.drew.alloc (.chan N #[] false 0 0 false)).alloc (.cells cS 153))) rfl ye rfl rfl (by simp[go_sem];rw[hmk];simp;rfl) trivial yg ?_
    refine z27 (i:=7) (v:=.agg #[.slice ac N cc,.slice (some ⟨(W1.heap.size+1),0,none⟩) N N,.chan (some W1.heap.size),int i64 0]) (w1:=((W1.drew.alloc (.chan N #[] false 0 0 false)).alloc (.cells cS 153))) rfl ye rfl rfl yf trivial yg ?_;refine z27 (i:=8) (v:=.pointer (some ⟨W1.heap.size+2,0,none⟩)) (w1:=((W1.drew.alloc (.chan N #[] false 0 0 false)).alloc (.cells cS 153)).alloc (.cells #[.slice ac N cc,.slice (some ⟨(W1.heap.size+1),0,none⟩) N N,.chan (some W1.heap.size),int i64 0] 150)) rfl ye rfl rfl yf trivial yg ?_
    refine z27 (i:=9) (v:=.pointer (some ⟨W1.heap.size+2,0,none⟩)) (w1:=((W1.drew.alloc (.chan N #[] false 0 0 false)).alloc (.cells cS 153)).alloc (.cells #[.slice ac N cc,.slice (some ⟨(W1.heap.size+1),0,none⟩) N N,.chan (some W1.heap.size),int i64 0] 150)) rfl ye rfl rfl yf trivial yg ?_;refine z37 ye ?_;have t2:=two_newE W1.drew (.chan N #[] false 0 0 false) (.cells cS 153);have t3:=Ld ((W1.drew.alloc (.chan N #[] false 0 0 false)).alloc (.cells cS 153)) (.cells #[.slice ac N cc,.slice (some ⟨(W1.heap.size+1),0,none⟩) N N,.chan (some W1.heap.size),int i64 0] 150)
    have hs2:((W1.drew.alloc (.chan N #[] false 0 0 false)).alloc (.cells cS 153)).heap.size=W1.heap.size+2:=yq;have hs0:W1.drew.heap.size=W1.heap.size:=rfl;rw[hs0]at t2;have g3:=t3.1;rw[hs2]at g3;have hb:Below w.heap.size w (((W1.drew.alloc (.chan N #[] false 0 0 false)).alloc (.cells cS 153)).alloc (.cells #[.slice ac N cc,.slice (some ⟨(W1.heap.size+1),0,none⟩) N N,.chan (some W1.heap.size),int i64 0] 150)):=by
     have hb1:=HB1.o.trans (hD.mono HB1.o.size);have hb2:=hb1.alloc hb1.size (.chan N #[] false 0 0 false);have hb3:=hb2.alloc hb2.size (.cells cS 153);exact hb3.alloc hb3.size _
    have hFl:=fl_start (Fb:=W1.heap.size+2) (gs:=(W1.heap.size+1)) (ch:=W1.heap.size) hb g3 ((t3.2 _ ya).trans t2.2) ((t3.2 _ ya).trans t2.1) yda yda yda hcs hcz HN15.o;clear hmk hmc t2 t3 g3 hs2 hs0 hcs hcz hb;obtain⟨X,hX⟩:∃X,((W1.drew.alloc (.chan N #[] false 0 0 false)).alloc (.cells cS 153)).alloc (.cells #[.slice ac N cc,.slice (some ⟨(W1.heap.size+1),0,none⟩) N N,.chan (some W1.heap.size),int i64 0] 150)=X:=⟨_,rfl⟩
    rw[hX]at hFl |-;clear hX;have hrest:=spots_rest HN.o hFl HOk.o HIn.o.1 HIn.o.2;go_wp2_with fail
    exact hrest
end
section
open Go.RowKit Go.Extern.Stop Go.Stop Go.Extern
def LaidE (w:World):Prop:=w.cell? ⟨0,0,none⟩=some (.iface 259 (.agg #[.pointer (some ⟨4,79,none⟩)]))
theorem asBad_nil (t:Value) (w:World):Calls prog 81 #[.nilIface,t] w fun e w'=> e=.returned (.bool false)/\w'= w:=by
 go_enter func81,ntmps81
 go_wp2
 go_ret;exact⟨rfl,rfl⟩
abbrev valPP (b:Nat):Value:=.agg #[.pointer (some ⟨4,158,none⟩),.pointer (some ⟨b,0,none⟩),.int .u64 150]
abbrev valP (a:Addr) (fl:Int):Value:=.agg #[.pointer (some ⟨4,144,none⟩),.pointer (some a),.int .u64 fl]
abbrev typP (t:Nat):Value:=.agg #[.pointer (some ⟨4,t,none⟩)]
abbrev typI (t:Nat):Value:=.iface 259 (typP t)
theorem bc_valueOf2 (t:Addr) (w:World):(ReflectliteValue.unpack (.iface 158 (.pointer (some t)))).run prog w=.ok (valPP w.heap.size) (w.alloc (.cells #[.pointer (some t)] 158)):=ye
theorem bc_valueOf (e:Addr) (w:World):(ReflectliteValue.unpack (.iface 144 (.pointer (some e)))).run prog w=.ok (valP ⟨w.heap.size,0,none⟩ 150) (w.alloc (.cells #[.pointer (some e)] 144)):=ye
theorem bc_type2 (b:Nat) (w:World):(ReflectliteValue.methodAny (ReflectliteValue.valueError "reflectlite.Value.Type" 0) (fun t _ _ _=>ReflectliteType.toType t) #[valPP b]).run prog w=.ok (typI 158) w:=ye
theorem bc_mKind (h:Value) (w:World):(Go.method 424 259 (.agg #[h]) "Kind").run prog w=.ok (198,h) w:=ye
theorem bc_mElem (h:Value) (w:World):(Go.method 424 259 (.agg #[h]) "Elem").run prog w=.ok (270,.agg #[h]) w:=ye
theorem bc_mImpl (h:Value) (w:World):(Go.method 424 259 (.agg #[h]) "Implements").run prog w=.ok (271,.agg #[h]) w:=ye
theorem bc_mAssign (h:Value) (w:World):(Go.method 424 259 (.agg #[h]) "AssignableTo").run prog w=.ok (268,.agg #[h]) w:=ye
theorem bc_kind2 (w:World):((ReflectliteType.abiMethod fun t=>(fun a:Nat=>Value.int IntKind.u8 (a:Int)) <$> Rtype.kind t) #[.pointer (some ⟨4,158,none⟩)]).run prog w=.ok (.int .u8 22) w:=ye
theorem bc_kind (w:World):((ReflectliteType.abiMethod fun t=>(fun a:Nat=>Value.int IntKind.u8 (a:Int)) <$> Rtype.kind t) #[.pointer (some ⟨4,144,none⟩)]).run prog w=.ok (.int .u8 22) w:=ye
theorem bc_elem (w:World):(ReflectliteType.method ReflectliteType.elem #[typP 158]).run prog w=.ok (typI 144) w:=ye
theorem bc_impl (w:World):(ReflectliteType.relation "Implements" ReflectliteType.implements_ #[typP 144,typI 79]).run prog w=.ok (.bool true) w:=ye
theorem bc_typeOf (v:Value) (w:World):(ReflectliteType.typeOf #[.iface 144 v]).run prog w=.ok (typI 144) w:=ye
theorem bc_assign (w:World):(ReflectliteType.relation "AssignableTo" ReflectliteType.assignableTo #[typP 144,typI 144]).run prog w=.ok (.bool true) w:=ye
theorem bc_parts2 (b:Nat) (w:World):(ReflectliteValue.parts (valPP b)).run prog w=.ok (some (158,⟨b,0,none⟩,150)) w:=ye
theorem bc_elemT (w:World):(Rtype.elem? 158).run prog w=.ok (some 144) w:=ye
theorem bc_mk (p:Addr) (w:World):(ReflectliteValue.mk 144 p ReflectliteValue.flagAddr).run prog w=.ok (valP p 406) w:=ye
theorem method_one (z:Sem Value) (f:TypeId->Addr->Nat->Nat->Sem Value) (v:Value):ReflectliteValue.method z f #[v]=(ReflectliteValue.parts v >>= fun x=>match x with|none=>z|some (t,a,fl)=>f t a fl (fl % 32)):=rfl
theorem bc_isNil (b:Nat) (p:Addr) (W:World) (ha:W.cell? ⟨b,0,none⟩=some (.pointer (some p))) :
 (ReflectliteValue.method (ReflectliteValue.valueError "reflectlite.Value.IsNil" 0) ReflectliteValue.isNil #[valPP b]).run prog W=.ok (.bool false) W:=by
 rw[method_one];simp only[Sem.run_bind,bc_parts2,Result.andThen];simp[ReflectliteValue.isNil,loadVar,isAgg,underlying,underlying158,ha,Result.andThen]
theorem bc_elemV (b:Nat) (p:Addr) (W:World) (ha:W.cell? ⟨b,0,none⟩=some (.pointer (some p))) :
 (ReflectliteValue.method (ReflectliteValue.valueError "reflectlite.Value.Elem" 0) ReflectliteValue.elem #[valPP b]).run prog W=.ok (valP p 406) W:=by
 rw[method_one];simp only[Sem.run_bind,bc_parts2,Result.andThen];simp[ReflectliteValue.elem,loadVar,isAgg,underlying,underlying158,ha,Result.andThen,bc_elemT,bc_mk]
theorem bc_setRun (ta b:Addr) (W:World):(ReflectliteValue.set #[valP ta 406,valP b 150]).run prog W=(do let x <- loadVar 144 b;storeVar 144 ta x;pure (Value.tuple #[]):Sem Value).run prog W:=ye
theorem bc_set (ta b e:Addr) (old:Value) (W:World) (hb:W.cell? b=some (.pointer (some e))) (ht:W.cell? ta=some old) (hf:W.frozen? ta=false) :
 (ReflectliteValue.set #[valP ta 406,valP b 150]).run prog W=.ok (.tuple #[]) (W.setCell ta (.pointer (some e))):=by
 rw[bc_setRun];simp[loadVar,isAgg,underlying,underlying144,hb,Result.andThen,storeVar,Value.cells,storeCells,Addr.add];rw[run_store prog W ta _ _ (by rfl)];simp[ht,hf]
def asW (w:World) (e t:Addr):World:=(((w.alloc (.cells #[.pointer (some t)] 158)).alloc (.cells #[.pointer (some ⟨4,158,none⟩),.pointer (some ⟨w.heap.size,0,none⟩),.int .u64 150] 197)).alloc (.cells #[.pointer (some ⟨4,158,none⟩),.pointer (some ⟨w.heap.size,0,none⟩),.int .u64 150] 197)).alloc (.cells #[.pointer (some e)] 144)
theorem asBad_hit (e t:Addr) (old:Value) (w:World) (hg:LaidE w) (ht0:w.cell? t=some old) (hf0:w.frozen? t=false) :
 Calls prog 81 #[.iface 144 (.pointer (some e)),.iface 158 (.pointer (some t))] w fun ev w'=> ev=.returned (.bool true)/\w'= (asW w e t).setCell t (.pointer (some e)):=by
 have hlt:0<w.heap.size:=by
  rcases Nat.eq_zero_or_pos w.heap.size with h0|h
  .simp[LaidE,World.cell?,h0]at hg
  .exact h
 have htl:t.block<w.heap.size:=by
  rcases Nat.lt_or_ge t.block w.heap.size with h|h
  .exact h
  .simp[World.cell?,Array.getElem?_eq_none h]at ht0
 have xV:= @run_callFunc_extern prog 115 _ (fun args=>ReflectliteValue.unpack (args.getD 0 (.tuple #[]))) func115 ye ye ye ye;have xT:= @run_callFunc_extern prog 116 _ (ReflectliteValue.methodAny (ReflectliteValue.valueError "reflectlite.Value.Type" 0) (fun t _ _ _=>ReflectliteType.toType t)) func116 ye ye ye ye;have xN:= @run_callFunc_extern prog 117 _ (ReflectliteValue.method (ReflectliteValue.valueError "reflectlite.Value.IsNil" 0) ReflectliteValue.isNil) func117 ye ye ye ye
 have xK:= @run_callFunc_extern prog 198 _ (ReflectliteType.abiMethod fun t=>do pure (.int .u8 (<- Rtype.kind t))) func198 ye ye ye ye;have xE:= @run_callFunc_extern prog 270 _ (ReflectliteType.method ReflectliteType.elem) func270 ye ye ye ye;have xI:= @run_callFunc_extern prog 271 _ (ReflectliteType.relation "Implements" ReflectliteType.implements_) func271 ye ye ye ye;have xO:= @run_callFunc_extern prog 152 _ ReflectliteType.typeOf func152 ye ye ye ye;have xA:= @run_callFunc_extern prog 268 _ (ReflectliteType.relation "AssignableTo" ReflectliteType.assignableTo) func268 ye ye ye ye
 have xL:= @run_callFunc_extern prog 153 _ (ReflectliteValue.method (ReflectliteValue.valueError "reflectlite.Value.Elem" 0) ReflectliteValue.elem) func153 ye ye ye ye;have xS:= @run_callFunc_extern prog 154 _ ReflectliteValue.set func154 ye ye ye ye;have b1:=bc_valueOf2;have b2:=bc_valueOf;have b3:=bc_type2;have b4:=bc_mKind;have b5:=bc_mElem;have b6:=bc_mImpl;have b7:=bc_mAssign;have b8:=bc_kind2;have b9:=bc_kind;have c1:=bc_elem;have c2:=bc_impl;have c3:=bc_typeOf;have c4:=bc_assign
 have n8:=bc_isNil w.heap.size t ((w.alloc (.cells #[.pointer (some t)] 158)).alloc (.cells #[.pointer (some ⟨4,158,none⟩),.pointer (some ⟨w.heap.size,0,none⟩),.int .u64 150] 197)) yq;have hg2:((w.alloc (.cells #[.pointer (some t)] 158)).alloc (.cells #[.pointer (some ⟨4,158,none⟩),.pointer (some ⟨w.heap.size,0,none⟩),.int .u64 150] 197)).cell? ⟨0,0,none⟩=some (.iface 259 (.agg #[.pointer (some ⟨4,79,none⟩)])):=by
  rw[World.cell?_alloc_lt _ _ ⟨0,0,none⟩ yq,World.cell?_alloc_lt _ _ ⟨0,0,none⟩ hlt];exact hg
 have el:=bc_elemV w.heap.size t (((w.alloc (.cells #[.pointer (some t)] 158)).alloc (.cells #[.pointer (some ⟨4,158,none⟩),.pointer (some ⟨w.heap.size,0,none⟩),.int .u64 150] 197)).alloc (.cells #[.pointer (some ⟨4,158,none⟩),.pointer (some ⟨w.heap.size,0,none⟩),.int .u64 150] 197)) (by rw[World.cell?_alloc_lt _ _ ⟨w.heap.size,0,none⟩ jd];simp);have st:=bc_set t ⟨w.heap.size+1+1+1,0,none⟩ e old (asW w e t)
  (by unfold asW;rw[World.cell?_alloc_at _ _ _ _ yq];rfl)
  (by unfold asW;rw[World.cell?_alloc_lt _ _ t jd,World.cell?_alloc_lt _ _ t jd,World.cell?_alloc_lt _ _ t jd,World.cell?_alloc_lt _ _ t htl];exact ht0)
  (by unfold asW;rw[World.frozen?_alloc_old _ _ t jd,World.frozen?_alloc_old _ _ t jd,World.frozen?_alloc_old _ _ t jd,World.frozen?_alloc_old _ _ t (Nat.ne_of_lt htl)];exact hf0)
 unfold asW at st;unfold valPP at b1 b3 n8 el;unfold valP at b2 el st;unfold typI typP at b3 c1 c2 c3 c4;clear hg;go_enter func81,ntmps81
 go_wp2
 refine wp_loop_rounds 1 ?_;rw[rounds_succ];go_wp2
 go_ret;exact⟨rfl,rfl⟩
end
section
open Go.RowKit
theorem LaidE.lt (h:LaidE w):0<w.heap.size:=by
 rcases Nat.eq_zero_or_pos w.heap.size with h0|h1
 .simp[LaidE,World.cell?,h0]at h
 .exact h1
theorem LaidE.stays {w':World}(h:LaidE w) (hb:Below w.heap.size w w'):LaidE w':= by
 have e:=hb.block 0 h.lt;unfold LaidE World.cell? at h |-;simp only[e];exact h
theorem below_setAt {B:Nat}(h:Below B W X) (a:Addr) (v:Value) (ha:B<=a.block):Below B W (X.setCell a v):=by
 have h0:=h.size;exact⟨h.os,h.tape,h.output,by simpa[World.setCell]using h0,fun q hq=>(Lg X a v q ya).trans (h.block q hq)⟩
theorem below_asW (w:World) (e t:Addr) (h:Below W.heap.size W w):Below W.heap.size W (asW w e t):=by
 unfold asW;have h1:=h.alloc h.size (.cells #[.pointer (some t)] 158);have h2:=h1.alloc h1.size (.cells #[.pointer (some ⟨4,158,none⟩),.pointer (some ⟨w.heap.size,0,none⟩),.int .u64 150] 197);have h3:=h2.alloc h2.size (.cells #[.pointer (some ⟨4,158,none⟩),.pointer (some ⟨w.heap.size,0,none⟩),.int .u64 150] 197);exact h3.alloc h3.size _
theorem isBad_nil (w:World):Calls prog 33 #[.nilIface] w fun e w'=> e=.returned (.bool false)/\Below w.heap.size w w':= by
 have HA:=U (fun t w=>asBad_nil t w);go_enter func33,ntmps33
 go_wp2_with fail
 refine(HA.o _ _).mono ?_;rintro e w2 ⟨rfl,rfl⟩;go_wp2_with fail
 go_ret;exact⟨rfl,Lb.alloc La _⟩
theorem isBad_hit (pb:Nat) (w:World) (hL:LaidE w):Calls prog 33 #[.iface 144 (.pointer (some ⟨pb,0,none⟩))] w fun e w'=> e=.returned (.bool true)/\Below w.heap.size w w':= by
 have hb0:=(Below.refl w.heap.size w).alloc La (.cells #[.pointer none] 144);have HA:=U (asBad_hit ⟨pb,0,none⟩ ⟨w.heap.size,0,none⟩ (.pointer none) (w.alloc (.cells #[.pointer none] 144)) (hL.stays hb0) (by rw[World.cell?_alloc_at _ _ _ _ rfl];rfl) (z15 (Ld w (.cells #[.pointer none] 144)).1 0));have HB:=U (below_setAt (below_asW _ ⟨pb,0,none⟩ ⟨w.heap.size,0,none⟩ hb0) ⟨w.heap.size,0,none⟩ (.pointer (some ⟨pb,0,none⟩)) La);clear hb0 hL;go_enter func33,ntmps33
 go_wp2_with fail
 refine HA.o.mono ?_;rintro e w2 ⟨rfl,rfl⟩;obtain⟨X,hX⟩:∃X,(asW (w.alloc (.cells #[.pointer none] 144)) ⟨pb,0,none⟩ ⟨w.heap.size,0,none⟩).setCell ⟨w.heap.size,0,none⟩ (.pointer (some ⟨pb,0,none⟩))=X:=⟨_,rfl⟩
 rw[hX]at HB |-;clear hX HA;go_wp2_with fail
 go_ret;exact⟨rfl,HB.o⟩
theorem spots_any (w:World) (h:InsSlice w (.slice ac is.length cc) is) (hcc:is.length<=cc) :
 Calls prog 32 #[.slice ac is.length cc] w (SpotsP is w):=by
 obtain⟨a,cap,e,hh⟩:=h;have e1:ac=a:=by injection e
 subst e1;refine codeSpots_calls ac cc is w hcc (hh.imp id fun⟨b,o,h1,h2,h3⟩=>⟨b,o,h1,h2,h3⟩) ?_;show Calls _ _ _ _ _;rcases hh with rfl|⟨b,o,rfl,h2,h3⟩
 .exact listNone_calls ac cc w
 .exact listOk_calls b o cc is w h2 h3
theorem implOk_any (w:World) (hL:LaidE w) (h:InsSlice w (.slice ac is.length cc) is) (hcc:is.length<=cc) :
 Calls prog 12 #[.slice ac is.length cc] w fun e w'=> e=.returned (.bool (validZ is))/\Below w.heap.size w w':= by
 have HS:=U (spots_any w h hcc);have HL:=U hL;clear h hL hcc;go_enter func12,ntmps12
 go_wp2_with fail
 refine HS.o.mono ?_;rintro e W1 ⟨hb,⟨hv,pb,rfl⟩|⟨hv,T,g,-,rfl,-⟩⟩
 .have HI:=U (isBad_hit pb W1 (HL.o.stays hb));have HB:=U hb;have HV:=U hv;clear hb hv HS HL;go_wp2_with fail
  refine HI.o.mono ?_;rintro e W2 ⟨rfl,hb2⟩;have HB2:=U hb2;clear hb2 HI;go_wp2_with fail
  go_ret;exact⟨by rw[HV.o];rfl,HB.o.trans (HB2.o.mono HB.o.size)⟩
 .have HI:=U (isBad_nil W1);have HB:=U hb;have HV:=U hv;clear hb hv HS HL;go_wp2_with fail
  refine HI.o.mono ?_;rintro e W2 ⟨rfl,hb2⟩;have HB2:=U hb2;clear hb2 HI;go_wp2_with fail
  go_ret;exact⟨by rw[HV.o];rfl,HB.o.trans (HB2.o.mono HB.o.size)⟩
end
section
open Go.RowKit Go.Deep
theorem nodeV_slice {v:Value}{ns:List Nd}(h:NodeV W v ns):∃ad cp,v=.slice ad ns.length cp:=by
 rcases h with ⟨rfl,rfl⟩|⟨b,cap,rfl,h2,h3⟩
 .exact⟨none,0,rfl⟩
 .exact⟨_,cap,rfl⟩
theorem insS_owns {B:Nat}{v:Value}(h:OwnsI B W v cs):InsSlice W v cs:=h.sliceR.insSlice
structure BoxK (W:World) (q:Nat) (x y:Value) (t:TypeId):Prop where
 blk:W.heap[q]?=some (.cells #[x,y] t)
theorem BoxK.below {W':World}{t:TypeId}(h:BoxK W q x y t) (hb:Below W.heap.size W W'):BoxK W' q x y t:=⟨(hb.block q (z13 h.blk)).trans h.blk⟩
theorem BoxK.c0 {t:TypeId}(h:BoxK W q x y t):W.cell? ⟨q,0,none⟩=some x:=by rw[z11 h.blk 0];rfl
theorem BoxK.c1 {t:TypeId}(h:BoxK W q x y t):W.cell? ⟨q,1,none⟩=some y:=by rw[z11 h.blk 1];rfl
theorem valid_ok (h:validZ cs=true):codeOkZ cs=true:=by
 unfold validZ at h;rw[Lq]at h;exact h.1
theorem valid_len {x:Bool}(h0:x=false->cs= []) (h1:x=true->validZ cs=true):cs.length<=1500:=by
 cases x with
 |false=>rw[h0 rfl];exact Li _
 | true=>
   have h:=valid_ok (h1 rfl);unfold codeOkZ at h;rw[Lq]at h;exact of_decide_eq_true h.1
structure InsK (W:World) (ad:Option Addr) (n cp:Nat) (cs:List In):Prop where
 ins:InsSlice W (.slice ad n cp) cs
 len:cs.length=n
 cap:n<=cp
theorem InsK.below {W':World}{ad:Option Addr}{n cp:Nat}(h:InsK W ad n cp cs) (hb:Below W.heap.size W W'):InsK W' ad n cp cs:=⟨h.ins.below hb,h.len,h.cap⟩
theorem valid_walk (a0:Option Addr) (len cap:Nat) (W:World) (hcap:len<=cap) (hB:BytesAt W a0 len) (hL:Laid W) (hLE:LaidE W) :
 Calls prog 3 #[.slice a0 len cap] W fun e W'=> e=.returned (.bool true)/\Below W.heap.size W W':= by
 by_cases hl:(1048576:Int)<(len:Int)
 .go_enter func3,ntmps3
  go_wp2_with fail
  go_ret;exact⟨rfl,Lb⟩
 have HD:=U (drawComp_calls a0 len cap W ya hcap hB);have HLa:=U hL;have HLe:=U hLE;clear hB hcap hL hLE;go_enter func3,ntmps3
 go_wp2_with fail
 refine HD.o.mono ?_;rintro e W1 ⟨ad,cp,v,es,ns,rfl,hE,he5,hBe,hN,hBn,hnl,hb1⟩;obtain⟨cs,x,b,L,hC⟩:=comp_drawn (HLa.o.stays hb1) hE he5 hBe hN hBn;obtain⟨av,cv,rfl⟩:=nodeV_slice hN;obtain⟨le,hle⟩:∃n,es.length=n:=⟨_,rfl⟩
 obtain⟨ln,hln⟩:∃n,ns.length=n:=⟨_,rfl⟩
 rw[hle,hln]at hC;have HC:=U hC;have HB1:=U hb1;have HLn:=U (valid_len hC.bad hC.val);rw[hle,hln];have hA:=(Ld W1 (.cells #[.slice ad le cp,.slice av ln cv] 26)).1;have hb2:=(Below.refl W1.heap.size W1).alloc La (.cells #[.slice ad le cp,.slice av ln cv] 26);obtain⟨W2,hW2⟩:∃X,W1.alloc (.cells #[.slice ad le cp,.slice av ln cv] 26)=X:=⟨_,rfl⟩
 rw[hW2]at hA hb2;obtain⟨q,hq⟩:∃q,W1.heap.size=q:=⟨_,rfl⟩
 rw[hq]at hA;have HW2:=U hW2;have K2:O (BoxK W2 q (.slice ad le cp) (.slice av ln cv) 26):=⟨hA⟩
 have B2:=U hb2;clear HD hb1 hE he5 hBe hN hBn hnl hC hle hln hA hb2 hW2 hl;go_upto_region 4 with fail
 rw[HW2.o];try rw[hq]
 clear HW2 hq;have c0:=K2.o.c0;have c1:=K2.o.c1;go_wp2_with fail
 refine(HC.o.impl W2 B2.o).mono ?_;rintro e W3 ⟨u,rfl,⟨a1,p1,rfl,i1,r1⟩,hb3⟩;obtain⟨n,hn⟩:∃n,cs.length=n:=⟨_,rfl⟩
 rw[hn]at i1 r1 |-;have I3:O (InsK W3 a1 n p1 cs):=⟨i1,hn,r1⟩
 have K3:=U (K2.o.below hb3);have B3:=U (B2.o.trans (hb3.mono B2.o.size));have HNn:=U hn;clear hb3 c0 c1 i1 r1 hn;have c0:=K3.o.c0;have c1:=K3.o.c1;go_wp2_with fail
 refine(HC.o.spec W3 B3.o).mono ?_;rintro e W4 ⟨u,rfl,⟨a2,p2,rfl,i2,r2⟩,hb4⟩;rw[HNn.o]at i2 r2 |-;have J4:O (InsK W4 a2 n p2 cs):=⟨i2,HNn.o,r2⟩
 have I4:=U (I3.o.below hb4);have K4:=U (K3.o.below hb4);have B4:=U (B3.o.trans (hb4.mono B3.o.size));have HH:=U (hrCode_any W4 kf I4.o.ins J4.o.ins);have hxx:(x !=x)=false:=by cases x<;>rfl
 clear hb4 c0 c1 i2 r2 I3 K2 K3 B2 B3;go_wp2_with fail
 refine HH.o.mono ?_;rintro e W5 ⟨rfl,hb5⟩;have I5:=U (I4.o.below hb5);have K5:=U (K4.o.below hb5);have B5:=U (B4.o.trans (hb5.mono B4.o.size));clear hb5 HH I4 J4 K4 B4;have c0:=K5.o.c0;have c1:=K5.o.c1;go_wp2_with fail
 refine(HC.o.ok W5 B5.o).mono ?_;rintro e W6 ⟨rfl,hb6⟩;have I6:=U (I5.o.below hb6);have K6:=U (K5.o.below hb6);have B6:=U (B5.o.trans (hb6.mono B5.o.size));clear hb6 c0 c1 I5 K5 B5 hxx;have c0:=K6.o.c0;have c1:=K6.o.c1
 cases b with
 | false=>
   have hx:x=false:=by have:=HC.o.is;simpa using this
   have hcs:=HC.o.bad hx;have hn0:n=0:=ydb;subst hx;subst hn0;clear hcs;go_wp2_with fail
   go_ret;exact⟨rfl,HB1.o.trans (B6.o.mono HB1.o.size)⟩
 | true=>
   go_wp2_with fail
   refine(HC.o.free rfl W6 B6.o).mono ?_;rintro e W7 ⟨⟨a3,p3,rfl⟩,hb7⟩;have I7:=U (I6.o.below hb7);have B7:=U (B6.o.trans (hb7.mono B6.o.size));clear hb7 c0 c1 K6 I6 B6;by_cases hL:L=0
   .have hx:x=true:=by have:=HC.o.is;simpa[hL]using this
    have HV:=U (HC.o.val hx);have HOk:=U (valid_ok HV.o);subst hx;subst hL;have HI:=U (implBytes_any W7 I7.o.ins);rw[HOk.o,if_pos rfl]at HI;obtain⟨BS,hBS⟩:∃BS,codeBytesZ cs=BS:=⟨_,rfl⟩
    have HIs:O (∀y∈BS,IsB y):=by
     show ∀y,_;rw[<-hBS];exact enc_isB cs
    have HZ:O (readZ BS=some cs):=by
     show _=_;rw[<-hBS];exact read_back HOk.o
    rw[hBS]at HI;clear hBS;go_wp2_with fail
    refine HI.o.mono ?_;rintro e W8 ⟨⟨vb,rfl,hvb⟩,hb8⟩;have hrb:=raw_of_out hvb;obtain⟨ab,cb,rfl,hcb,-⟩:=id hrb;have HRd:=U (implRead_any hrb HIs.o);rw[HZ.o]at HRd;obtain⟨nb,hnb⟩:∃nb,BS.length=nb:=⟨_,rfl⟩
    rw[hnb]at HRd |-;have I8:=U (I7.o.below hb8);have B8:=U (B7.o.trans (hb8.mono B7.o.size));clear hvb hrb hb8 hcb hnb HI I7 B7;go_wp2_with fail
    refine HRd.o.mono ?_;rintro e W9 ⟨⟨vd,rfl,hvd⟩,hb9⟩;simp only[Option.getD_some]at hvd;have hd9:=insS_owns hvd;obtain⟨a4,p4,rfl,-⟩:=id hd9;simp only[Option.isSome_some];rw[HNn.o]at hd9 |-;have J9:=U hd9;have I9:=U (I8.o.below hb9);have B9:=U (B8.o.trans (hb9.mono B8.o.size));have HOkc:O (Calls prog 12 #[.slice a1 n p1] W9 fun e w'=> e=.returned (.bool true)/\Below W9.heap.size W9 w'):=by
     have h:=implOk_any (ac:=a1) (cc:=p1) (is:=cs) W9 (HLe.o.stays (HB1.o.trans (B9.o.mono HB1.o.size))) (by rw[HNn.o];exact I9.o.ins) (by rw[HNn.o];exact I9.o.cap);rw[HV.o,HNn.o]at h;exact h
    clear hvd hd9 hb9 I8 B8 HRd;go_wp2_with fail
    refine HOkc.o.mono ?_;rintro e W10 ⟨rfl,hb10⟩;have HH:=U (hrCode_any W10 kf (J9.o.below hb10) (I9.o.below hb10).ins);have B10:=U (B9.o.trans (hb10.mono B9.o.size));clear hb10 HOkc I9 J9 B9;go_wp2_with fail
    refine HH.o.mono ?_;rintro e W11 ⟨rfl,hb11⟩;have B11:=U (B10.o.trans (hb11.mono B10.o.size));clear hb11 HH B10;go_wp2_with fail
    go_ret;exact⟨rfl,HB1.o.trans (B11.o.mono HB1.o.size)⟩
   .have hx:x=false:=by have:=HC.o.is;simpa[hL]using this
    have hcs:=HC.o.bad hx;have hn0:n=0:=ydb;have hL':¬ ((L:Int)=0):=ya;subst hx;subst hn0;clear hcs hL;go_wp2_with fail
    go_ret;exact⟨rfl,HB1.o.trans (B7.o.mono HB1.o.size)⟩
end
section
open Go.ChangeShapes Go.WideShapes Go.RowKit
theorem le_var:prog.globalNamed "errors.errorType" =some 0:=ye
theorem le_type:(prog.cutTypes.find? (·.1== "internal/reflectlite.rtype")).map (·.2)=some 259:=ye
theorem le_size:prog.types.size=324:=ye
theorem le_row:((List.range 324).filter fun t=>prog.rowNamed t [101,114,114,111,114])= [79]:=ye
theorem le_handle:typeHandle prog 79=.pointer (some ⟨4,79,none⟩):=ye
theorem of_laidE (h:laidMetH prog [("errors.errorType",Rows.laid_errors_errorType)] W):LaidE W:=by
 have h2:laidMet prog [] W/\handlesMet prog [("errors.errorType",Rows.laid_errors_errorType)] W:=h;obtain⟨nm,u,ty,e1,e2,e3,e4,e5⟩:=h2.2 _ (List.mem_singleton.2 rfl);obtain rfl:nm= [101,114,114,111,114]:=(Option.some.inj e1).symm;obtain rfl:=Option.some.inj (le_type.symm.trans e2);rw[le_size]at e3;have hm:ty∈(List.range 324).filter fun t=>prog.rowNamed t [101,114,114,111,114]:=List.mem_filter.2 ⟨List.mem_range.2 e3,e4⟩
 rw[le_row]at hm;obtain rfl:=List.mem_singleton.1 hm;rw[le_handle]at e5;unfold LaidE;simpa using World.var?_cell le_var e5 0
end
end Go.Proofs.YtbbffkiobmbkfaaGreatDoor
