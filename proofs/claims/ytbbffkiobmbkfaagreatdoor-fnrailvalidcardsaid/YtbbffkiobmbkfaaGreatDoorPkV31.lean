import Derived.Test.YtbbffkiobmbkfaaGreatDoorPkV30
open Go.Proofs.Tryz
open Go.Value Go.IntKind
set_option maxHeartbeats 2000000
set_option maxRecDepth 100000
namespace Go.Proofs.YtbbffkiobmbkfaaGreatDoor
open Go.RowKit
variable {pre:List (In×Bool)}{cs:List In}{B C b l:Nat}{v:Value}{X Y w:World}
section
open Go.RowKit
structure Left (C b:Nat) (X Y:World):Prop where
 cell:Y.heap[C+1]?=X.heap[C+1]?
 defer:Y.heap[C+2]?=X.heap[C+2]?
 loop:Y.heap[C+3]?=X.heap[C+3]?
 bytes:Y.heap[b]?=X.heap[b]?
 size:X.heap.size<=Y.heap.size
theorem Left.trans {Z:World}(h:Left C b X Y) (h':Left C b Y Z):Left C b X Z:=⟨h'.cell.trans h.cell,h'.defer.trans h.defer,h'.loop.trans h.loop,h'.bytes.trans h.bytes,Lf h.size h'.size⟩
theorem Left.of_below (h:Below X.heap.size X Y) (hC:C+3<X.heap.size) (hb:b<C):Left C b X Y:=⟨h.block _ ya,h.block _ ya,h.block _ ya,h.block _ ya,h.size⟩
theorem Left.set (X:World) {p:Addr}(h1:p.block≠C+1) (h2:p.block≠C+2) (h3:p.block≠C+3) (h4:p.block≠b) (v:Value):Left C b X (X.setCell p v):=
 ⟨Lg X p v _ h1.symm,Lg X p v _ h2.symm,Lg X p v _ h3.symm,Lg X p v _ h4.symm,qo⟩
def leftPost (C b:Nat) (I Ix:List (In×Bool)->World->Prop) (xs:List (In×Bool)) (X:World):Exit->Act->World->Prop
 |.normal,_,Y=>Left C b X Y/\I xs Y
 |.ret,_,Y=>Left C b X Y/\Ix xs Y
 |_,_,_=>False
theorem range_in {asg body:Code}{Q:Exit->Act->World->Prop}{tm:Array Value}{ps:Array Tmp}{W:World}{gop:Operand}{o cap:Nat}{rest:List Int}
 (hg:({ tmps:=tm,defers:= [] }:Act).eval gop=.func (.func 77) #[] #[.pointer (some ⟨C+1,0,none⟩)]) (hps:ps.size=2)
 (hsz:W.heap.size=C+2) (hC1:W.heap[C+1]?=some (.cells #[.slice (some ⟨b,o,none⟩) rest.length cap] 22)) (hcp:rest.length<=cap) (hbC:b<C) (hbt:BytesIs W b o rest) (hrB:∀x∈rest,IsB x) (hlen:rest.length<=20000)
 (I Ix:List (In×Bool)->World->Prop) (h0:∀o1 o2,I [] ((W.alloc o1).alloc o2))
 (hIb:∀s A B,I s A->C+4<=A.heap.size->Below A.heap.size A B->I s B) (hIs:∀s A v,I s A->I s (A.setCell ⟨C+1,0,none⟩ v)) (hIp:∀s A l o,I s A->C<l->l<C+4->I s (A.putObj l o)) (hIxp:∀s A l o,Ix s A->C<l->l<C+4->Ix s (A.putObj l o))
 (hround:∀l pre x X,I pre X->C+4<=X.heap.size->(∃post,tells rest=pre++x::post)->
  asg.wpIn (Fence.wide.inRound l) 0 prog (Exit.then (fun a₁ X₁=> Left C b X X₁/\ ∀r,body.wpIn (Fence.wide.inRound l) 0 prog (leftPost C b I Ix (pre++ [x]) (X₁.putObj (C+3) r)) a₁ (X₁.putObj (C+3) r)) (fun _ _ _=>False))
   { tmps:=(ps.zip #[inV x.1,.bool x.2]).foldl (fun t (p,v)=>t.setIfInBounds p v) tm,defers:= [] } X)
 (hdone:∀X,I (tells rest) X->X.heap[C+2]?=some (.deferred (some []))->C+4<=X.heap.size->Q .normal { tmps:=tm,defers:= [{ target:=.collected (C+2),args:= #[] }] } X)
 (hstop:∀pre X,(∃post,tells rest=pre++post)->Ix pre X->X.heap[C+2]?=some (.deferred (some []))->C+4<=X.heap.size->Code.ret.wpIn Fence.wide 0 prog Q { tmps:=tm,defers:= [{ target:=.collected (C+2),args:= #[] }] } X) :
 (Code.rangeFunc gop ps asg body).wpIn Fence.wide 0 prog Q { tmps:=tm,defers:= [] } W:=by
 refine wpIn_rangeFunc ?_;intro fn _;obtain⟨rec,hrec⟩:∃rec:LoopState->Option Code->Loop,rec=fun st pe=> { state:=st,pending:=pe,fn:=fn,tmps:=tm,params:=ps,assign:=asg,body:=body,defers:=W.heap.size }:= ⟨_,rfl⟩
 obtain⟨W1,hW1⟩:∃W1,(W.alloc (.deferred (some []))).alloc (.loop (rec .ready none))=W1:=⟨_,rfl⟩
 have hl1:W1.heap[C+3]?=some (.loop (rec .ready none)):=by
  have e:=(Ld (W.alloc (.deferred (some []))) (.loop (rec .ready none))).1;rw[World.size_alloc,hsz,hW1]at e;exact e
 have hd1:W1.heap[C+2]?=some (.deferred (some [])):=by
  rw[<-hW1,Below.heap_alloc _ _ _ jd];have e:=(Ld W (.deferred (some []))).1;rwa[hsz]at e
 have hb1:Below W.heap.size W W1:=by
  rw[<-hW1];exact((Below.refl _ W).alloc La _).alloc yq _
 have hs1:W1.heap.size=C+4:=by rw[<-hW1];simp;omega
 have hI1:I [] W1:=by rw[<-hW1];exact h0 _ _
 refine⟨C+3,[{ target:=.collected (C+2),args:= #[] }],W1,{ target:=.fn (.func 77) #[.pointer (some ⟨C+1,0,none⟩)],args:= #[.func (.yield (C+3)) #[] #[]] },W1,77,#[.func (.yield (C+3)) #[] #[],.pointer (some ⟨C+1,0,none⟩)],W1,?_,?_,fun _ _=>trivial,?_,fun h=>by simp[Fence.wide]at h,?_⟩
 .rw[<-hW1,hrec];have e:=run_enterLoop_outer (P:=prog) (w:=W) fn tm ps asg body;rw[hsz]at e;rw[hsz];exact e
 .simp only[resolve,hg];simp[go_sem]
 .have eg:=enters_of func77 ye rfl;simp[invoke,go_sem,eg _ _]
 have hfin:∀(jump:Option Code) (X:World),X.heap[C+3]?=some (.loop { rec .ready none with state:=.busy })->(Instr.endRound (C+3) jump).run prog X=.ok (.bool jump.isNone) (X.putObj (C+3) (.loop (rec (if jump.isNone then .ready else .done) jump))):=fun jump X hX=>by
  have e:=run_endRound (P:=prog) jump hX;rw[hrec]at e |-;exact e
 refine(iter_in b (C+1) (C+3) (fun pre X=>I pre X/\X.heap[C+3]?=some (.loop (rec .ready none))/\X.heap[C+2]?=some (.deferred (some []))/\C+4<=X.heap.size)
  (fun pre X=>Ix pre X/\X.heap[C+3]?=some (.loop (rec .done (some .ret)))/\X.heap[C+2]?=some (.deferred (some []))/\C+4<=X.heap.size) rest hrB hlen ya ?_ ?_ ?_ W1 o cap ((hb1.block _ ya).trans hC1) hcp (hbt.below hb1 ya) ya ⟨hI1,hl1,hd1,ya⟩).mono ?_
 .rintro s A B ⟨h1,h2,h3,h4⟩ hb;exact⟨hIb s A B h1 h4 hb,(hb.block _ ya).trans h2,(hb.block _ ya).trans h3,Lf h4 hb.size⟩
 .rintro s A v ⟨h1,h2,h3,h4⟩;exact⟨hIs s A v h1,(Lg A ⟨C+1,0,none⟩ v _ qw).trans h2,(Lg A ⟨C+1,0,none⟩ v _ qw).trans h3,by simpa[World.setCell]using h4⟩
 .rintro pre x X ⟨h1,h2,h3,h4⟩ hpost;have hy:=run_yield (P:=prog) (args:= #[inV x.1,.bool x.2]) h2 (by rw[hrec];exact hps.symm);rw[hrec]at hy;refine⟨fn,_,asg,body,hy,roundIn_of_wpIn trivial (wpIn_mono (hround (C+3) pre x X h1 h4 hpost) ?_)⟩;rintro e a1 X1 hq
  cases e with
  | normal=>
    obtain⟨hk,hbody⟩:=hq;have hl2:=hk.loop.trans h2;refine⟨_,run_beginRound hl2 (by rw[hrec]),wpIn_mono (hbody (.loop { rec .ready none with state:=.busy })) ?_⟩;have hlt:C+3<X1.heap.size:=z13 hl2;rintro e a2 X2 hq2;have hbusy:(X1.putObj (C+3) (.loop { rec .ready none with state:=.busy })).heap[C+3]?=some (.loop { rec .ready none with state:=.busy }):=World.putObj_heap_same hlt;have hp1:∀q,q≠C+3->(X1.putObj (C+3) (.loop { rec .ready none with state:=.busy })).heap[q]?=X1.heap[q]? :=fun q hq=>World.putObj_heap_other hq
    have hps1:(X1.putObj (C+3) (.loop { rec .ready none with state:=.busy })).heap.size=X1.heap.size:=yq
    cases e with
    | normal=>
      obtain⟨hl3,hi3⟩:=hq2;have hb3:=hl3.loop.trans hbusy;have hs2:=hl3.size;have hks:=hk.size;refine⟨_,_,hfin none X2 hb3,Or.inl ⟨rfl,⟨hIp _ _ _ _ hi3 ya ya,World.putObj_heap_same (z13 hb3),(World.putObj_heap_other ya).trans (hl3.defer.trans ((hp1 _ ya).trans (hk.defer.trans h3))),jd⟩,?_,?_,jd⟩⟩
      .exact(World.putObj_heap_other ya).trans (hl3.cell.trans ((hp1 _ ya).trans hk.cell))
      .exact(World.putObj_heap_other ya).trans (hl3.bytes.trans ((hp1 _ ya).trans hk.bytes))
    | ret=>
      obtain⟨hl3,hi3⟩:=hq2;have hb3:=hl3.loop.trans hbusy;have hs2:=hl3.size;have hks:=hk.size;exact⟨_,_,hfin (some .ret) X2 hb3,Or.inr ⟨rfl,hIxp _ _ _ _ hi3 ya ya,World.putObj_heap_same (z13 hb3),(World.putObj_heap_other ya).trans (hl3.defer.trans ((hp1 _ ya).trans (hk.defer.trans h3))),jd⟩⟩
    |exit id=>exact hq2.elim
    |goto t=>exact hq2.elim
    |panic ch=>exact hq2.elim
    |outgrown=>exact hq2.elim
  |exit id=>exact hq.elim
  |goto t=>exact hq.elim
  |ret=>exact hq.elim
  |panic ch=>exact hq.elim
  |outgrown=>exact hq.elim
 .rintro e X ⟨⟨v,rfl⟩,⟨h1,h2,h3,h4⟩|⟨pre,x,post,htl,h1,h2,h3,h4⟩⟩
  .have e:=run_endLoop (P:=prog) h2 (by rw[hrec];simp);rw[hrec]at e;exact⟨none,_,e,hdone _ (hIp _ _ _ _ h1 ya ya) ((World.putObj_heap_other ya).trans h3) jd⟩
  .have e:=run_endLoop (P:=prog) h2 (by rw[hrec];simp);rw[hrec]at e;exact⟨some .ret,_,e,hstop (pre++ [x]) _ ⟨post,by rw[htl];simp⟩ (hIxp _ _ _ _ h1 ya ya) ((World.putObj_heap_other ya).trans h3) jd⟩
theorem str_beq {xs ys:List Int}(hx:∀x∈xs,IsB x) (hy:∀x∈ys,IsB x):((byteStr xs).toList==(byteStr ys).toList)=decide (xs=ys):=by
 rw[ByteArray.toList_eq,ByteArray.toList_eq];by_cases h:xs=ys
 .subst h;simp
 .rw[decide_eq_false h,beq_eq_false_iff_ne];intro e;exact h (byteStr_inj hx hy (Go.WideShapes.bytes_inj e))
theorem equal_calls (b off cap g o cap':Nat) (xs ys:List Int) (w:World) (hx:∀x∈xs,IsB x) (hy:∀x∈ys,IsB x) (h1:BytesIs w b off xs) (h2:BytesIs w g o ys) :
 Calls prog 112 #[.slice (some ⟨b,off,none⟩) xs.length cap,.slice (some ⟨g,o,none⟩) ys.length cap'] w fun e w'=> e=.returned (.bool (decide (xs=ys)))/\Below w.heap.size w w':= by
 have hcv1:=bytes_string w b off cap xs hx h1;have hcv2:=bytes_string w g o cap' ys hy h2;have HS:=U (str_beq hx hy);generalize decide (xs=ys)=R at*;generalize byteStr xs=S at*;generalize byteStr ys=S' at*;generalize xs.length=n at*;generalize ys.length=m at*;go_enter func112,ntmps112
 go_wp2_with fail
 rw[HS.o];go_ret;exact⟨rfl,Lb⟩
theorem head_isB:∀x∈headBytes,IsB x:=by
 intro x hx;unfold headBytes at hx;unfold IsB;simp at hx;omega
theorem BytesIs.take {off:Nat}{bs:List Int}(h:BytesIs w b off bs) (n:Nat):BytesIs w b off (bs.take n):=by
 intro k hk;have hk':k<bs.length/\k<n:=wq;rw[h k hk'.1];simp[List.getD,List.getElem?_take_of_lt hk'.2]
theorem hasHead_cap (b off cap g cap':Nat) (bs:List Int) (w:World) (hcap:bs.length<=cap) (hx:∀x∈bs,IsB x) (h1:BytesIs w b off bs) (h2:BytesIs w g 0 headBytes) :
 Calls prog 76 #[.slice (some ⟨b,off,none⟩) bs.length cap,.slice (some ⟨g,0,none⟩) 3 cap'] w fun e w'=> e=.returned (.bool (decide (bs.take 3=headBytes)))/\Below w.heap.size w w':= by
 by_cases h3:bs.length<3
 ·have hne:decide (bs.take 3=headBytes)=false:=by
   rw[decide_eq_false];intro h;have:=congrArg List.length h;simp[headBytes]at this;omega
  rw[hne];generalize bs.length=n at*;have hn3:¬ (3:Int)<=(n:Int):=ya;go_enter func76,ntmps76
  go_wp2_with fail
  go_ret;exact⟨rfl,Lb⟩
 .have HE:=U (equal_calls b off cap g 0 cap' (bs.take 3) headBytes w (fun x hx'=> hx x (List.mem_of_mem_take hx')) head_isB (h1.take 3) h2);rw[show(bs.take 3).length=3 by simp;omega,show headBytes.length=3 from rfl]at HE;generalize decide (bs.take 3=headBytes)=R at*;generalize bs.length=n at*;have hn3:(3:Int)<=(n:Int):=ya;have hc3:(3:Int)<=(cap:Int):=ya;go_enter func76,ntmps76
  go_wp2_with fail
  refine HE.o.mono ?_;rintro e w1 ⟨rfl,hb1⟩;go_wp2_with fail
  go_ret;exact⟨rfl,hb1⟩
theorem cutHead_yes (b off cap g cap':Nat) (bs:List Int) (w:World) (hcap:bs.length<=cap) (hx:∀x∈bs,IsB x) (h1:BytesIs w b off bs) (h2:BytesIs w g 0 headBytes) (hh:bs.take 3=headBytes) :
 Calls prog 30 #[.slice (some ⟨b,off,none⟩) bs.length cap,.slice (some ⟨g,0,none⟩) 3 cap'] w fun e w'=>
  (∃o,e=.returned (.tuple #[.slice (some ⟨b,o,none⟩) (bs.length-3) (cap-3),.bool true])/\(bs.length=3\/o=off+3))/\Below w.heap.size w w':= by
 have HE:=U (hasHead_cap b off cap g cap' bs w hcap hx h1 h2);rw[decide_eq_true hh]at HE;have h3:3<=bs.length:=by
  have:=congrArg List.length hh;simp[headBytes]at this;omega
 clear hh;generalize bs.length=n at*;have hn3:(3:Int)<=(n:Int):=ya;have hc3:(n:Int)<=(cap:Int):=ya;by_cases h33:cap=3
 .subst h33;obtain rfl:n=3:=ya;go_enter func30,ntmps30
  go_wp2_with fail
  refine HE.o.mono ?_;rintro e w1 ⟨rfl,hb1⟩;go_wp2_with fail
  go_ret2
  exact⟨⟨_,rfl,Or.inl yq⟩,hb1⟩
 .have hn4:cap-3≠0:=by omega
  go_enter func30,ntmps30
  go_wp2_with fail
  refine HE.o.mono ?_;rintro e w1 ⟨rfl,hb1⟩;go_wp2_with fail
  go_ret2
  exact⟨⟨_,rfl,Or.inr rfl⟩,hb1⟩
theorem cutHead_no (b off cap g cap':Nat) (bs:List Int) (w:World) (hcap:bs.length<=cap) (hx:∀x∈bs,IsB x) (h1:BytesIs w b off bs) (h2:BytesIs w g 0 headBytes) (hh:bs.take 3≠headBytes) :
 Calls prog 30 #[.slice (some ⟨b,off,none⟩) bs.length cap,.slice (some ⟨g,0,none⟩) 3 cap'] w fun e w'=> e=.returned (.tuple #[.slice (some ⟨b,off,none⟩) bs.length cap,.bool false])/\Below w.heap.size w w':= by
 have HE:=U (hasHead_cap b off cap g cap' bs w hcap hx h1 h2);rw[decide_eq_false hh]at HE;clear hh;generalize bs.length=n at*;go_enter func30,ntmps30
 go_wp2_with fail
 refine HE.o.mono ?_;rintro e w1 ⟨rfl,hb1⟩;go_wp2_with fail
 go_ret2
 exact⟨rfl,hb1⟩
theorem bad_calls (op a b c:Int) (w:World) :
 Calls prog 73 #[.agg #[int i64 op,int i64 a,int i64 b,int i64 c]] w fun e w'=> e=.returned (.bool (!insOkZ op a b c))/\Below w.heap.size w w':= by
 go_enter func73,ntmps73
 go_wp2_with fail
 refine(implInsOk_calls _ _ _ _ _).mono ?_;rintro e w2 ⟨rfl,hb2⟩;go_wp2_with fail
 go_ret;exact⟨rfl,one_below hb2⟩
theorem indexBad_calls (b off cap:Nat) (cs:List In) (w:World) (hb:b<w.heap.size) (hn:InsAt w b off cs) (hm:cs.length<=1500) :
 Calls prog 110 #[.slice (some ⟨b,off,none⟩) cs.length cap,.func (.func 73) #[] #[]] w fun e w'=> (∃r:Int,e=.returned (int i64 r)/\decide (0<=r)=!cs.all In.ok)/\Below w.heap.size w w':= by
 obtain⟨len,hlen⟩:∃len,cs.length=len:=⟨_,rfl⟩
 have Hlen:O (cs.length=len):=hlen;have HM:O (len<=1500):=yp;have HN:O (InsAt w b off cs):=hn;obtain⟨R,hR⟩:∃R,cs.all In.ok=R:=⟨_,rfl⟩
 have HR:O (cs.all In.ok=R):=hR;rw[hlen,hR];clear hlen hm hn hR;go_enter func110,ntmps110
 go_wp2_with fail
 go_loopw [8] (fun i wr=> ∃k:Nat,i=int i64 k/\k<=len/\O ((cs.take k).all In.ok=true)/\Below w.heap.size w wr) (fun i _=>len-(intOf i).toNat)
 case atStart=>exact⟨0,rfl,Li _,by simp[O],Lb⟩
 case round=>
  obtain⟨k,rfl,hk,HA,hnx⟩:=hrel;by_cases hkl:(k:Int)<(len:Int)
  .have hkn:k<cs.length:=by rw[Hlen.o];omega
   have hcell:=fun c (hc:c<4)=>(hnx.cell (p:=⟨b,off+k*4+c,none⟩) hb).trans (HN.o k hkn c hc)
   have HD:O (cs.take (k+1)=cs.take k++ [cs.getD k default]):=ins_drop hkn;generalize cs.getD k default=n at hcell HD;obtain⟨op,x,y,z⟩:=n;have c0:=hcell 0 ya;have c1:=hcell 1 ya;have c2:=hcell 2 ya;have c3:=hcell 3 ya;simp only[In.cell,Nat.add_zero]at c0 c1 c2 c3;clear hcell hkn;go_wp2_with fail
   refine(bad_calls _ _ _ _ _).mono ?_;rintro e w2 ⟨rfl,hb2⟩;have hnx2:=hnx.trans (hb2.mono hnx.size);clear hb2 hnx c0 c1 c2 c3
   cases hok:insOkZ op x y z with
   | false=>
     have HF:O (R=false):=by
      show _=_;rw[<-HR.o];have h1:(cs.take (k+1)).all In.ok=false:=by
       rw[HD.o,List.all_append];simp[In.ok,hok]
      rw[<-List.take_append_drop (k+1) cs,List.all_append,h1,Bool.false_and]
     clear HA HD HR;go_wp2_with fail
     go_ret;exact⟨⟨_,rfl,by rw[HF.o];exact decide_eq_true ya⟩,hnx2⟩
   | true=>
     have HA1:O ((cs.take (k+1)).all In.ok=true):=by
      show _=_;rw[HD.o,List.all_append,HA.o];simp[In.ok,hok]
     clear HA HD;go_wp2_with fail
     have hs:len-(intOf (int i64 ((k+1:Nat):Int))).toNat<len-(intOf (int i64 (k:Int))).toNat:=yu;try rw[wrap_one (k:=k) (len:=len) ya jo]
     exact⟨⟨k+1,rfl,ya,HA1,hnx2⟩,hs⟩
  ·have HF:O (R=true):=by
    show _=_;rw[<-HR.o,<-List.take_of_length_le (l:=cs) (i:=k) jt];exact HA.o
   clear HA HR;go_wp2_with fail
   go_ret;exact⟨⟨-1,rfl,jj⟩,hnx⟩
theorem listOk_calls (b off cap:Nat) (cs:List In) (w:World) (hb:b<w.heap.size) (hn:InsAt w b off cs) :
 Calls prog 27 #[.slice (some ⟨b,off,none⟩) cs.length cap] w fun e w'=> e=.returned (.bool (codeOkZ cs))/\Below w.heap.size w w':= by
 by_cases hbig:(cs.length:Int)<=1500
 ·rw [show codeOkZ cs=cs.all In.ok by unfold codeOkZ;rw[decide_eq_true ya,Bool.true_and]];have HX:O (Calls _ _ _ _ _):=indexBad_calls b off cap cs w hb hn ya;generalize cs.length=len at*;generalize cs.all In.ok=R at*;clear hn;have HY:O (Calls prog 72 #[.slice (some ⟨b,off,none⟩) len cap,.func (.func 73) #[] #[]] w fun e w'=> e=.returned (.bool (!R))/\Below w.heap.size w w'):=by
   show Calls _ _ _ _ _;go_enter func72,ntmps72
   go_wp2_with fail
   refine HX.o.mono ?_;rintro e w2 ⟨⟨r,rfl,hr⟩,hb2⟩;have Hr:O (decide (0<=r)=!R):=hr;clear hr;go_wp2_with fail
   go_ret;exact⟨by rw[<-Hr.o];rfl,hb2⟩
  clear HX;go_enter func27,ntmps27
  go_wp2_with fail
  refine HY.o.mono ?_;rintro e w2 ⟨rfl,hb2⟩
  cases R;all_goals
   go_wp2_with fail
   go_ret;exact⟨rfl,hb2⟩
 .rw[show codeOkZ cs=false by unfold codeOkZ;rw[decide_eq_false ya];rfl];generalize cs.length=len at*;clear hn;go_enter func27,ntmps27
  go_wp2_with fail
  go_ret;exact⟨rfl,Lb⟩
attribute [local go_sem] Oper.semAt_some
theorem results_two {fn:Func}{p q:Tmp}{t u:TypeId}(h:fn.results= #[.cell p t,.cell q u]) (tmps:Array Value) (P:Program) (w:World) {a b:Addr}{x y:Value}(hp:tmps.getD p undef=.pointer (some a)) (hq:tmps.getD q undef=.pointer (some b))
 (ha:(loadVar t a).run P w=.ok x w) (hb:(loadVar u b).run P w=.ok y w):(results fn tmps).run P w=.ok (.tuple #[x,y]) w:=by
 rw[Array.getD_eq_getD_getElem?]at hp hq;simp only[results,h];simp[Sem.run_bind,Result.andThen,hp,hq,asAddr,ha,hb]
theorem load_ins {g:Nat}(h:X.heap[g]?=some (.cells #[v] 28)):(loadVar 28 ⟨g,0,none⟩).run prog X=.ok v X:=by
 have c:=z11 h 0;simp at c;simp[loadVar,go_sem,c]
theorem load_ok {g:Nat}(h:X.heap[g]?=some (.cells #[v] 4)):(loadVar 4 ⟨g,0,none⟩).run prog X=.ok v X:=by
 have c:=z11 h 0;simp at c;simp[loadVar,go_sem,c]
theorem three_new (w:World) (o1 o2 o3:Obj):∃W3,((w.alloc o1).alloc o2).alloc o3=W3/\W3.heap[w.heap.size]?=some o1/\W3.heap[w.heap.size+1]?=some o2/\W3.heap[w.heap.size+1+1]?=some o3/\Below w.heap.size w W3:=by
 refine⟨_,rfl,?_,?_,?_,(((Below.refl _ w).alloc La _).alloc yq _).alloc jd _⟩
 .rw[Below.heap_alloc _ _ _ jd,Below.heap_alloc _ _ _ yq];exact(Ld w o1).1
 .rw[Below.heap_alloc _ _ _ yq];have e:=(Ld (w.alloc o1) o2).1;rwa[World.size_alloc]at e
 .have e:=(Ld ((w.alloc o1).alloc o2) o3).1;rwa[World.size_alloc,World.size_alloc]at e
theorem set_two {t u:TypeId}{x y:Value}(h2:X.heap[w.heap.size]?=some (.cells #[x] t)) (h3:X.heap[w.heap.size+1]?=some (.cells #[y] u)) (hb:Below w.heap.size w X) (a b:Value) :
 ((X.setCell ⟨w.heap.size,0,none⟩ a).setCell ⟨w.heap.size+1,0,none⟩ b).heap[w.heap.size]?=some (.cells #[a] t)/\((X.setCell ⟨w.heap.size,0,none⟩ a).setCell ⟨w.heap.size+1,0,none⟩ b).heap[w.heap.size+1]?=some (.cells #[b] u)/\Below w.heap.size w ((X.setCell ⟨w.heap.size,0,none⟩ a).setCell ⟨w.heap.size+1,0,none⟩ b):=by
 refine⟨?_,?_,(hb.setCell (p:=⟨w.heap.size,0,none⟩) La _).setCell (p:=⟨w.heap.size+1,0,none⟩) (Nat.le_succ _) _⟩
 .rw[Lg _ _ _ _ qw];exact box1_set h2 a
 .exact box1_set ((Lg X ⟨w.heap.size,0,none⟩ a _ qw).trans h3) b
theorem below_put (h:Below w.heap.size w X) (hl:w.heap.size<=l) (o:Obj):Below w.heap.size w (X.putObj l o):=
 ⟨h.os,h.tape,h.output,by simpa using h.size,fun q hq=>(World.putObj_heap_other ya).trans (h.block q hq)⟩
theorem none_told {tmps:Array Value}{d:Nat}(hp:tmps.getD 2 undef=.pointer (some ⟨w.heap.size,0,none⟩)) (hq:tmps.getD 3 undef=.pointer (some ⟨w.heap.size+1,0,none⟩))
 (h2:X.heap[w.heap.size]?=some (.cells #[.slice none 0 0] 28)) (h3:X.heap[w.heap.size+1]?=some (.cells #[.bool false] 4)) (hb:Below w.heap.size w X) :
 LeavesInM Fence.wide d prog Tryz.f11 tmps (fun e w'=> (∃v,e=.returned (.tuple #[v,.bool false])/\OwnsI w.heap.size w' v [])/\Below w.heap.size w w') [] .returning X:=
 ⟨_,results_two rfl tmps _ _ hp hq (load_ins h2) (load_ok h3),⟨_,rfl,World.ownsRow_nil _ _ _ _⟩,hb⟩
theorem tells_len:∀(n:Nat) (l:List Int),l.length<=n->(tells l).length<=l.length
 |_,[],_=>La
 |0,_::_,h=>vy
 | n+1,op::r,h=>by
   simp only[Ll]at h;rw[tells_cons];split
   .have h1:=tells_len n (r.drop (4*insMany op)) jd;rw[List.length_drop]at h1;simp only[Ll];omega
   .simp
theorem owns_slice (h:OwnsI B X v cs):(∀g,v.ownBlock=some g->B<=g/\g<X.heap.size)/\ ∃ad c,v=.slice ad cs.length c:=by
 obtain⟨-,⟨rfl,h0⟩|⟨g,cap,cur,rfl,hB,hc,-⟩⟩:=h
 .exact⟨fun g e=>by simp[Value.ownBlock]at e,none,0,qe⟩
 .refine⟨fun g' e=>?_,_,cap,rfl⟩;simp[Value.ownBlock]at e;subst e;exact⟨hB,z13 hc⟩
theorem indexNone_calls (ad:Option Addr) (cap:Nat) (w:World) :
 Calls prog 110 #[.slice ad 0 cap,.func (.func 73) #[] #[]] w fun e w'=> e=.returned (int i64 (-1))/\w=w':= by
 go_enter func110,ntmps110
 go_wp2
 refine wp_loop_rounds 1 ?_;rw[rounds_succ];go_wp2
 go_ret;exact⟨rfl,rfl⟩
theorem listNone_calls (ad:Option Addr) (cap:Nat) (w:World) :
 Calls prog 27 #[.slice ad 0 cap] w fun e w'=> e=.returned (.bool true)/\Below w.heap.size w w':= by
 have HY:O (∀X,Calls prog 72 #[.slice ad 0 cap,.func (.func 73) #[] #[]] X fun e w'=> e=.returned (.bool false)/\X=w'):=by
  show ∀X,_;intro X;go_enter func72,ntmps72
  go_wp2_with fail
  refine(indexNone_calls ad cap _).mono ?_;rintro e w2 ⟨rfl,rfl⟩;go_wp2_with fail
  go_ret;exact⟨rfl,rfl⟩
 go_enter func27,ntmps27
 go_wp2_with fail
 refine(HY.o _).mono ?_;rintro e w2 ⟨rfl,rfl⟩;go_wp2_with fail
 go_ret;exact⟨rfl,Lb⟩
theorem insListOk_any (X:World) (h:OwnsI B X v cs):Calls prog 27 #[v] X fun e w'=> e=.returned (.bool (codeOkZ cs))/\Below X.heap.size X w':= by
 have hs:=sliceR_of_owns h;obtain⟨ad,cap,rfl,hh⟩:=hs;by_cases h0:cs.length=0
 .have hc:cs= []:=List.length_eq_zero_iff.1 h0;subst hc;exact listNone_calls ad cap X
 .obtain⟨g,rfl,-,hr⟩:=hh.resolve_left h0;exact listOk_calls g 0 cap cs X hr.lt (CellRow.insAt (hr.congr (fun i hi=>insRow_at cs i hi)))
structure Rd (w:World) (C:Nat) (pre:List (In×Bool)) (X:World):Prop where
 r2:X.heap[w.heap.size]?=some (.cells #[.slice none 0 0] 28)
 r3:X.heap[w.heap.size+1]?=some (.cells #[.bool false] 4)
 cb:∃vc,X.heap[C]?=some (.cells #[vc] 28)/\OwnsI (C+4) X vc (pre.map Prod.fst)
 all:∀x∈pre,x.2=true
 below:Below w.heap.size w X
 len:C+4<=X.heap.size
 first:w.heap.size+1<C
theorem owns_same (h:OwnsI B X v cs) (he:∀q,B<=q->q<X.heap.size->Y.heap[q]?=X.heap[q]?):OwnsI B Y v cs:=by
 obtain⟨h0,⟨rfl,h1⟩|⟨g,cap,cur,rfl,hB,hc,hr⟩⟩:=h
 .exact⟨h0,Or.inl ⟨rfl,h1⟩⟩
 .exact⟨h0,Or.inr ⟨g,cap,cur,rfl,hB,(he g hB (z13 hc)).trans hc,hr⟩⟩
theorem owns_low {B':Nat}(hB:B'<=B) (h:OwnsI B X v cs):OwnsI B' X v cs:=by
 obtain⟨h0,⟨rfl,h1⟩|⟨g,cap,cur,rfl,hg,hc,hr⟩⟩:=h
 .exact⟨h0,Or.inl ⟨rfl,h1⟩⟩
 .exact⟨h0,Or.inr ⟨g,cap,cur,rfl,Lf hB hg,hc,hr⟩⟩
theorem Rd.beside (h:Rd w C pre X) (h1:Y.os=X.os) (h2:Y.tape=X.tape) (h3:Y.output=X.output) (hs:X.heap.size<=Y.heap.size) (he:∀q,q<X.heap.size->q<=C\/C+4<=q->Y.heap[q]?=X.heap[q]?):Rd w C pre Y:=by
 have hf:=h.first;have hl:=h.len;obtain⟨vc,hc,ho⟩:=h.cb;exact⟨(he _ ya (Or.inl ya)).trans h.r2,(he _ ya (Or.inl ya)).trans h.r3,⟨vc,(he _ ya (Or.inl La)).trans hc,owns_same ho (fun q hq hq'=> he q hq' (Or.inr hq))⟩,h.all,⟨h1.trans h.below.os,h2.trans h.below.tape,h3.trans h.below.output,Lf h.below.size hs,fun q hq=>(he q ya (Or.inl ya)).trans (h.below.block q hq)⟩,ya,hf⟩
theorem Rd.keep (h:Rd w C pre X) (hb:Below X.heap.size X Y):Rd w C pre Y:=h.beside hb.os hb.tape hb.output hb.size (fun q hq _=>hb.block q hq)
theorem Rd.set (h:Rd w C pre X) (v:Value):Rd w C pre (X.setCell ⟨C+1,0,none⟩ v):=h.beside rfl rfl rfl qo (fun q _ hq=>Lg X ⟨C+1,0,none⟩ v q qw)
theorem Rd.put (h:Rd w C pre X) (h1:C<l) (h2:l<C+4) (o:Obj):Rd w C pre (X.putObj l o):=h.beside rfl rfl rfl yq (fun q _ hq=>World.putObj_heap_other ya)
structure RdX (w:World) (C:Nat) (pre:List (In×Bool)) (X:World):Prop where
 r2:X.heap[w.heap.size]?=some (.cells #[.slice none 0 0] 28)
 r3:X.heap[w.heap.size+1]?=some (.cells #[.bool false] 4)
 one:∃x∈pre,x.2=false
 below:Below w.heap.size w X
 len:C+4<=X.heap.size
 first:w.heap.size+1<C
theorem RdX.put (h:RdX w C pre X) (h1:C<l) (o:Obj):RdX w C pre (X.putObj l o):=by
 have hf:=h.first;have hl:=h.len;exact⟨(World.putObj_heap_other ya).trans h.r2,(World.putObj_heap_other ya).trans h.r3,h.one,⟨h.below.os,h.below.tape,h.below.output,by simpa using h.below.size,fun q hq=>(World.putObj_heap_other ya).trans (h.below.block q hq)⟩,by simpa using hl,hf⟩
theorem insOfBytes_calls (a:Option Addr) (n c:Nat) (w:World):Calls prog 31 #[.slice a n c] w fun e w'=> e=.returned (.func (.func 77) #[] #[.pointer (some ⟨w.heap.size,0,none⟩)])/\w'= w.alloc (.cells #[.slice a n c] 22):=by
 go_enter func31,ntmps31
 go_wp2_with fail
 go_ret;exact⟨rfl,rfl⟩
theorem implRead_cap (b off cap:Nat) (bs:List Int) (w:World) (hcap:bs.length<=cap) (hb:b<w.heap.size) (hn:BytesIs w b off bs) (hB:∀x∈bs,IsB x) :
 Calls prog 11 #[.slice (some ⟨b,off,none⟩) bs.length cap] w fun e w'=> (∃v,e=.returned (.tuple #[v,.bool (readZ bs).isSome])/\OwnsI w.heap.size w' v ((readZ bs).getD []))/\Below w.heap.size w w':= by
 have HN:=U hn;have HB:=U hB;have HCp:=U hcap;obtain⟨Z,hZ⟩:∃Z,readZ bs=Z:=⟨_,rfl⟩
 have HZ:=U hZ;rw[hZ];clear hn hB hZ hcap;refine zb70 ?_;intro hcv;gi_wp2_with fail
 obtain⟨W3,hW3,k2,k3,k4,hb3⟩:=three_new w (.cells #[.slice none 0 0] 28) (.cells #[.bool false] 4) (.cells #[.int .u8 104,.int .u8 114,.int .u8 49] 5 (3,4));rw[hW3];clear hW3 hcv;have hhd:BytesIs W3 (w.heap.size+1+1) 0 headBytes:=by
  intro k hk;unfold headBytes at hk ⊢;simp at hk;have h3:k=0\/k=1\/k=2:=ya;rcases h3 with rfl|rfl|rfl<;>simp[World.cell?,k4,List.getD]
 have HHd:=U hhd;have HN3:=U (HN.o.below hb3 hb);clear hhd k4;by_cases hh:bs.take 3=headBytes
 case neg=>
  refine⟨trivial,rfl,(callsIn_wide.2 (cutHead_no b off cap (w.heap.size+1+1) 3 bs W3 HCp.o HB.o HN3.o HHd.o hh)).mono ?_⟩;rintro e W4 ⟨rfl,hb4⟩;have j2:=(hb4.block _ (z13 k2)).trans k2;have j3:=(hb4.block _ (z13 k3)).trans k3;have hbw:=hb3.trans (hb4.mono hb3.size);have hZn:Z=none:=by
   rw[<-HZ.o];unfold readZ;rw[if_pos (Or.inr hh)]
  subst hZn;clear k2 k3 hb3 hb4 hh;have c2:=z11 j2 0;have c3:=z11 j3 0;have z2:=z15 j2 0;have z3:=z15 j3 0;simp at c2 c3;have HJ2:=U j2;have HJ3:=U j3;have HBw:=U hbw;clear j2 j3 hbw;gi_wp2_with fail
  obtain⟨s2,s3,sb⟩:=set_two HJ2.o HJ3.o HBw.o (.slice none 0 0) (.bool false);exact none_told rfl rfl s2 s3 sb
 refine⟨trivial,rfl,(callsIn_wide.2 (cutHead_yes b off cap (w.heap.size+1+1) 3 bs W3 HCp.o HB.o HN3.o HHd.o hh)).mono ?_⟩;rintro e W4 ⟨⟨o,rfl,ho⟩,hb4⟩;have HO:=U ho;have j2:=(hb4.block _ (z13 k2)).trans k2;have j3:=(hb4.block _ (z13 k3)).trans k3;have hbw:=hb3.trans (hb4.mono hb3.size);have HN4:=U (HN.o.below hbw hb);have HH:=U hh;clear k2 k3 hb3 hb4 hh ho HHd HN3;by_cases hbig:(20000:Int)<(bs.length:Int)
 ·have hZn:Z=none:=by
   rw[<-HZ.o];unfold readZ;rw[if_pos (Or.inl ya)]
  subst hZn;have c2:=z11 j2 0;have c3:=z11 j3 0;have z2:=z15 j2 0;have z3:=z15 j3 0;simp at c2 c3;have HJ2:=U j2;have HJ3:=U j3;have HBw:=U hbw;clear j2 j3 hbw;gi_wp2_with fail
  obtain⟨s2,s3,sb⟩:=set_two HJ2.o HJ3.o HBw.o (.slice none 0 0) (.bool false);exact none_told rfl rfl s2 s3 sb
 have HLn:O (bs.length<=20000):=yp;have HJ2:=U j2;have HJ3:=U j3;have HBw:=U hbw;clear j2 j3 hbw;generalize hln:bs.length-3=ln at*;have HLe:=U hln;clear hln;generalize hcn:cap-3=cn at*;have HCe:=U hcn;clear hcn;gi_wp2_with fail
 refine⟨trivial,rfl,(callsIn_wide.2 (insOfBytes_calls _ _ _ _)).mono ?_⟩;rintro e W6 ⟨rfl,hW6⟩;have hC6:=(Ld W4 (.cells #[.slice none 0 0] 28)).1;have hB6:=(Ld (W4.alloc (.cells #[.slice none 0 0] 28)) (.cells #[.slice (some ⟨b,o,none⟩) ln cn] 22)).1;rw[World.size_alloc]at hB6;have hC6':= (Below.heap_alloc (W4.alloc (.cells #[.slice none 0 0] 28)) (.cells #[.slice (some ⟨b,o,none⟩) ln cn] 22) W4.heap.size yq).trans hC6;have hb46:Below W4.heap.size W4 W6:=by rw[hW6];exact((Below.refl _ W4).alloc La _).alloc yq _
 have hs6:W6.heap.size=W4.heap.size+2:=by rw[hW6];simp
 rw[<-hW6]at hB6 hC6';rw[World.size_alloc];clear hC6 hW6;gi_wp2_with fail
 obtain⟨rest,hrest⟩:∃rest,bs.drop 3=rest:=⟨_,rfl⟩
 have HRs:=U hrest;have hrl:rest.length=ln:=by rw[<-hrest,List.length_drop];exact HLe.o
 have HRB:O (∀x∈rest,IsB x):=fun x hx=>HB.o x (by rw[<-hrest]at hx;exact List.mem_of_mem_drop hx)
 have hbC:b<W4.heap.size:=by have:=HBw.o.size;omega
 have HBt:O (BytesIs W6 b o rest):=by
  intro k hk;have h3:=HO.o.resolve_left (by have:=HLe.o;omega);have e:=(HN4.o.below hb46 hbC) (k+3) (by have:=HLe.o;omega)
  rw[h3,show off+3+k=off+(k+3) by omega,e,<-hrest];simp[List.getD,Nat.add_comm]
 have hr2:=(hb46.block _ (z13 HJ2.o)).trans HJ2.o;have hr3:=(hb46.block _ (z13 HJ3.o)).trans HJ3.o;have hf1:w.heap.size+1<W4.heap.size:=z13 HJ3.o;have hbw6:=HBw.o.trans (hb46.mono HBw.o.size);clear HJ2 HJ3 HBw hb46 HN4 HO;generalize W4.heap.size=C at*;have HF1:=U hf1
 refine range_in (C:=C) (b:=b) (o:=o) (rest:=rest) rfl rfl hs6 (by rw[hrl];exact hB6) (by have:=HCp.o;have:=HLe.o;have:=HCe.o;omega) hbC HBt.o HRB.o (by have:=HLn.o;have:=HLe.o;omega) (Rd w C) (RdX w C) ?h0 (fun s A B h _ hb=>h.keep hb) (fun s A v h=>h.set v) (fun s A l o h h1 h2=>h.put h1 h2 o) (fun s A l o h h1 _=>h.put h1 o) ?hround ?hdone ?hstop
 case h0=>
  intro o1 o2;have hbb:Below W6.heap.size W6 ((W6.alloc o1).alloc o2):=((Below.refl _ W6).alloc La _).alloc yq _;exact⟨(hbb.block _ ya).trans hr2,(hbb.block _ ya).trans hr3,⟨_,(hbb.block _ ya).trans hC6',World.ownsRow_nil _ _ _ _⟩,(fun x hx=>by cases hx),hbw6.trans (hbb.mono hbw6.size),jd,HF1.o⟩
 case hround=>
  rintro l pre ⟨⟨i1,i2,i3,i4⟩,ok⟩ X hR hX hpost;unfold inV;dsimp only;have HR:=U hR;have HP:=U hpost;clear hr2 hr3 hC6' hB6 hbw6 hR hpost;gi_wp2_with fail
  have hbx:=(Below.refl X.heap.size X).alloc La (.cells #[int i64 i1,int i64 i2,int i64 i3,int i64 i4] 53);refine⟨Left.of_below hbx ya hbC,fun r=>?_⟩;have hA:=(Ld X (.cells #[int i64 i1,int i64 i2,int i64 i3,int i64 i4] 53)).1;have hsA:(X.alloc (.cells #[int i64 i1,int i64 i2,int i64 i3,int i64 i4] 53)).heap.size=X.heap.size+1:=yq
  obtain⟨Y,hY,HRY,hbxY,hsY⟩:∃Y,(X.alloc (.cells #[int i64 i1,int i64 i2,int i64 i3,int i64 i4] 53)).putObj (C+3) r=Y/\O (Rd w C pre Y)/\Y.heap[X.heap.size]?=some (.cells #[int i64 i1,int i64 i2,int i64 i3,int i64 i4] 53)/\Y.heap.size=X.heap.size+1:=⟨_,rfl,(HR.o.keep hbx).put ya ya r,(World.putObj_heap_other ya).trans hA,yq⟩
  rw[hY];clear hY hA hsA hbx HR;generalize X.heap.size=B7 at*;have c0:=z11 hbxY 0;have c1:=z11 hbxY 1;have c2:=z11 hbxY 2;have c3:=z11 hbxY 3;simp at c0 c1 c2 c3;clear hbxY;have hf1:=HF1.o
  cases ok with
  | false=>
    have d2:=z11 HRY.o.r2 0;have d3:=z11 HRY.o.r3 0;have z2:=z15 HRY.o.r2 0;have z3:=z15 HRY.o.r3 0;simp at d2 d3;gi_wp2_with fail
    obtain⟨s2,s3,sb⟩:=set_two HRY.o.r2 HRY.o.r3 HRY.o.below (.slice none 0 0) (.bool false);refine⟨(Left.set Y (p:=⟨w.heap.size,0,none⟩) qw qw qw qw _).trans (Left.set _ (p:=⟨w.heap.size+1,0,none⟩) qw qw qw qw _),⟨s2,s3,⟨_,List.mem_append_right _ List.mem_cons_self,rfl⟩,sb,by simp[World.setCell];omega,hf1⟩⟩
  | true=>
    obtain⟨vc,hvc,how⟩:=HRY.o.cb;have e2:=z11 hvc 0;have z2:=z15 hvc 0;simp at e2;have HVc:=U hvc;have HOw:=U how;obtain⟨i0,hi,hz0,hz1,hz2⟩:=info_parts info_ins;have HPl:O (pre.length<=20000):=by
     obtain⟨post,hp⟩:=HP.o;have h1:=tells_len rest.length rest La;have h2:=congrArg List.length hp;rw[Lk,Ll]at h2;show _<=_;have:=HLn.o;have:=HLe.o;omega
    have hov:=(owns_slice how).2;obtain⟨ad,cc,rfl⟩:=hov;have HOw2:O (Y.ownsRow (C+4) 53 4 (.slice ad pre.length cc) pre.length (insRow (pre.map Prod.fst))):=by
     have h1:=how;unfold OwnsI at h1;rw[List.length_map]at h1;exact h1
    rw[List.length_map]at e2;have hdw:=(owns_slice how).1;have HDw:=U hdw;clear hvc how hdw HOw;gi_wp2_with (first
     | (gi_at_builtin;refine wpListIn_append_own _ rfl _ _ 28 rfl (C+4) 53 i0 (.agg #[int i64 0,int i64 0,int i64 0,int i64 0]) 4 32 underlying28 hi hz0 hz1 hz2 rfl yk _ _ _ rfl (World.ownsRow.alloc HOw2.o _) ⟨_,0,none⟩ 1 1 [int i64 i1,int i64 i2,int i64 i3,int i64 i4] rfl rfl (cell_four_new _ _ hsY.symm _ _ _ _ _) (fun u hu=>ycg) (by have:=HPl.o;unfold maxLen;omega) (by have:=HPl.o;omega) jd ?_
        intro v' w3 hown' hg3 _;have HO3:=U hown';have hcut:w3.heap[C]?=some (.cells #[.slice ad pre.length cc] 28):=by
         have h1:=HVc.o;rw[List.length_map]at h1;refine((hg3.block C jd (fun e=>?_)).trans (Below.heap_alloc _ _ _ ya)).trans h1;have:=(HDw.o C (by rw[List.length_map];exact e.symm)).1;omega
        have e4:=z11 hcut 0;have z4:=z15 hcut 0;simp at e4;have HG3:=U hg3;have HCt:=U hcut;clear hown' hg3 hcut;obtain⟨ad2,cc2,rfl⟩:∃ad2 cc2,v'=.slice ad2 (pre.length+1) cc2:=by
         obtain⟨-,⟨rfl,h0⟩|⟨g,cap,cur,rfl,-⟩⟩:=HO3.o
         .omega
         .exact⟨_,_,rfl⟩))
    have kq:∀q,q<C+4->w3.heap[q]?=Y.heap[q]? :=fun q hq=>(HG3.o.block q jd (fun e=>by
     have:=(HDw.o q (by rw[List.length_map];exact e.symm)).1;omega)).trans (Below.heap_alloc _ _ _ ya)
    have hs3:Y.heap.size<=w3.heap.size:=by
     have:=HG3.o.size;simp at this;omega
    have ks:∀q,q<C+4->q≠C->(w3.setCell ⟨C,0,none⟩ (.slice ad2 (pre.length+1) cc2)).heap[q]?=Y.heap[q]? :=fun q hq hne=>(Lg w3 ⟨C,0,none⟩ _ q hne).trans (kq q hq)
    have hzz:(w3.setCell ⟨C,0,none⟩ (.slice ad2 (pre.length+1) cc2)).heap.size=w3.heap.size:=qo;have hfirst:=HRY.o.first;refine⟨⟨ks _ ya ya,ks _ ya ya,ks _ ya ya,ks _ ya ya,ya⟩,⟨(ks _ ya ya).trans HRY.o.r2,(ks _ ya ya).trans HRY.o.r3,⟨_,box1_set HCt.o _,?_⟩,fun x hx=>?_,⟨?_,?_,?_,by have:=HRY.o.below.size;omega,fun q hq=>(ks q ya ya).trans (HRY.o.below.block q hq)⟩,ya,hfirst⟩⟩
    ·refine owns_same (X:=w3) ?_ (fun q hq _=>Lg w3 ⟨C,0,none⟩ _ q qw);unfold OwnsI;rw[List.map_append,Lk,List.length_map];have e:insRow (pre.map Prod.fst++ [(⟨i1,i2,i3,i4⟩,true)].map Prod.fst)=insRow (pre.map Prod.fst)++ [int i64 i1,int i64 i2,int i64 i3,int i64 i4]:=by
      unfold insRow;rw[List.flatMap_append];rfl
     rw[e];exact HO3.o
    .rcases List.mem_append.1 hx with hx|hx
     .exact HRY.o.all x hx
     .rw[Ls]at hx;rw[hx]
    .exact HG3.o.os.trans HRY.o.below.os
    .exact HG3.o.tape.trans HRY.o.below.tape
    .exact HG3.o.output.trans HRY.o.below.output
 case hdone=>
  intro X hR hD hX;obtain⟨c,hpc,htl⟩:∃c,parse rest=some c/\tells rest=c.map (fun i=>(i,true)):=by
   rcases tells_parse rest.length rest La with h|⟨-,c,i,h⟩
   .exact h
   .have h1:=hR.all (i,false) (by rw[h];exact List.mem_append_right _ List.mem_cons_self)
    cases h1
  obtain⟨vc,hvc,how⟩:=hR.cb;rw[htl,List.map_map,show(Prod.fst ∘ fun i:In=>(i,true))=id from rfl,List.map_id]at how;have hZc:Z=if codeOkZ c then some c else none:=by
   rw[<-HZ.o];unfold readZ;rw[if_neg (by have:=HLn.o;have:=HH.o;simp only[not_or,Nat.not_lt];exact⟨ya,fun h=>h this⟩),hrest,hpc]
  have HZc:=U hZc;obtain⟨ad,cc,rfl⟩:=(owns_slice how).2;have HLo:=U (insListOk_any X how);have HR2:=U hR.r2;have HR3:=U hR.r3;have HRb:=U hR.below;have HD:=U hD;have HVc:=U hvc;have HOw:=U how;have hf1:=HF1.o;have e2:=z11 hvc 0;have z2:=z15 hvc 0;simp at e2;clear hR hD hvc how hr2 hr3 hC6' hB6 hbw6 hZc htl;generalize c.length=cl at*;gi_wp2_with fail
  refine⟨trivial,rfl,(callsIn_wide.2 HLo.o).mono ?_⟩;rintro e X2 ⟨rfl,hb2⟩;have hD2:=(hb2.block _ (z13 HD.o)).trans HD.o;have h2:=(hb2.block _ (z13 HR2.o)).trans HR2.o;have h3:=(hb2.block _ (z13 HR3.o)).trans HR3.o;have hc2:=(hb2.block _ (z13 HVc.o)).trans HVc.o;have how2:=owns_same HOw.o (fun q _ hq=>hb2.block q hq);have hbb:=HRb.o.trans (hb2.mono HRb.o.size);have d2:=z11 h2 0;have d3:=z11 h3 0;have d4:=z11 hc2 0;have z3:=z15 h2 0;have z4:=z15 h3 0;simp at d2 d3 d4;have H2:=U h2;have H3:=U h3;have HD2:=U hD2;have HO2:=U how2;have HB2:=U hbb
  clear h2 h3 hD2 how2 hbb hc2 hb2 HR2 HR3 HD HVc HOw HRb HLo e2 z2
  cases hok:codeOkZ c with
  | false=>
    have hZn:Z=none:=by rw[HZc.o,hok];rfl
    subst hZn;gi_wp2_with fail
    obtain⟨s2,s3,sb⟩:=set_two H2.o H3.o HB2.o (.slice none 0 0) (.bool false);refine⟨yq,.inl ⟨_,_,rfl,run_takeDeferred ych,none_told rfl rfl ((World.putObj_heap_other ya).trans s2) ((World.putObj_heap_other ya).trans s3) ?_⟩⟩;exact below_put sb ya _
  | true=>
    have hZn:Z=some c:=by rw[HZc.o,hok];rfl
    subst hZn;gi_wp2_with fail
    obtain⟨s2,s3,sb⟩:=set_two H2.o H3.o HB2.o (.slice ad cl cc) (.bool true);refine⟨yq,.inl ⟨_,_,rfl,run_takeDeferred ych,⟨_,results_two rfl _ _ _ rfl rfl (load_ins ((World.putObj_heap_other ya).trans s2)) (load_ok ((World.putObj_heap_other ya).trans s3)),⟨_,rfl,?_⟩,below_put sb ya _⟩⟩⟩;exact owns_low ya (owns_same HO2.o (fun q hq _=>(World.putObj_heap_other ya).trans ((Lg _ _ _ _ qw).trans (Lg _ _ _ _ qw))))
 case hstop=>
  intro pre X hpost hR hD hX;have hZn:Z=none:=by
   rw[<-HZ.o];apply read_none;rw[hrest];rcases tells_parse rest.length rest La with ⟨c,-,h⟩|⟨h,-⟩
   .obtain⟨x,hx,hx2⟩:=hR.one;obtain⟨post,hp⟩:=hpost;have h1:x∈tells rest:=by rw[hp];exact List.mem_append_left _ hx
    rw[h]at h1;obtain⟨i,-,rfl⟩:=List.mem_map.1 h1
    cases hx2
   .exact h
  subst hZn;clear hr2 hr3 hC6' hB6 hbw6;gi_wp2_with fail
  refine⟨yq,.inl ⟨_,_,rfl,run_takeDeferred hD,none_told rfl rfl ((World.putObj_heap_other ya).trans hR.r2) ((World.putObj_heap_other ya).trans hR.r3) ?_⟩⟩;exact below_put hR.below ya _
end
end Go.Proofs.YtbbffkiobmbkfaaGreatDoor
