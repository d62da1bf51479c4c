import Derived.Test.YtfbojelpdccjaaaGreatDoorPkB3
import Derived.Test.YtfbojelpdccjaaaGreatDoorPkBS
import Derived.BigQuiet
import Derived.Test.YtfbojelpdccjaaaGreatDoorPkB1
set_option maxHeartbeats 4000000
set_option maxRecDepth 100000
namespace Go.Proofs.YtfbojelpdccjaaaGreatDoor
open Go.RowKit
variable {k r : Fo} {pk : Int} {ops : List ByteArray} {i : Nat} {n : Nd}
section
open Go.RowKit
theorem z63 (k : Int) (w : World) :
 Calls Tryz.prog 114 #[.int .i64 k] w fun e w'=> e= .returned (.int .i64 (clauseZ k))∧w=w':= by
 go_enter Tryz.func114,Tryz.ntmps114
 go_wp2
 all_goals
  go_ret;refine⟨?_,rfl⟩;simp_all [clauseZ]
theorem handler_eq (k : Int) : (k==23 || k==24)=decide (k=23∨k=24):=by
 by_cases h : k=23
 ·simp [h]
 ·by_cases h' : k=24 <;> simp [h,h']
theorem isHandler_calls (k : Int) (w : World) :
 Calls Tryz.prog 130 #[.int .i64 k] w fun e w'=> e= .returned (.bool (decide (k=23∨k=24)))∧w=w':= by
 rw [← handler_eq];go_enter Tryz.func130,Tryz.ntmps130
 go_wp2
 all_goals
  go_ret;refine⟨?_,rfl⟩;simp_all
theorem wanted_calls (k : Int) (i : Nat) (w : World) :
 Calls Tryz.prog 115 #[.int .i64 k,.int .i64 i] w fun e w'=> e= .returned (.int .i64 (wantedZ k i))∧w=w':= by
 have hi : i=0∨i=1∨(i≠0∧i≠1):=by omega
 by_cases hk : k=23∨k=24;all_goals
  rcases hi with rfl | rfl | ⟨h0,h1⟩
  all_goals
   try have h0' : ((i : Int)==0)=false:=by rw [beq_eq_false_iff_ne]; omega
   try have h1' : ((i : Int)==1)=false:=by rw [beq_eq_false_iff_ne]; omega
   go_enter Tryz.func115,Tryz.ntmps115
   go_wp2_with fail
   refine (isHandler_calls _ _).mono ?_;rintro e w2 ⟨rfl,rfl⟩;go_wp2
   all_goals
    go_ret;refine⟨?_,rfl⟩;simp_all [wantedZ]
theorem isIn_contains (ops : List ByteArray) (s : ByteArray) : Lib.containsS ops s=isIn ops s:=by
 rw [Bool.eq_iff_iff,Lib.containsS_iff];simp only [isIn,List.any_eq_true,beq_iff_eq];constructor
 ·intro h;exact⟨s,h,rfl⟩
 ·rintro⟨x,hx,he⟩;have : x=s:=by
   rw [ByteArray.toList_eq,ByteArray.toList_eq] at he;exact ByteArray.ext (Array.ext' he)
  rw [← this];exact hx
theorem contains_calls (B : Nat) (v : Value) (ops : List ByteArray) (s : ByteArray) (w : World) (hl : ops.length≤1000000) (hown : w.ownsRow B 9 1 v ops.length (strs ops)) :
 Calls Tryz.prog 116 #[v,.string s] w fun e w'=> e= .returned (.bool (isIn ops s))∧w=w':= by
 cases ops with
 | nil=>
   obtain⟨a,c,rfl⟩ : ∃ a c,v= .slice a 0 c:=by
    rcases hown.2 with ⟨h,_⟩ | ⟨g,c,cur,h,_⟩
    ·exact⟨none,0,h⟩
    ·exact⟨_,_,h⟩
   refine (Tryz.slices_Contains_string_empty a c s w).mono ?_;rintro e w' ⟨rfl,rfl⟩;exact⟨rfl,rfl⟩
 | cons x r=>
   obtain⟨g,c,rfl⟩ : ∃ g c,v= .slice (some ⟨g,0,none⟩) (x::r).length c:=by
    rcases hown.2 with ⟨_,h⟩ | ⟨g,c,cur,h,_⟩
    ·simp at h
    ·exact⟨_,_,h⟩
   refine (Tryz.slices_Contains_string g 0 (x::r).length c (x::r) s w (Nat.le_refl _) (by omega) (fun j hj=>?_)).mono ?_
   ·rw [Nat.zero_add,hown.cellAt j (by omega)];rw [strs,List.getElem?_map,List.getElem?_eq_getElem hj,List.getD,List.getElem?_eq_getElem hj];rfl
   ·rintro e w' ⟨rfl,rfl⟩;exact⟨by rw [isIn_contains,List.take_length],rfl⟩
def Fo.oks : Fo→List Bool
 | .none=> []
 | .tree n k r=>implKids k n.kind 0 []::(k.oks++r.oks)
theorem Fo.oks_length : ∀ f : Fo,f.oks.length=f.flat.length
 | .none=>rfl
 | .tree n k r=>by simp only [oks,flat,List.length_cons,List.length_append,oks_length k,oks_length r]
theorem Fo.oks_all : ∀ f : Fo,implAll f=f.oks.all id
 | .none=>rfl
 | .tree n k r=>by simp only [implAll,oks,List.all_cons,List.all_append,oks_all k,oks_all r,id_eq]
theorem Fo.place : ∀ (f : Fo),f.wf→ ∀ at_,at_ < f.flat.length→ ∃ (n : Nd) (k : Fo) (suf : List Nd),f.flat.drop at_=n::(k.flat++suf)∧n.kids=k.count∧k.wf∧f.oks.drop at_=implKids k n.kind 0 []::f.oks.drop (at_+1)
 | .none,_,at_,h=>by simp [flat] at h
 | .tree n k r,hw,0,_=>⟨n,k,r.flat,rfl,hw.1,hw.2.1,rfl⟩
 | .tree n k r,hw,j+1,h=>by
   simp only [flat,List.length_cons,List.length_append] at h;simp only [flat,oks,List.drop_succ_cons];have lk:=oks_length k;by_cases hj : j < k.flat.length
   ·obtain⟨n',k',suf,e1,e2,e3,e4⟩:=place k hw.2.1 j hj;refine⟨n',k',suf++r.flat,?_,e2,e3,?_⟩
    ·rw [List.drop_append_of_le_length (by omega),e1];simp
    ·rw [List.drop_append_of_le_length (by omega),List.drop_append_of_le_length (by omega),e4];rfl
   ·obtain⟨n',k',suf,e1,e2,e3,e4⟩:=place r hw.2.2 (j - k.flat.length) (by omega);refine⟨n',k',suf,?_,e2,e3,?_⟩
    ·rw [List.drop_append,List.drop_eq_nil_of_le (by omega),List.nil_append,e1]
    ·rw [List.drop_append,List.drop_append,List.drop_eq_nil_of_le (show k.oks.length≤j by omega),List.drop_eq_nil_of_le (show k.oks.length≤j+1 by omega),List.nil_append,List.nil_append,lk,e4];congr 2
     omega
theorem kidsZ_false (h : (clauseZ n.kind !=wantedZ pk i)=true) : implKids (.tree n k r) pk i ops=false:=by
 simp only [implKids];have : (clauseZ n.kind==wantedZ pk i)=false:=by simpa [bne] using h
 rw [this,Bool.false_and]
theorem kidsZ_in (h : isIn ops n.a=true) : implKids (.tree n k r) pk i ops=false:=by
 simp only [implKids];rw [h,Bool.not_true,Bool.false_and,Bool.and_false]
theorem kidsZ_next (h : (clauseZ n.kind !=wantedZ pk i)=false) (h' : isIn ops n.a=false) : implKids (.tree n k r) pk i ops=implKids r pk (i+1) (if n.kind=26 then ops++ [n.a] else ops):=by
 simp only [implKids];have : (clauseZ n.kind==wantedZ pk i)=true:=by simpa [bne] using h
 rw [this,h',Bool.not_false,Bool.true_and,Bool.true_and]
theorem turned {P : Program} {f : FuncId} {args : Array Value} {w : World} {v : Value} (h : Calls P f args w fun e w'=> e= .returned v∧w=w') : Calls P f args w fun e w'=> e= .returned v∧w'= w:=
 h.mono fun _ _ ⟨a,b⟩=>⟨a,b.symm⟩
theorem clausesOk_calls (b off cap : Nat) (ns : List Nd) (n0 : Nd) (k0 : Fo) (w : World) (hm : ns.length≤300) (hbw : b < w.heap.size) (hn : NodesAt w b off ns)
 (he : ns=n0::k0.flat) (hk0 : n0.kids=k0.count) (hw0 : k0.wf) :
 Calls Tryz.prog 74 #[.slice (some ⟨b,off,none⟩) ns.length cap] w fun e w'=> e= .returned (.bool (implTree n0 k0))∧Below w.heap.size w w':= by
 have hl0 : 0 < ns.length:=by rw [he]; simp
 have c0:=hn 0 hl0 0 (by omega);have hg0 : ns.getD 0 default=n0:=by rw [he]; rfl
 rw [hg0] at c0;simp only [Nd.cell,Nat.add_zero,Nat.zero_mul] at c0;obtain⟨F,hF⟩ : ∃ F : Fo,F= .tree n0 k0 .none:=⟨_,rfl⟩
 have hFf : F.flat=ns:=by rw [hF,he]; simp [Fo.flat]
 have hFw : F.wf:=by rw [hF]; exact⟨hk0,hw0,trivial⟩
 have hFo : F.oks.all id=(implKids k0 n0.kind 0 [] && implAll k0):=by
  rw [← Fo.oks_all,hF];simp [implAll]
 have hFl : F.oks.length=ns.length:=by rw [Fo.oks_length,hFf]
 have hR0 : implTree n0 k0=(if (clauseZ n0.kind !=0)=true then false else F.oks.all id):=by
  rw [hFo,implTree];by_cases h : clauseZ n0.kind=0 <;> simp [h]
 rw [hR0];obtain⟨len,hlen⟩ : ∃ len,ns.length=len:=⟨_,rfl⟩
 have Hlen : Hid (ns.length=len):=hlen;have HF : Hid (F.flat=ns∧F.wf∧F.oks.length=len):=⟨hFf,hFw,by rw [hFl,hlen]⟩
 have HN : Hid (NodesAt w b off ns):=hn;have HM : Hid (len≤300):=by show _≤_; omega
 rw [hlen] at hl0 ⊢;clear hF hFf hFw hFo hFl hR0 hg0 hn hm he hk0 hw0 hlen
 cases hc : (clauseZ n0.kind !=0) with
 | true=>
   go_enter Tryz.func74,Tryz.ntmps74
   go_wp2_with fail
   refine (z63 _ _).mono ?_;rintro e w2 ⟨rfl,rfl⟩;go_wp2_with fail
   go_ret;exact⟨rfl,Below.refl _ _⟩
 | false=>
   rw [if_neg (by simp)];obtain⟨R,hR⟩ : ∃ R,F.oks.all id=R:=⟨_,rfl⟩
   rw [hR];have HR : Hid (F.oks.all id=R):=hR;clear hR;go_enter Tryz.func74,Tryz.ntmps74
   go_wp2_with fail
   refine (z63 _ _).mono ?_;rintro e w2 ⟨rfl,rfl⟩;go_wp2_with fail
   clear c0 hc;go_loopw [17] (fun i wr=> ∃ at_ : Nat,i= .int .i64 at_∧at_≤len∧Hid ((F.oks.drop at_).all id=R)∧Below w.heap.size w wr) (fun i _=>len - (intOf i).toNat)
   case atStart=>exact⟨0,rfl,Nat.zero_le _,HR.out,Below.refl _ _⟩
   case round=>
    rename World=>wo
    obtain⟨at_,rfl,hle,HV,hbx⟩:=hrel;by_cases hlt : (at_ : Int) < (len : Int)
    ·obtain⟨n,k,suf,hp,hkc,hk,ho⟩:=Fo.place F HF.out.2.1 at_ (by rw [HF.out.1,Hlen.out]; omega);rw [HF.out.1] at hp;have hV:=HV.out;rw [ho,List.all_cons,id_eq] at hV;obtain⟨V,hVV⟩ : ∃ V,implKids k n.kind 0 []=V:=⟨_,rfl⟩
     rw [hVV] at hV;have HV1 : Hid ((V && (F.oks.drop (at_+1)).all id)=R):=hV;have HVV : Hid (implKids k n.kind 0 []=V):=hVV;obtain⟨hpl,hnd,hp1⟩:=at_drop hp;have hnx:=HN.out.below hbx hbw;obtain⟨c0,c1,c2,c3,c4,c5⟩:=fsx (hnx at_ hpl);rw [hnd] at c0 c1 c2 c3 c4 c5;simp only [Nd.cell,Nat.add_zero] at c0 c1 c2 c3 c4 c5;have hkl : k.flat.length≤ns.length:=by
      have : (ns.drop (at_+1)).length=k.flat.length+suf.length:=by rw [hp1,List.length_append]
      rw [List.length_drop] at this;omega
     have hkk:=Fo.count_le k;rw [hkc] at c5;obtain⟨kc,hkcc⟩ : ∃ kc,k.count=kc:=⟨_,rfl⟩
     have Hkc : Hid (k.count=kc):=hkcc;rw [hkcc] at c5 hkk;have H1 : Hid (ns.drop (at_+1)=k.flat++suf):=hp1;have Hk : Hid k.wf:=hk;have HP : Hid (len≤300∧at_ < len∧kc≤len):=⟨HM.out,by omega,by have:=Hlen.out; omega⟩
     obtain⟨kd,num,a,bb,cc,kids⟩:=n;dsimp only at*;clear hp hkc hk ho hV hVV hpl hnd hp1 hnx hkl hkk hkcc HV HR;go_wp2_with fail
     rw [z17 (by have:=HP.out; omega)];clear c0 c1 c2 c3 c4 c5;generalize hat1 : at_+1=at1;have HA1 : Hid (at_+1=at1):=hat1;clear hat1;go_loopw [5,6,26] (fun o q i wi=> ∃ (q' i' : Nat) (r : Fo) (ops : List ByteArray),q= .int .i64 q'∧i= .int .i64 i'∧Hid (ns.drop q'= r.flat++suf∧r.wf∧i'+ r.count=kc∧implKids r kd i' ops=V∧ops.length≤i')∧wi.ownsRow (wo.heap.size+1) 9 1 o ops.length (strs ops)∧wi.heap[wo.heap.size]? =some (.cells #[.int .i64 kd,.int .i64 num,.string a,.string bb,.string cc,.int .i64 kc] 60)∧Below wo.heap.size wo wi) (fun _ _ i _=>kc - (intOf i).toNat)
     case atStart=>
      exact⟨at1,0,k,[],rfl,rfl,⟨by rw [← HA1.out]; exact H1.out,Hk.out,by rw [Hkc.out]; omega,HVV.out,Nat.le_refl _⟩,World.ownsRow_nil _ _ _ _,(MapKept.heap_alloc wo _).1,(Below.refl _ _).alloc (Nat.le_refl _) _⟩
     case round=>
      obtain⟨q',i',r,ops,rfl,rfl,HQ,hown,eA,hnx⟩:=hrel;have a0:=z8 eA 0;simp at a0;have hltA:=z13 eA
      cases r with
      | none=>
        obtain⟨_,_,h1,h2,_⟩:=HQ.out;simp only [Fo.count,implKids] at h1 h2;have h1' : i'= kc:=by omega
        subst h1' h2;clear HQ h1 HN H1 Hk eA hown;go_wp2_with fail
        have hs:=z45 hlt;rw [z17 (by have:=HP.out; omega)];exact⟨⟨at_+1,rfl,by omega,by have:=HV1.out; rwa [Bool.true_and] at this,hbx.trans (hnx.mono hbx.size)⟩,hs⟩
      | tree n' k' r'=>
        obtain⟨h0,hw,h1,h4,h5⟩:=HQ.out;obtain⟨hw0,hw1,hw2⟩:=hw;simp only [Fo.count] at h1;simp only [Fo.flat,List.cons_append,List.append_assoc] at h0;obtain⟨hql,hqn,hq1⟩:=at_drop h0;have hwx : Below w.heap.size w wr:=hbx.trans (hnx.mono hbx.size);have hnw : NodesAt wr b off ns:=HN.out.below hwx hbw;have hend : treeEnd ns q'= _:=treeEnd_at h0 hw0 hw1;have hnew:=drop_past hq1;obtain⟨d0,d1,d2,d3,d4,d5⟩:=fsx (hnw q' hql);rw [hqn] at d0 d1 d2 d3 d4 d5;simp only [Nd.cell,Nat.add_zero] at d0 d1 d2 d3 d4 d5;have hi : (i' : Int) < (kc : Int):=by omega
        have hqi : q' < len:=by have:=Hlen.out; omega
        have HX : Hid (ns.drop (q'+ 1+k'.flat.length)=r'.flat++suf∧r'.wf∧i'+ 1+r'.count=kc∧ops.length≤i'):=⟨hnew,hw2,by omega,h5⟩
        have HE : Hid (treeEnd ns q'= ((q'+ 1+k'.flat.length : Nat) : Int)):=hend;have HV2 : Hid (implKids (.tree n' k' r') kd i' ops=V):=h4;obtain⟨kd',num',a',bb',cc',kids'⟩:=n';dsimp only at*;clear HQ h0 hw0 hw1 hw2 hql hqn hq1 hnw hend hnew h4 h5 h1
        cases hne : (clauseZ kd' !=wantedZ kd i') with
        | true=>
          have HB : Hid (V=false):=by show V=false; rw [← HV2.out]; exact kidsZ_false hne
          go_wp2_with fail
          go_quiet (first | (go_at_call 114; refine Calls.quiet_of_same (turned (z63 _ _))) | (go_at_call 115; refine Calls.quiet_of_same (turned (wanted_calls _ _ _))))
          go_wp2_with fail
          go_ret;refine⟨?_,hbx.trans (((hnx.alloc (by have:=hnx.size; omega) _).trans (below_draws _ _ _)).mono hbx.size)⟩;have:=HV1.out;rw [HB.out,Bool.false_and] at this;rw [← this];rfl
        | false=>
          have HG : isIn ops a'= false→Hid (implKids r' kd (i'+ 1) (if kd'= 26 then ops++ [a'] else ops)=V):=fun h=>by rw [← HV2.out]; exact (kidsZ_next (n:=⟨kd',num',a',bb',cc',kids'⟩) hne h).symm
          have HB : isIn ops a'= true→Hid (V=false):=fun h=>by rw [← HV2.out]; exact kidsZ_in (n:=⟨kd',num',a',bb',cc',kids'⟩) h
          have hopl : ops.length≤1000000:=by have:=HX.out; have:=HP.out; omega
          have hO : ∀ q,((wr.alloc (.cells #[.int .i64 kd',.int .i64 num',.string a',.string bb',.string cc',.int .i64 kids'] 60)).drewN q).ownsRow (wo.heap.size+1) 9 1 u5 ops.length (strs ops):=fun q=>z30 (hown.alloc _) (below_draws _ _ q)
          have HA : Hid (∀ q,_):=fun q=>contains_calls _ _ ops a' _ hopl (hO q)
          have hK : ∀ q,((wr.alloc (.cells #[.int .i64 kd',.int .i64 num',.string a',.string bb',.string cc',.int .i64 kids'] 60)).drewN q).heap[wr.heap.size]? =some (.cells #[.int .i64 kd',.int .i64 num',.string a',.string bb',.string cc',.int .i64 kids'] 60):=fun q=>(MapKept.heap_alloc wr _).1
          have hE : ∀ q,((wr.alloc (.cells #[.int .i64 kd',.int .i64 num',.string a',.string bb',.string cc',.int .i64 kids'] 60)).drewN q).heap[wo.heap.size]? =some (.cells #[.int .i64 kd,.int .i64 num,.string a,.string bb,.string cc,.int .i64 kc] 60):=fun q=>(Below.heap_alloc _ _ _ hltA).trans eA
          have hBl : ∀ q,Below wo.heap.size wo ((wr.alloc (.cells #[.int .i64 kd',.int .i64 num',.string a',.string bb',.string cc',.int .i64 kids'] 60)).drewN q):=fun q=>(hnx.alloc (by have:=hnx.size; omega) _).trans (below_draws _ _ _)
          have HO : Hid (∀ q,_):=hO;have HK : Hid (∀ q,_):=hK;have HEa : Hid (∀ q,_):=hE;have HBl : Hid (∀ q,_):=hBl;clear hO hK hE hBl
          cases hin : isIn ops a' with
          | true=>
            have HF2:=HB hin;rw [hin] at HA;clear HB HG;go_wp2_with fail
            go_quiet (first | (go_at_call 114; refine Calls.quiet_of_same (turned (z63 _ _))) | (go_at_call 115; refine Calls.quiet_of_same (turned (wanted_calls _ _ _))) | (go_at_call 116; refine Calls.quiet_of_same (turned (HA.out _))))
            go_wp2_with fail
            go_ret;refine⟨?_,hbx.trans ((HBl.out _).mono hbx.size)⟩;have:=HV1.out;rw [HF2.out,Bool.false_and] at this;rw [← this];rfl
          | false=>
            have HG:=HG hin;rw [hin] at HA;clear HB;go_wp2_with fail
            go_quiet (first | (go_at_call 114; refine Calls.quiet_of_same (turned (z63 _ _))) | (go_at_call 115; refine Calls.quiet_of_same (turned (wanted_calls _ _ _))) | (go_at_call 116; refine Calls.quiet_of_same (turned (HA.out _))))
            have hownQ:=HO.out nq;have eK:=HK.out nq;have eQ:=HEa.out nq;have hbQ:=HBl.out nq;clear HO HK HEa HBl HA d0 d1 d2 d3 d4 d5 a0;generalize ((wr.alloc (.cells #[.int .i64 kd',.int .i64 num',.string a',.string bb',.string cc',.int .i64 kids'] 60)).drewN nq)=W3 at*;have hltK:=z13 eK;have hltQ:=z13 eQ;have k0':= z8 eK 0;have k2':= z8 eK 2;simp at k0' k2';have hwQ : Below w.heap.size w W3:=hbx.trans (hbQ.mono hbx.size);have HT : Hid (∀ w,NodesAt w b off ns→_):=fun w h=>implEnd_calls b off cap ns q' w h (by have:=Hlen.out; have:=HM.out; omega) (by have:=HM.out; omega)
            rw [HE.out,Hlen.out] at HT;generalize q'+ 1+k'.flat.length=ee at*;have hol : Hid (ops.length≤1048576):=by show _≤_; omega
            by_cases h26 : kd'= 26
            ·rw [if_pos h26] at HG;have h26' : (kd'== 26)=true:=by rw [h26]; rfl
             clear hin hne h26 eA hown hnx HV2 hopl hltA;obtain⟨i0,hinf,hz0,hz1,hz2⟩:=info_parts info_str;go_wp2_with (first
              | (at_builtin; refine wpList_append_own _ rfl _ _ 87 rfl (wo.heap.size+1) 9 i0 (.string ⟨#[]⟩) 1 16 Tryz.underlying87 hinf hz0 hz1 hz2 rfl (by decide) _ _ _ rfl (hownQ.alloc _) ⟨W3.heap.size,0,none⟩ 1 1 [.string a'] rfl rfl (cell_one_new _ _ rfl _ _) (fun x hx=>by simp at hx; subst hx; rfl) (by have:=hol.out; unfold maxLen; omega) (by have:=hol.out; omega) (by simp; omega) ?_
                 intro v' w5 hown' hgrow hnil;have eA5 : Hid (w5.heap[wo.heap.size]? =some (.cells #[.int .i64 kd,.int .i64 num,.string a,.string bb,.string cc,.int .i64 kc] 60)):=by
                  show w5.heap[wo.heap.size]? =_;rw [hgrow.block wo.heap.size (by simp; omega) (fun h=>by have:=(hownQ.lt _ h.symm).1; omega),Below.heap_alloc _ _ _ hltQ];exact eQ
                 have hbQ5 : Below wo.heap.size wo w5:=Below.grown (hbQ.alloc (by omega) _) hgrow (by simp; omega) (fun j hj=>by have:=(hownQ.lt _ hj).1; omega);have hnx5 : Below w.heap.size w w5:=hbx.trans (hbQ5.mono hbx.size);clear hgrow hnil eQ eK k0' k2' hownQ hbQ hwQ))
             refine (HT.out w5 (HN.out.below hnx5 hbw)).mono ?_;rintro e w6 ⟨rfl,rfl⟩;go_wp2_with fail
             have hi9 : i'≤1048576:=by have:=HP.out; omega
             try rw [z17 hi9]
             refine⟨⟨ee,i'+ 1,r',ops++ [a'],rfl,rfl,⟨HX.out.1,HX.out.2.1,HX.out.2.2.1,HG.out,?_⟩,?_,eA5.out,hbQ5⟩,z45 hi⟩
             ·rw [List.length_append];exact Nat.succ_le_succ HX.out.2.2.2
             ·rw [List.length_append,strs,List.map_append];exact hown'
            ·rw [if_neg h26] at HG;have h26' : (kd'== 26)=false:=by rw [beq_eq_false_iff_ne]; exact h26
             clear hin hne h26 eA hown hnx HV2 hopl hltA;go_wp2_with fail
             refine (HT.out W3 (HN.out.below hwQ hbw)).mono ?_;rintro e w6 ⟨rfl,rfl⟩;go_wp2_with fail
             have hi9 : i'≤1048576:=by have:=HP.out; omega
             try rw [z17 hi9]
             exact⟨⟨ee,i'+ 1,r',ops,rfl,rfl,⟨HX.out.1,HX.out.2.1,HX.out.2.2.1,HG.out,Nat.le_succ_of_le HX.out.2.2.2⟩,hownQ,eQ,hbQ⟩,z45 hi⟩
    ·have e : at_=len:=by omega
     subst e;have hV:=HV.out;rw [List.drop_eq_nil_of_le (by rw [HF.out.2.2]; exact Nat.le_refl _)] at hV;subst hV;clear HV HR;go_wp2_with fail
     go_ret;exact⟨rfl,hbx⟩
end
end Go.Proofs.YtfbojelpdccjaaaGreatDoor
