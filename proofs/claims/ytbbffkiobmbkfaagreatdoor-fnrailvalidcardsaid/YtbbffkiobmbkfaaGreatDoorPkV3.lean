import Derived.Test.YtbbffkiobmbkfaaGreatDoorPkV2
import Derived.Test.YtbbffkiobmbkfaaGreatDoorPkVS
import Derived.Deep.RegionHeld
open Go.Proofs.Tryz
open Go.Value Go.IntKind
set_option maxHeartbeats 4000000
set_option maxRecDepth 100000
namespace Go.Proofs.YtbbffkiobmbkfaaGreatDoor
open Go.RowKit
variable {r:Fo}{k num pk:Int}{ops:List ByteArray}{ns:List Nd}{i:Nat}{n:Nd}
section
open Go.RowKit
theorem z65 (k:Int) (w:World) :
 Calls prog 128 #[int i64 k] w fun e w'=> e=.returned (int i64 (clauseZ k))/\w=w':= by
 go_enter func128,ntmps128
 go_wp2
 all_goals
  go_ret;refine⟨?_,rfl⟩;simp_all[clauseZ]
theorem handler_eq (k:Int):(k==23 || k==24)=decide (k=23\/k=24):=by
 by_cases h:k=23
 .simp[h]
 .by_cases h':k=24<;>simp[h,h']
theorem isHandler_calls (k:Int) (w:World) :
 Calls prog 159 #[int i64 k] w fun e w'=> e=.returned (.bool (decide (k=23\/k=24)))/\w=w':= by
 rw[<-handler_eq];go_enter func159,ntmps159
 go_wp2
 all_goals
  go_ret;refine⟨?_,rfl⟩;simp_all
theorem wanted_calls (k:Int) (i:Nat) (w:World) :
 Calls prog 129 #[int i64 k,int i64 i] w fun e w'=> e=.returned (int i64 (wantedZ k i))/\w=w':= by
 have hi:i=0\/i=1\/(i≠0/\i≠1):=ya;by_cases hk:k=23\/k=24;all_goals
  rcases hi with rfl|rfl|⟨h0,h1⟩
  all_goals
   try have h0':((i:Int)==0)=false:=jn
   try have h1':((i:Int)==1)=false:=jn
   go_enter func129,ntmps129
   go_wp2_with fail
   refine(isHandler_calls _ _).mono ?_;rintro e w2 ⟨rfl,rfl⟩;go_wp2
   all_goals
    go_ret;refine⟨?_,rfl⟩;simp_all[wantedZ]
theorem isIn_contains (ops:List ByteArray) (s:ByteArray):Lib.containsS ops s=isIn ops s:=by
 rw[Bool.eq_iff_iff,Lib.containsS_iff];simp only[isIn,List.any_eq_true,beq_iff_eq];constructor
 .intro h;exact⟨s,h,rfl⟩
 ·rintro⟨x,hx,he⟩;have:x=s:=by
   rw[ByteArray.toList_eq,ByteArray.toList_eq]at he;exact ByteArray.ext (Array.ext' he)
  rw[<-this];exact hx
theorem contains_calls (B:Nat) (v:Value) (ops:List ByteArray) (s:ByteArray) (w:World) (hl:ops.length<=1000000) (hown:w.ownsRow B 9 1 v ops.length (strs ops)) :
 Calls prog 130 #[v,.string s] w fun e w'=> e=.returned (.bool (isIn ops s))/\w=w':= by
 cases ops with
 | nil=>
   obtain⟨a,c,rfl⟩:∃a c,v=.slice a 0 c:=by
    rcases hown.2 with ⟨h,_⟩|⟨g,c,cur,h,_⟩
    .exact⟨none,0,h⟩
    .exact⟨_,_,h⟩
   refine(Tryz.slices_Contains_string_empty a c s w).mono ?_;rintro e w' ⟨rfl,rfl⟩;exact⟨rfl,rfl⟩
 | cons x r=>
   obtain⟨g,c,rfl⟩:∃g c,v=.slice (some ⟨g,0,none⟩) (x::r).length c:=by
    rcases hown.2 with ⟨_,h⟩|⟨g,c,cur,h,_⟩
    .simp at h
    .exact⟨_,_,h⟩
   refine(Tryz.slices_Contains_string g 0 (x::r).length c (x::r) s w La ya (fun j hj=>?_)).mono ?_
   .rw[Nat.zero_add,hown.cellAt j ya];rw[strs,List.getElem?_map,Lr hj,List.getD,Lr hj];rfl
   .rintro e w' ⟨rfl,rfl⟩;exact⟨by rw[isIn_contains,List.take_length],rfl⟩
def Fo.oks:Fo->List Bool
 |.none=> []
 |.tree n k r=>implKids k n.kind 0 []::(k.oks++r.oks)
theorem Fo.oks_length:∀f:Fo,f.oks.length=f.flat.length
 |.none=>rfl
 |.tree n k r=>by simp only[oks,flat,Ll,Lk,oks_length k,oks_length r]
theorem Fo.oks_all:∀f:Fo,implAll f=f.oks.all id
 |.none=>rfl
 |.tree n k r=>by simp only[implAll,oks,List.all_cons,List.all_append,oks_all k,oks_all r,id_eq]
theorem Fo.place:∀(f:Fo),f.wf-> ∀at_,at_<f.flat.length-> ∃(n:Nd) (k:Fo) (suf:List Nd),f.flat.drop at_=n::(k.flat++suf)/\n.kids=k.count/\k.wf/\f.oks.drop at_=implKids k n.kind 0 []::f.oks.drop (at_+1)
 |.none,_,at_,h=>by simp[flat]at h
 |.tree n k r,hw,0,_=>⟨n,k,r.flat,rfl,hw.1,hw.2.1,rfl⟩
 | .tree n k r,hw,j+1,h=>by
   simp only[flat,Ll,Lk]at h;simp only[flat,oks,List.drop_succ_cons];have lk:=oks_length k;by_cases hj:j<k.flat.length
   .obtain⟨n',k',suf,e1,e2,e3,e4⟩:=place k hw.2.1 j hj;refine⟨n',k',suf++r.flat,?_,e2,e3,?_⟩
    .rw[List.drop_append_of_le_length ya,e1];simp
    .rw[List.drop_append_of_le_length ya,List.drop_append_of_le_length ya,e4];rfl
   .obtain⟨n',k',suf,e1,e2,e3,e4⟩:=place r hw.2.2 (j-k.flat.length) ya;refine⟨n',k',suf,?_,e2,e3,?_⟩
    .rw[List.drop_append,List.drop_eq_nil_of_le ya,List.nil_append,e1]
    .rw[List.drop_append,List.drop_append,List.drop_eq_nil_of_le (show k.oks.length<=j by omega),List.drop_eq_nil_of_le (show k.oks.length<=j+1 by omega),List.nil_append,List.nil_append,lk,e4];congr 2
     omega
theorem kidsZ_false {k:Fo}(h:(clauseZ n.kind !=wantedZ pk i)=true):implKids (.tree n k r) pk i ops=false:=by
 simp only[implKids];have:(clauseZ n.kind==wantedZ pk i)=false:=by simpa[bne]using h
 rw[this,Bool.false_and]
theorem kidsZ_in {k:Fo}(h:isIn ops n.a=true):implKids (.tree n k r) pk i ops=false:=by
 simp only[implKids];rw[h,Bool.not_true,Bool.false_and,Bool.and_false]
theorem kidsZ_next {k:Fo}(h:(clauseZ n.kind !=wantedZ pk i)=false) (h':isIn ops n.a=false):implKids (.tree n k r) pk i ops=implKids r pk (i+1) (if n.kind=26 then ops++ [n.a] else ops):=by
 simp only[implKids];have:(clauseZ n.kind==wantedZ pk i)=true:=by simpa[bne]using h
 rw[this,h',Bool.not_false,Bool.true_and,Bool.true_and]
theorem turned {P:Program}{f:FuncId}{args:Array Value}{w:World}{v:Value}(h:Calls P f args w fun e w'=> e=.returned v/\w=w'):Calls P f args w fun e w'=> e=.returned v/\w'= w:=
 h.mono fun _ _ ⟨a,b⟩=>⟨a,b.symm⟩
theorem clausesOk_calls (b off cap:Nat) (ns:List Nd) (n0:Nd) (k0:Fo) (w:World) (hm:ns.length<=300) (hbw:b<w.heap.size) (hn:NodesAt w b off ns)
 (he:ns=n0::k0.flat) (hk0:n0.kids=k0.count) (hw0:k0.wf) :
 Calls prog 87 #[.slice (some ⟨b,off,none⟩) ns.length cap] w fun e w'=> e=.returned (.bool (implTree n0 k0))/\Below w.heap.size w w':= by
 have hl0:0<ns.length:=by rw[he];simp
 have c0:=hn 0 hl0 0 ya;have hg0:ns.getD 0 default=n0:=by rw[he];rfl
 rw[hg0]at c0;simp only[Nd.cell,Nat.add_zero,Nat.zero_mul]at c0;obtain⟨F,hF⟩:∃F:Fo,F=.tree n0 k0 .none:=⟨_,rfl⟩
 have hFf:F.flat=ns:=by rw[hF,he];simp[Fo.flat]
 have hFw:F.wf:=by rw[hF];exact⟨hk0,hw0,trivial⟩
 have hFo:F.oks.all id=(implKids k0 n0.kind 0 [] && implAll k0):=by
  rw[<-Fo.oks_all,hF];simp[implAll]
 have hFl:F.oks.length=ns.length:=by rw[Fo.oks_length,hFf]
 have hR0:implTree n0 k0=(if (clauseZ n0.kind !=0)=true then false else F.oks.all id):=by
  rw[hFo,implTree];by_cases h:clauseZ n0.kind=0<;>simp[h]
 rw[hR0];obtain⟨len,hlen⟩:∃len,ns.length=len:=⟨_,rfl⟩
 have Hlen:O (ns.length=len):=hlen;have HF:O (F.flat=ns/\F.wf/\F.oks.length=len):=⟨hFf,hFw,by rw[hFl,hlen]⟩
 have HN:O (NodesAt w b off ns):=hn;have HM:O (len<=300):=yp;rw[hlen]at hl0 |-;clear hF hFf hFw hFo hFl hR0 hg0 hn hm he hk0 hw0 hlen
 cases hc:(clauseZ n0.kind !=0) with
 | true=>
   go_enter func87,ntmps87
   go_wp2_with fail
   refine(z65 _ _).mono ?_;rintro e w2 ⟨rfl,rfl⟩;go_wp2_with fail
   go_ret;exact⟨rfl,Lb⟩
 | false=>
   rw[if_neg yq];obtain⟨R,hR⟩:∃R,F.oks.all id=R:=⟨_,rfl⟩
   rw[hR];have HR:O (F.oks.all id=R):=hR;clear hR;go_enter func87,ntmps87
   go_wp2_with fail
   refine(z65 _ _).mono ?_;rintro e w2 ⟨rfl,rfl⟩;go_wp2_with fail
   clear c0 hc;go_loopw [17] (fun i wr=> ∃at_:Nat,i=int i64 at_/\at_<=len/\O ((F.oks.drop at_).all id=R)/\Below w.heap.size w wr) (fun i _=>len-(intOf i).toNat)
   case atStart=>exact⟨0,rfl,Li _,HR.o,Lb⟩
   case round=>
    rename World=>wo
    obtain⟨at_,rfl,hle,HV,hbx⟩:=hrel;by_cases hlt:(at_:Int)<(len:Int)
    .obtain⟨n,k,suf,hp,hkc,hk,ho⟩:=Fo.place F HF.o.2.1 at_ (by rw[HF.o.1,Hlen.o];omega);rw[HF.o.1]at hp;have hV:=HV.o;rw[ho,List.all_cons,id_eq]at hV;obtain⟨V,hVV⟩:∃V,implKids k n.kind 0 []=V:=⟨_,rfl⟩
     rw[hVV]at hV;have HV1:O ((V && (F.oks.drop (at_+1)).all id)=R):=hV;have HVV:O (implKids k n.kind 0 []=V):=hVV;obtain⟨hpl,hnd,hp1⟩:=at_drop hp;have hnx:=HN.o.below hbx hbw;obtain⟨c0,c1,c2,c3,c4,c5⟩:=fsx (hnx at_ hpl);rw[hnd]at c0 c1 c2 c3 c4 c5;simp only[Nd.cell,Nat.add_zero]at c0 c1 c2 c3 c4 c5;have hkl:k.flat.length<=ns.length:=by
      have:(ns.drop (at_+1)).length=k.flat.length+suf.length:=je;rw[List.length_drop]at this;omega
     have hkk:=Fo.count_le k;rw[hkc]at c5;obtain⟨kc,hkcc⟩:∃kc,k.count=kc:=⟨_,rfl⟩
     have Hkc:O (k.count=kc):=hkcc;rw[hkcc]at c5 hkk;have H1:O (ns.drop (at_+1)=k.flat++suf):=hp1;have Hk:O k.wf:=hk;have HP:O (len<=300/\at_<len/\kc<=len):=⟨HM.o,ya,by have:=Hlen.o;omega⟩
     obtain⟨kd,num,a,bb,cc,kids⟩:=n;dsimp only at*;clear hp hkc hk ho hV hVV hpl hnd hp1 hnx hkl hkk hkcc HV HR;go_wp2_with fail
     rw[z30 jf];clear c0 c1 c2 c3 c4 c5;generalize hat1:at_+1=at1;have HA1:O (at_+1=at1):=hat1;clear hat1;go_loopw [5,6,26] (fun o q i wi=> ∃(q' i':Nat) (r:Fo) (ops:List ByteArray),q=int i64 q'/\i=int i64 i'/\O (ns.drop q'= r.flat++suf/\r.wf/\i'+ r.count=kc/\implKids r kd i' ops=V/\ops.length<=i')/\wi.ownsRow (wo.heap.size+1) 9 1 o ops.length (strs ops)/\wi.heap[wo.heap.size]?=some (.cells #[int i64 kd,int i64 num,.string a,.string bb,.string cc,int i64 kc] 68)/\Below wo.heap.size wo wi) (fun _ _ i _=>kc-(intOf i).toNat)
     case atStart=>
      exact⟨at1,0,k,[],rfl,rfl,⟨by rw[<-HA1.o];exact H1.o,Hk.o,jg,HVV.o,La⟩,World.ownsRow_nil _ _ _ _,(Ld wo _).1,Lb.alloc La _⟩
     case round=>
      obtain⟨q',i',r,ops,rfl,rfl,HQ,hown,eA,hnx⟩:=hrel;have a0:=z11 eA 0;simp at a0;have hltA:=z13 eA
      cases r with
      | none=>
        obtain⟨_,_,h1,h2,_⟩:=HQ.o;simp only[Fo.count,implKids]at h1 h2;have h1':i'= kc:=ya;subst h1' h2;clear HQ h1 HN H1 Hk eA hown;go_wp2_with fail
        have hs:=z55 hlt;rw[z30 jf];exact⟨⟨at_+1,rfl,ya,by have:=HV1.o;rwa[Bool.true_and]at this,hbx.trans (hnx.mono hbx.size)⟩,hs⟩
      | tree n' k' r'=>
        obtain⟨h0,hw,h1,h4,h5⟩:=HQ.o;obtain⟨hw0,hw1,hw2⟩:=hw;simp only[Fo.count]at h1;simp only[Fo.flat,Ln,Lo]at h0;obtain⟨hql,hqn,hq1⟩:=at_drop h0;have hwx:Below w.heap.size w wr:=hbx.trans (hnx.mono hbx.size);have hnw:NodesAt wr b off ns:=HN.o.below hwx hbw;have hend:treeEnd ns q'= _:=treeEnd_at h0 hw0 hw1;have hnew:=drop_past hq1;obtain⟨d0,d1,d2,d3,d4,d5⟩:=fsx (hnw q' hql);rw[hqn]at d0 d1 d2 d3 d4 d5;simp only[Nd.cell,Nat.add_zero]at d0 d1 d2 d3 d4 d5;have hi:(i':Int)<(kc:Int):=ya;have hqi:q'<len:=by have:=Hlen.o;omega
        have HX:O (ns.drop (q'+ 1+k'.flat.length)=r'.flat++suf/\r'.wf/\i'+ 1+r'.count=kc/\ops.length<=i'):=⟨hnew,hw2,ya,h5⟩
        have HE:O (treeEnd ns q'= ((q'+ 1+k'.flat.length:Nat):Int)):=hend;have HV2:O (implKids (.tree n' k' r') kd i' ops=V):=h4;obtain⟨kd',num',a',bb',cc',kids'⟩:=n';dsimp only at*;clear HQ h0 hw0 hw1 hw2 hql hqn hq1 hnw hend hnew h4 h5 h1
        cases hne:(clauseZ kd' !=wantedZ kd i') with
        | true=>
          have HB:O (V=false):=by show V=false;rw[<-HV2.o];exact kidsZ_false hne
          go_wp2_with fail
          go_quiet (first|(go_at_call 128;refine Calls.quiet_of_same (turned (z65 _ _)))|(go_at_call 129;refine Calls.quiet_of_same (turned (wanted_calls _ _ _))))
          go_wp2_with fail
          go_ret;refine⟨?_,hbx.trans (((hnx.alloc jh _).trans (z80 _ _ _)).mono hbx.size)⟩;have:=HV1.o;rw[HB.o,Bool.false_and]at this;rw[<-this];rfl
        | false=>
          have HG:isIn ops a'= false->O (implKids r' kd (i'+ 1) (if kd'= 26 then ops++ [a'] else ops)=V):=fun h=>by rw[<-HV2.o];exact(kidsZ_next (n:=⟨kd',num',a',bb',cc',kids'⟩) hne h).symm
          have HB:isIn ops a'= true->O (V=false):=fun h=>by rw[<-HV2.o];exact kidsZ_in (n:=⟨kd',num',a',bb',cc',kids'⟩) h
          have hopl:ops.length<=1000000:=by have:=HX.o;have:=HP.o;omega
          have hO:∀q,((wr.alloc (.cells #[int i64 kd',int i64 num',.string a',.string bb',.string cc',int i64 kids'] 68)).drewN q).ownsRow (wo.heap.size+1) 9 1 u5 ops.length (strs ops):=fun q=>owns_below (hown.alloc _) (z80 _ _ q)
          have HA:O (∀q,_):=fun q=>contains_calls _ _ ops a' _ hopl (hO q)
          have hK:∀q,((wr.alloc (.cells #[int i64 kd',int i64 num',.string a',.string bb',.string cc',int i64 kids'] 68)).drewN q).heap[wr.heap.size]?=some (.cells #[int i64 kd',int i64 num',.string a',.string bb',.string cc',int i64 kids'] 68):=fun q=>(Ld wr _).1
          have hE:∀q,((wr.alloc (.cells #[int i64 kd',int i64 num',.string a',.string bb',.string cc',int i64 kids'] 68)).drewN q).heap[wo.heap.size]?=some (.cells #[int i64 kd,int i64 num,.string a,.string bb,.string cc,int i64 kc] 68):=fun q=>(Below.heap_alloc _ _ _ hltA).trans eA
          have hBl:∀q,Below wo.heap.size wo ((wr.alloc (.cells #[int i64 kd',int i64 num',.string a',.string bb',.string cc',int i64 kids'] 68)).drewN q):=fun q=>(hnx.alloc jh _).trans (z80 _ _ _)
          have HO:O (∀q,_):=hO;have HK:O (∀q,_):=hK;have HEa:O (∀q,_):=hE;have HBl:O (∀q,_):=hBl;clear hO hK hE hBl
          cases hin:isIn ops a' with
          | true=>
            have HF2:=HB hin;rw[hin]at HA;clear HB HG;go_wp2_with fail
            go_quiet (first|(go_at_call 128;refine Calls.quiet_of_same (turned (z65 _ _)))|(go_at_call 129;refine Calls.quiet_of_same (turned (wanted_calls _ _ _)))|(go_at_call 130;refine Calls.quiet_of_same (turned (HA.o _))))
            go_wp2_with fail
            go_ret;refine⟨?_,hbx.trans ((HBl.o _).mono hbx.size)⟩;have:=HV1.o;rw[HF2.o,Bool.false_and]at this;rw[<-this];rfl
          | false=>
            have HG:=HG hin;rw[hin]at HA;clear HB;go_wp2_with fail
            go_quiet (first|(go_at_call 128;refine Calls.quiet_of_same (turned (z65 _ _)))|(go_at_call 129;refine Calls.quiet_of_same (turned (wanted_calls _ _ _)))|(go_at_call 130;refine Calls.quiet_of_same (turned (HA.o _))))
            have hownQ:=HO.o nq;have eK:=HK.o nq;have eQ:=HEa.o nq;have hbQ:=HBl.o nq;clear HO HK HEa HBl HA d0 d1 d2 d3 d4 d5 a0;generalize ((wr.alloc (.cells #[int i64 kd',int i64 num',.string a',.string bb',.string cc',int i64 kids'] 68)).drewN nq)=W3 at*;have hltK:=z13 eK;have hltQ:=z13 eQ;have k0':= z11 eK 0;have k2':= z11 eK 2;simp at k0' k2';have hwQ:Below w.heap.size w W3:=hbx.trans (hbQ.mono hbx.size);have HT:O (∀w,NodesAt w b off ns->_):=fun w h=>implEnd_calls b off cap ns q' w h (by have:=Hlen.o;have:=HM.o;omega) jo
            rw[HE.o,Hlen.o]at HT;generalize q'+ 1+k'.flat.length=ee at*;have hol:O (ops.length<=1048576):=yp;by_cases h26:kd'= 26
            .rw[if_pos h26]at HG;have h26':(kd'== 26)=true:=by rw[h26];rfl
             clear hin hne h26 eA hown hnx HV2 hopl hltA;obtain⟨i0,hinf,hz0,hz1,hz2⟩:=info_parts info_str;go_wp2_with (first
              | (at_builtin;refine wpList_append_own _ rfl _ _ 33 rfl (wo.heap.size+1) 9 i0 (.string ⟨#[]⟩) 1 16 underlying33 hinf hz0 hz1 hz2 rfl yk _ _ _ rfl (hownQ.alloc _) ⟨W3.heap.size,0,none⟩ 1 1 [.string a'] rfl rfl (z74 _ _ rfl _ _) (fun x hx=>jk) jl (by have:=hol.o;omega) jd ?_
                 intro v' w5 hown' hgrow hnil;have eA5:O (w5.heap[wo.heap.size]?=some (.cells #[int i64 kd,int i64 num,.string a,.string bb,.string cc,int i64 kc] 68)):=by
                  show w5.heap[wo.heap.size]?=_;rw[hgrow.block wo.heap.size jd (fun h=>by have:=(hownQ.lt _ h.symm).1;omega),Below.heap_alloc _ _ _ hltQ];exact eQ
                 have hbQ5:Below wo.heap.size wo w5:=Below.grown (hbQ.alloc ya _) hgrow jd (fun j hj=>by have:=(hownQ.lt _ hj).1;omega);have hnx5:Below w.heap.size w w5:=hbx.trans (hbQ5.mono hbx.size);clear hgrow hnil eQ eK k0' k2' hownQ hbQ hwQ))
             refine(HT.o w5 (HN.o.below hnx5 hbw)).mono ?_;rintro e w6 ⟨rfl,rfl⟩;go_wp2_with fail
             have hi9:i'<=1048576:=jf;try rw[z30 hi9]
             refine⟨⟨ee,i'+ 1,r',ops++ [a'],rfl,rfl,⟨HX.o.1,HX.o.2.1,HX.o.2.2.1,HG.o,?_⟩,?_,eA5.o,hbQ5⟩,z55 hi⟩
             .rw[Lk];exact Nat.succ_le_succ HX.o.2.2.2
             .rw[Lk,strs,List.map_append];exact hown'
            .rw[if_neg h26]at HG;have h26':(kd'== 26)=false:=by rw[beq_eq_false_iff_ne];exact h26
             clear hin hne h26 eA hown hnx HV2 hopl hltA;go_wp2_with fail
             refine(HT.o W3 (HN.o.below hwQ hbw)).mono ?_;rintro e w6 ⟨rfl,rfl⟩;go_wp2_with fail
             have hi9:i'<=1048576:=jf;try rw[z30 hi9]
             exact⟨⟨ee,i'+ 1,r',ops,rfl,rfl,⟨HX.o.1,HX.o.2.1,HX.o.2.2.1,HG.o,Nat.le_succ_of_le HX.o.2.2.2⟩,hownQ,eQ,hbQ⟩,z55 hi⟩
    .have e:at_=len:=by omega
     subst e;have hV:=HV.o;rw[List.drop_eq_nil_of_le (by rw[HF.o.2.2];exact La)]at hV;subst hV;clear HV HR;go_wp2_with fail
     go_ret;exact⟨rfl,hbx⟩
def Nd.nm (n:Nd):Nat->ByteArray
 |0=>n.a
 |1=>n.b
 |_=>n.c
def fit (nm:Int) (i:Nat) (s:ByteArray):Bool:=if (i:Int)<nm then nameOk s else s.toList== []
def kidsOk (k kids:Int):Bool:=if arityZ k= -1 then false else if arityZ k= -2 then decide (2<=kids/\kids<=6) else decide (kids=arityZ k)
def numOk (k num:Int):Bool:=decide (0<=num/\num<=mostZ k)
def namesOk (n:Nd):Bool:=fit (namesZ n.kind) 0 n.a && (fit (namesZ n.kind) 1 n.b && fit (namesZ n.kind) 2 n.c)
def unlike (n:Nd):Bool:=!(n.kind==20 && n.a.toList==n.b.toList)
def ownOk (n:Nd):Bool:=kidsOk n.kind n.kids && (namesOk n && (unlike n && numOk n.kind n.num))
theorem arity_range (k:Int):arityZ k= -1\/arityZ k= -2\/(0<=arityZ k/\arityZ k<=3):=by
 rcases kinds k with rfl|rfl|rfl|rfl|rfl|rfl|rfl|rfl|rfl|rfl|rfl|rfl|rfl|rfl|rfl|rfl|rfl|rfl|rfl|rfl|rfl|rfl|rfl|rfl|rfl|rfl|h
 all_goals try decide
 exact Or.inl (tab_other h)
theorem names_case (h:k=20):1<namesZ k:=by subst h;decide
theorem most_one:mostZ 1=999999999:=rfl
theorem most_two:mostZ 2=1:=rfl
theorem most_other (h1:k≠1) (h2:k≠2):mostZ k=0:=by
 rcases kinds k with rfl|rfl|rfl|rfl|rfl|rfl|rfl|rfl|rfl|rfl|rfl|rfl|rfl|rfl|rfl|rfl|rfl|rfl|rfl|rfl|rfl|rfl|rfl|rfl|rfl|rfl|h
 all_goals try(first|(exact absurd rfl h1)|(exact absurd rfl h2)|rfl)
 exact tab_other h
theorem num_one (h:0<=num):numOk 1 num=decide (num<=999999999):=by
 unfold numOk;rw[most_one];exact decide_eq_decide.2 ⟨fun x=>x.2,fun x=>⟨h,x⟩⟩
theorem num_one_neg (h:¬ 0<=num):numOk 1 num=false:=decide_eq_false (fun x=>h x.1)
theorem num_zero (h:mostZ k=0):numOk k num=(num==0):=by
 unfold numOk;rw[h,Bool.eq_iff_iff,decide_eq_true_iff,beq_iff_eq];omega
theorem empty_name {s:ByteArray}(h:(s.toList== [])=true):nameOk s=false:=by
 refine nameOk_size (fun hh=>?_);have h1:s.toList= []:=zx;rw[ByteArray.toList_eq]at h1;have h2:s.data.toList.length=0:=jp;rw[Array.length_toList]at h2;have:s.size=0:=h2;omega
theorem fit_all (h:∀i,i<3->fit (namesZ n.kind) i (n.nm i)=true):namesOk n=true:=by
 have h0:=h 0 ya;have h1:=h 1 ya;have h2:=h 2 ya;simp only[Nd.nm]at h0 h1 h2;simp[namesOk,h0,h1,h2]
theorem fit_none (hi:i<3) (h:fit (namesZ n.kind) i (n.nm i)=false):namesOk n=false:=by
 match i,hi,h with
 |0,_,h=>simp only[Nd.nm]at h;simp[namesOk,h]
 |1,_,h=>simp only[Nd.nm]at h;simp[namesOk,h]
 |2,_,h=>simp only[Nd.nm]at h;simp[namesOk,h]
theorem own_many (k num:Int) (a b c:ByteArray) (kids:Int) (w:World) (hK:kidsOk k kids=true) (h2:arityZ k= -2) (hk2:2<=kids) (hk6:kids<=6) :
 Calls prog 62 #[.agg #[int i64 k,int i64 num,.string a,.string b,.string c,int i64 kids]] w fun e w'=> e=.returned (.bool (ownOk ⟨k,num,a,b,c,kids⟩))/\Below w.heap.size w w':= by
 have HN:O (∀w,_):=names_calls k;have hac:=arity_calls k;rw[h2]at hac;have HC:O (∀w,_):=hac;clear hac h2;go_enter func62,ntmps62
 go_wp2_with (first|(go_at_call 107;refine(HC.o _).mono ?_;rintro e w2 ⟨rfl,rfl⟩))
 go_loopw [5] (fun i wr=> ∃j:Nat,i=int i64 j/\j<=3/\O (∀i,i<j->fit (namesZ k) i (Nd.nm ⟨k,num,a,b,c,kids⟩ i)=true)/\wr.heap[w.heap.size]?=some (.cells #[int i64 k,int i64 num,.string a,.string b,.string c,int i64 kids] 68)/\wr.heap[w.heap.size+1]?=some (.cells #[.string a,.string b,.string c] 9)/\Below w.heap.size w wr) (fun i _=>3-(intOf i).toNat)
 case atStart=>
  have e1:=(Ld w (.cells #[int i64 k,int i64 num,.string a,.string b,.string c,int i64 kids] 68)).1;refine⟨0,rfl,ya,fun i hi=>ya,?_,?_,(Lb.alloc La _).alloc yq _⟩
  .rw[Below.heap_alloc _ _ _ yq];exact e1
  .have:=(Ld (w.alloc (.cells #[int i64 k,int i64 num,.string a,.string b,.string c,int i64 kids] 68)) (.cells #[.string a,.string b,.string c] 9)).1;simpa using this
 case round=>
  obtain⟨j,rfl,hj3,HA,eA,eN,hnx⟩:=hrel;have a0:=z11 eA 0;simp at a0;have hltA:=z13 eA;have hltN:=z13 eN;by_cases hj:j<3
  ·have cN:wr.cell? ⟨w.heap.size+1,j,none⟩=some (.string (Nd.nm ⟨k,num,a,b,c,kids⟩ j)):=by
    rw[z11 eN j];match j,hj with
    |0,_=>rfl
    |1,_=>rfl
    |2,_=>rfl
   have step:fit (namesZ k) j (Nd.nm ⟨k,num,a,b,c,kids⟩ j)=true->O (∀i,i<j+1->fit (namesZ k) i (Nd.nm ⟨k,num,a,b,c,kids⟩ i)=true):=fun h i hi=>by
    by_cases e:i=j
    .rw[e];exact h
    .exact HA.o i ya
   have fin:fit (namesZ k) j (Nd.nm ⟨k,num,a,b,c,kids⟩ j)=false->O (ownOk ⟨k,num,a,b,c,kids⟩=false):=fun h=>by
    show ownOk _=false;have:=fit_none (n:=⟨k,num,a,b,c,kids⟩) hj h;simp[ownOk,this]
   have hLn:=specName_calls (Nd.nm ⟨k,num,a,b,c,kids⟩ j);have hem:= @empty_name (Nd.nm ⟨k,num,a,b,c,kids⟩ j);unfold fit at step fin;generalize Nd.nm ⟨k,num,a,b,c,kids⟩ j=s at*;generalize hnm:namesZ k=nm at*;refine zb47 ?_;intro eA' eN' hi3 htf hft;clear HA eA eN hnm;by_cases hjn:(j:Int)<nm
   .rw[if_pos hjn]at step fin
    cases he:(s.toList== []) with
    | true=>
      have HF:=fin (hem he);have HL:O (∀w,_):=hLn;clear hem step fin hLn;go_wp2_with fail
      go_quiet (first|(go_at_call 108;refine Calls.quiet_of_same ((HN.o _).mono (fun _ _ h=>⟨h.1,h.2.symm⟩))))
      go_wp2_with fail
      go_ret;exact⟨jj,below_drewN hnx _⟩
    | false=>
      cases hn:nameOk s with
      | true=>
        have HS:=step hn;rw[hn]at hLn;have HL:O (∀w,_):=hLn;clear hem step fin hLn hn;go_wp2_with fail
        go_region_held (fun w'=> w'.cell? ⟨w.heap.size,0,none⟩=some (int i64 k)/\w'.cell? ⟨w.heap.size+1,j,none⟩=some (.string s)) (go_keep) (first|(go_at_call 108;refine(HN.o _).mono ?_;rintro e w2 ⟨rfl,rfl⟩)|(go_at_call 24;refine(HL.o _).mono ?_;rintro e w2 ⟨rfl,hb2⟩;have a0':= (hb2.cell (p:=⟨w.heap.size,0,none⟩) hltA).trans a0;have cN':= (hb2.cell (p:=⟨w.heap.size+1,j,none⟩) hltN).trans cN))
        all_goals
         have eA2:=(hb2.block w.heap.size hltA).trans eA'.o;have eN2:=(hb2.block (w.heap.size+1) hltN).trans eN'.o;have hnx2:=hnx.drew.trans (hb2.mono hnx.size);clear hb2 a0 cN a0' cN';go_wp2_with fail
         exact⟨⟨j+1,yq,ya,HS,eA2,eN2,hnx2⟩,zu⟩
      | false=>
        have HF:=fin hn;rw[hn]at hLn;have HL:O (∀w,_):=hLn;clear hem step fin hLn hn;go_wp2_with fail
        go_region_held (fun w'=> w'.cell? ⟨w.heap.size,0,none⟩=some (int i64 k)/\w'.cell? ⟨w.heap.size+1,j,none⟩=some (.string s)) (go_keep) (first|(go_at_call 108;refine(HN.o _).mono ?_;rintro e w2 ⟨rfl,rfl⟩)|(go_at_call 24;refine(HL.o _).mono ?_;rintro e w2 ⟨rfl,hb2⟩;have a0':= (hb2.cell (p:=⟨w.heap.size,0,none⟩) hltA).trans a0;have cN':= (hb2.cell (p:=⟨w.heap.size+1,j,none⟩) hltN).trans cN))
        all_goals
         have hnx2:=hnx.drew.trans (hb2.mono hnx.size);clear hb2 a0 cN a0' cN';go_wp2_with fail
         go_ret;exact⟨jj,hnx2⟩
   .rw[if_neg hjn]at step fin;have hjd:decide ((j:Int)<nm)=false:=decide_eq_false hjn;have HL:O (∀w,_):=hLn
    cases he:(s.toList== []) with
    | true=>
      have HS:=step he;clear hem step fin hLn;go_wp2_with fail
      go_quiet (first|(go_at_call 108;refine Calls.quiet_of_same ((HN.o _).mono (fun _ _ h=>⟨h.1,h.2.symm⟩))))
      go_wp2_with fail
      exact⟨⟨j+1,yq,ya,HS,eA'.o,eN'.o,below_drewN hnx _⟩,zu⟩
    | false=>
      have HF:=fin he;clear hem step fin hLn;go_wp2_with fail
      go_quiet (first|(go_at_call 108;refine Calls.quiet_of_same ((HN.o _).mono (fun _ _ h=>⟨h.1,h.2.symm⟩))))
      go_wp2_with fail
      go_ret;exact⟨jj,below_drewN hnx _⟩
  .have hnames:namesOk ⟨k,num,a,b,c,kids⟩=true:=fit_all (fun i hi=>HA.o i ya);refine zb33 ?_;unhygienic intros
   clear HA eA eN hnames;generalize namesZ k=nm at*;by_cases h20:k=20
   .subst h20;have hnm1:1<nm:=hnc rfl
    cases hab:(a.toList==b.toList) with
    | true=>
      have HO:O (ownOk ⟨20,num,a,b,c,kids⟩=false):=jq;clear hO hnc hm0;go_wp2_with (first|(go_at_call 108;refine(HN.o _).mono ?_;rintro e w2 ⟨rfl,rfl⟩))
      go_ret;exact⟨ji,hnx⟩
    | false=>
      have HO:O (ownOk ⟨20,num,a,b,c,kids⟩=(num==0)):=by
       show _=_;rw[hO,hab,numOk,hm0 ya ya,Bool.eq_iff_iff];simp;omega
      clear hO hnc hm0;go_wp2_with (first|(go_at_call 108;refine(HN.o _).mono ?_;rintro e w2 ⟨rfl,rfl⟩))
      go_ret;exact⟨ji,hnx⟩
   .have h20':(k==20)=false:=by rw[beq_eq_false_iff_ne];exact h20
    rw[h20',Bool.false_and,Bool.not_false,Bool.true_and]at hO;clear hnc h20;by_cases h1:k=1
    .subst h1;by_cases hn0:0<=num
     ·have HO:O (ownOk ⟨1,num,a,b,c,kids⟩=decide (num<=999999999)):=by
       exact hO.trans (num_one hn0)
      clear hO hm0 h20';go_wp2_with (first|(go_at_call 108;refine(HN.o _).mono ?_;rintro e w2 ⟨rfl,rfl⟩))
      all_goals
       go_ret;exact⟨ji,hnx⟩
     ·have HO:O (ownOk ⟨1,num,a,b,c,kids⟩=false):=by
       exact hO.trans (num_one_neg hn0)
      clear hO hm0 h20';go_wp2_with (first|(go_at_call 108;refine(HN.o _).mono ?_;rintro e w2 ⟨rfl,rfl⟩))
      all_goals
       go_ret;exact⟨ji,hnx⟩
    .by_cases h2:k=2
     .subst h2;by_cases hn0:num=0
      .have hn0':(num==0)=true:=by rw[hn0];rfl
       have HO:O (ownOk ⟨2,num,a,b,c,kids⟩=true):=by
        show _=_;rw[hO,numOk,most_two];simp;omega
       clear hO hm0 h20' hn0;go_wp2_with (first|(go_at_call 108;refine(HN.o _).mono ?_;rintro e w2 ⟨rfl,rfl⟩))
       all_goals
        go_ret;exact⟨ji,hnx⟩
      .have hn0':(num==0)=false:=by rw[beq_eq_false_iff_ne];exact hn0
       have HO:O (ownOk ⟨2,num,a,b,c,kids⟩=(num==1)):=by
        show _=_;rw[hO,numOk,most_two,Bool.eq_iff_iff];simp;omega
       clear hO hm0 h20' hn0;go_wp2_with (first|(go_at_call 108;refine(HN.o _).mono ?_;rintro e w2 ⟨rfl,rfl⟩))
       all_goals
        go_ret;exact⟨ji,hnx⟩
     ·have HO:O (ownOk ⟨k,num,a,b,c,kids⟩=(num==0)):=by
       exact hO.trans (num_zero (hm0 h1 h2))
      have h1':(k==1)=false:=by rw[beq_eq_false_iff_ne];exact h1
      have h2':(k==2)=false:=by rw[beq_eq_false_iff_ne];exact h2
      clear hO hm0 h1 h2;go_wp2_with (first|(go_at_call 108;refine(HN.o _).mono ?_;rintro e w2 ⟨rfl,rfl⟩))
      all_goals
       go_ret;exact⟨ji,hnx⟩
def nodeOkZ (n:Nd):Bool:=ownOk n && !(n.kind==26 && n.b.toList==n.c.toList)
theorem shape_in (h:¬ (k<1\/26<k)):shapeVal k=.tuple #[.agg #[int i64 (namesZ k),int i64 (mostZ k),int i64 (leastZ k),int i64 (greatZ k)],.bool true]:=by rw[shapeVal,if_neg h]
theorem shape_out (h:k<1\/26<k):shapeVal k=.tuple #[.agg #[int i64 0,int i64 0,int i64 0,int i64 0],.bool false]:=by rw[shapeVal,if_pos h]
theorem own_out (h:n.kind<1\/26<n.kind):nodeOkZ n=false:=by
 have:arityZ n.kind= -1:=tab_other h;simp[nodeOkZ,ownOk,kidsOk,this]
theorem arity_in (h:¬ (k<1\/26<k)):arityZ k≠ -1:=by
 rcases kinds k with rfl|rfl|rfl|rfl|rfl|rfl|rfl|rfl|rfl|rfl|rfl|rfl|rfl|rfl|rfl|rfl|rfl|rfl|rfl|rfl|rfl|rfl|rfl|rfl|rfl|rfl|hh
 all_goals try decide
 exact absurd hh h
theorem kids_in {kids:Int}(h:¬ (k<1\/26<k)):kidsOk k kids=decide (leastZ k<=kids/\kids<=greatZ k):=by
 unfold kidsOk leastZ greatZ;rw[if_neg (arity_in h)];by_cases h2:arityZ k= -2
 .rw[if_pos h2,if_pos h2,if_pos h2]
 .rw[if_neg h2,if_neg h2,if_neg h2];exact decide_eq_decide.2 ⟨fun x=>ya,fun x=>ya⟩
theorem nodeOk_loop (k num:Int) (a b c:ByteArray) (kids:Int) (w:World) (ha:a.size<=maxLen) (hb:b.size<=maxLen) (hc:c.size<=maxLen) (nm mo le gr:Int)
 (hsh:∀w,Calls prog 127 #[int i64 k] w fun e w'=> e=.returned (.tuple #[.agg #[int i64 nm,int i64 mo,int i64 le,int i64 gr],.bool true])/\Below w.heap.size w w')
 (h1:0<=num) (h2:num<=mo) (h3:le<=kids) (h4:kids<=gr) (hnm:O (nm=namesZ k)) (hK:kidsOk k kids=true) (hN:numOk k num=true) :
 Calls prog 85 #[.agg #[int i64 k,int i64 num,.string a,.string b,.string c,int i64 kids]] w fun e w'=> e=.returned (.bool (nodeOkZ ⟨k,num,a,b,c,kids⟩))/\Below w.heap.size w w':= by
 have HS:O (∀w,_):=hsh;clear hsh;have HK:O (kidsOk k kids=true):=hK;have HM:O (numOk k num=true):=hN;clear hK hN;go_enter func85,ntmps85
 go_wp2_with (first|(go_at_call 127;refine(HS.o _).mono ?_;rintro e w2 ⟨rfl,hb2⟩;obtain⟨eA,hnx⟩:=one_kept hb2;clear hb2;have hltA:=z13 eA;have a0:=z11 eA 0;have a1:=z11 eA 1;have a2:=z11 eA 2;have a3:=z11 eA 3;have a4:=z11 eA 4;have a5:=z11 eA 5;simp at a0 a1 a2 a3 a4 a5))
 clear a0 a1 a2 a3 a4 a5;go_loopw [49] (fun i wr=> ∃j:Nat,i=int i64 j/\j<=3/\O (∀i,i<j->fit nm i (Nd.nm ⟨k,num,a,b,c,kids⟩ i)=true)/\wr.heap[w.heap.size]?=some (.cells #[int i64 k,int i64 num,.string a,.string b,.string c,int i64 kids] 68)/\wr.heap[w2.heap.size]?=some (.cells #[int i64 nm,int i64 mo,int i64 le,int i64 gr] 213)/\wr.heap[w2.heap.size+1]?=some (.cells #[.string a,.string b,.string c] 9)/\Below w.heap.size w wr) (fun i _=>3-(intOf i).toNat)
 case atStart=>
  refine⟨0,rfl,ya,fun i hi=>ya,?_,?_,?_,(hnx.alloc jh _).alloc (by have:=hnx.size;simp;omega) _⟩
  .rw[Below.heap_alloc _ _ _ jd,Below.heap_alloc _ _ _ hltA];exact eA
  .rw[Below.heap_alloc _ _ _ yq];exact(Ld w2 _).1
  .have:=(Ld (w2.alloc (.cells #[int i64 nm,int i64 mo,int i64 le,int i64 gr] 213)) (.cells #[.string a,.string b,.string c] 9)).1;simpa using this
 case round=>
  obtain⟨j,rfl,hj3,HA,eA,eS,eN,hnx⟩:=hrel;have s0:=z11 eS 0;simp at s0;have hltA:=z13 eA;have hltS:=z13 eS;have hltN:=z13 eN;by_cases hj:j<3
  .have hi3:(j:Int)<3:=by omega
   have cN:wr.cell? ⟨w2.heap.size+1,j,none⟩=some (.string (Nd.nm ⟨k,num,a,b,c,kids⟩ j)):=by
    rw[z11 eN j];match j,hj with
    |0,_=>rfl
    |1,_=>rfl
    |2,_=>rfl
   have hsj:(Nd.nm ⟨k,num,a,b,c,kids⟩ j).size<=maxLen:=by
    match j,hj with
    |0,_=>exact ha
    |1,_=>exact hb
    |2,_=>exact hc
   have step:fit nm j (Nd.nm ⟨k,num,a,b,c,kids⟩ j)=true->O (∀i,i<j+1->fit nm i (Nd.nm ⟨k,num,a,b,c,kids⟩ i)=true):=fun h i hi=>by
    by_cases e:i=j
    .rw[e];exact h
    .exact HA.o i ya
   have fin:fit nm j (Nd.nm ⟨k,num,a,b,c,kids⟩ j)=false->O (nodeOkZ ⟨k,num,a,b,c,kids⟩=false):=fun h=>by
    show nodeOkZ _=false;rw[hnm.o]at h;have:=fit_none (n:=⟨k,num,a,b,c,kids⟩) hj h;simp[nodeOkZ,ownOk,this]
   have hLn:=implName_calls (Nd.nm ⟨k,num,a,b,c,kids⟩ j) hsj;unfold fit at step fin;generalize Nd.nm ⟨k,num,a,b,c,kids⟩ j=s at*;have eA':O (wr.heap[w.heap.size]?=some (.cells #[int i64 k,int i64 num,.string a,.string b,.string c,int i64 kids] 68)):=eA;have eS':O (wr.heap[w2.heap.size]?=some (.cells #[int i64 nm,int i64 mo,int i64 le,int i64 gr] 213)):=eS;have eN':O (wr.heap[w2.heap.size+1]?=some (.cells #[.string a,.string b,.string c] 9)):=eN;clear HA eA eS eN;have HL:O (∀w,_):=hLn;clear hLn;by_cases hjn:(j:Int)<nm
   .rw[if_pos hjn]at step fin;have hjd:decide (nm<=(j:Int))=false:=decide_eq_false ya
    cases hn:nameOk s with
    | true=>
      have HT:=step hn;clear step fin;rw[hn]at HL;go_wp2_with (first|(go_at_call 38;refine(HL.o _).mono ?_;rintro e w3 ⟨rfl,hb3⟩;have s0':= (hb3.cell (p:=⟨w2.heap.size,0,none⟩) hltS).trans s0))
      all_goals
       have eA2:=(hb3.block w.heap.size hltA).trans eA'.o;have eS2:=(hb3.block w2.heap.size hltS).trans eS'.o;have eN2:=(hb3.block (w2.heap.size+1) hltN).trans eN'.o;have hnx2:=hnx.trans (hb3.mono hnx.size);exact⟨⟨j+1,yq,ya,HT,eA2,eS2,eN2,hnx2⟩,zu⟩
    | false=>
      have HF:=fin hn;clear step fin;rw[hn]at HL;go_wp2_with (first|(go_at_call 38;refine(HL.o _).mono ?_;rintro e w3 ⟨rfl,hb3⟩;have s0':= (hb3.cell (p:=⟨w2.heap.size,0,none⟩) hltS).trans s0))
      all_goals
       have hnx2:=hnx.trans (hb3.mono hnx.size);go_ret;exact⟨jj,hnx2⟩
   .rw[if_neg hjn]at step fin;have hjd:decide (nm<=(j:Int))=true:=decide_eq_true ya
    cases he:(s.toList== []) with
    | true=>
      have HT:=step he;clear step fin;go_wp2_with fail
      all_goals exact⟨⟨j+1,yq,ya,HT,eA'.o,eS'.o,eN'.o,hnx⟩,zu⟩
    | false=>
      have HF:=fin he;clear step fin;go_wp2_with fail
      all_goals
       go_ret;exact⟨jj,hnx⟩
  .have hnames:namesOk ⟨k,num,a,b,c,kids⟩=true:=fit_all (fun i hi=>by have:=HA.o i ya;rw[hnm.o]at this;exact this);have hO:nodeOkZ ⟨k,num,a,b,c,kids⟩=(!(k==20 && a.toList==b.toList) && !(k==26 && b.toList==c.toList)):=by simp[nodeOkZ,ownOk,HK.o,HM.o,hnames,unlike]
   have a0:=z11 eA 0;have a2:=z11 eA 2;have a3:=z11 eA 3;have a4:=z11 eA 4;simp at a0 a2 a3 a4;clear HA eA eS eN hnames s0 HK HM hnm HS;by_cases h20:k=20
   .subst h20
    cases hab:(a.toList==b.toList) with
    | true=>
      have HO:O (nodeOkZ ⟨20,num,a,b,c,kids⟩=false):=jq;clear hO;go_wp2_with fail
      all_goals
       go_ret;exact⟨ji,hnx⟩
    | false=>
      have HO:O (nodeOkZ ⟨20,num,a,b,c,kids⟩=true):=jq;clear hO;go_wp2_with fail
      all_goals
       go_ret;exact⟨ji,hnx⟩
   .have h20':(k==20)=false:=by rw[beq_eq_false_iff_ne];exact h20
    by_cases h26:k=26
    .subst h26;have HO:O (nodeOkZ ⟨26,num,a,b,c,kids⟩=!(b.toList==c.toList)):=by show _=_;rw[hO];rfl
     clear hO h20 h20';go_wp2_with fail
     all_goals
      go_ret;exact⟨ji,hnx⟩
    .have h26':(k==26)=false:=by rw[beq_eq_false_iff_ne];exact h26
     have HO:O (nodeOkZ ⟨k,num,a,b,c,kids⟩=true):=by show _=_;rw[hO,h20',h26'];rfl
     clear hO h20 h26;go_wp2_with fail
     all_goals
      go_ret;exact⟨ji,hnx⟩
theorem nodeOk_calls (n:Nd) (w:World) (ha:n.a.size<=maxLen) (hb:n.b.size<=maxLen) (hc:n.c.size<=maxLen) :
 Calls prog 85 #[.agg #[int i64 n.kind,int i64 n.num,.string n.a,.string n.b,.string n.c,int i64 n.kids]] w fun e w'=> e=.returned (.bool (nodeOkZ n))/\Below w.heap.size w w':= by
 obtain⟨k,num,a,b,c,kids⟩:=n;dsimp only at*;have hsh:=shape_calls k;by_cases hk:k<1\/26<k
 .have HO:O (nodeOkZ ⟨k,num,a,b,c,kids⟩=false):=own_out hk;rw[shape_out hk]at hsh;have HS:O (∀w,_):=hsh;clear hsh hk;go_enter func85,ntmps85
  go_wp2_with (first|(go_at_call 127;refine(HS.o _).mono ?_;rintro e w2 ⟨rfl,hb2⟩;obtain⟨eA,hnx⟩:=one_kept hb2;clear hb2))
  all_goals
   go_ret;exact⟨ji,hnx.alloc hnx.size _⟩
 .rw[shape_in hk]at hsh;have hN:numOk k num=decide (0<=num/\num<=mostZ k):=rfl;have hK:=kids_in (kids:=kids) hk;by_cases h1:(0<=num/\num<=mostZ k)/\(leastZ k<=kids/\kids<=greatZ k)
  .exact nodeOk_loop k num a b c kids w ha hb hc _ _ _ _ hsh h1.1.1 h1.1.2 h1.2.1 h1.2.2 rfl (by rw[hK];exact decide_eq_true h1.2) (by rw[hN];exact decide_eq_true h1.1)
  ·have HO:O (nodeOkZ ⟨k,num,a,b,c,kids⟩=false):=by
    show _=_;rw[nodeOkZ,ownOk,hK,hN];by_cases h2:0<=num/\num<=mostZ k
    .have h3:¬ (leastZ k<=kids/\kids<=greatZ k):=fun h=>h1 ⟨h2,h⟩
     simp only[decide_eq_false h3,Bool.false_and]
    .simp only[decide_eq_false h2,Bool.and_false,Bool.false_and]
   clear hN hK;generalize mostZ k=mo at*;generalize leastZ k=le at*;generalize greatZ k=gr at*;generalize namesZ k=nm at*;have HS:O (∀w,_):=hsh;have h1':num<0\/mo<num\/kids<le\/gr<kids:=ya;clear hsh h1 hk;have hb1:(decide (num<0) || decide (mo<num) || decide (kids<le) || decide (gr<kids))=true:=by
    simp only[Bool.or_eq_true,decide_eq_true_eq];omega
   clear h1';go_enter func85,ntmps85
   go_wp2_with (first|(go_at_call 127;refine(HS.o _).mono ?_;rintro e w2 ⟨rfl,hb2⟩;obtain⟨eA,hnx⟩:=one_kept hb2;clear hb2;have hltA:=z13 eA;have a1:=z11 eA 1;have a5:=z11 eA 5;simp at a1 a5))
   all_goals
    go_ret;exact⟨ji,hnx.alloc hnx.size _⟩
end
section
open Go.RowKit Go.Deep
def SpecAns (ns:List Nd) (R:Bool):Prop:=
 (¬ (1<=ns.length/\ns.length<=300)/\R=false)\/
 (1<=ns.length/\ns.length<=300/\treeEnd ns 0≠ns.length/\R=false)\/
 (1<=ns.length/\ns.length<=300/\ ∃n k,ns=n::k.flat/\n.kids=k.count/\k.wf/\R=(ns.all ownOk && (decide (k.deep+1<=40) && specTree n k 0)))
def ImplAns (ns:List Nd) (R:Bool):Prop:=
 (¬ (1<=ns.length/\ns.length<=300)/\R=false)\/
 (1<=ns.length/\ns.length<=300/\treeEnd ns 0≠ns.length/\R=false)\/
 (1<=ns.length/\ns.length<=300/\ ∃n k,ns=n::k.flat/\n.kids=k.count/\k.wf/\R=(ns.all nodeOkZ && (implTree n k && decide (k.deep+1<=40))))
theorem all_both {α:Type}(p q:α->Bool):∀l:List α,l.all (fun x=>p x && q x)=(l.all p && l.all q)
 |[]=>rfl
 | x::l=>by
   simp only[List.all_cons,all_both p q l]
   cases p x<;>cases q x<;>cases l.all p<;>cases l.all q<;>rfl
theorem answers (ns:List Nd):∃R,SpecAns ns R/\ImplAns ns R:=by
 by_cases hl:1<=ns.length/\ns.length<=300
 .by_cases he:treeEnd ns 0=ns.length
  .obtain⟨n,k,h1,h2,h3⟩:=tree_of he;refine⟨_,Or.inr (Or.inr ⟨hl.1,hl.2,n,k,h1,h2,h3,rfl⟩),Or.inr (Or.inr ⟨hl.1,hl.2,n,k,h1,h2,h3,?_⟩)⟩;have e:ns.all nodeOkZ=(ns.all ownOk && ns.all ok26):=all_both ownOk ok26 ns;rw[e,trees_eq,<-h1]
   cases ns.all ownOk<;>cases ns.all ok26<;>cases implTree n k<;>cases decide (k.deep+1<=40)<;>rfl
  .exact⟨false,Or.inr (Or.inl ⟨hl.1,hl.2,he,rfl⟩),Or.inr (Or.inl ⟨hl.1,hl.2,he,rfl⟩)⟩
 .exact⟨false,Or.inl ⟨hl,rfl⟩,Or.inl ⟨hl,rfl⟩⟩
theorem fits_of_own (h:ownOk n=true):Fits n n.kids.toNat:=by
 have hk:kidsOk n.kind n.kids=true:=by
  simp only[ownOk,Lq]at h;exact h.1
 have hr:¬ (n.kind<1\/26<n.kind):=by
  intro hx;have:arityZ n.kind= -1:=tab_other hx;simp[kidsOk,this]at hk
 unfold kidsOk at hk;have ha:=arity_range n.kind;split at hk
 .cases hk
 .rename_i h1;split at hk
  .rename_i h2;have hk:=of_decide_eq_true hk;refine⟨?_,?_,ya,ya⟩
   .rw[leastZ,if_pos h2];omega
   .rw[greatZ,if_pos h2];omega
  .rename_i h2;have hk:=of_decide_eq_true hk;refine⟨?_,?_,ya,ya⟩
   .rw[leastZ,if_neg h2];omega
   .rw[greatZ,if_neg h2];omega
theorem end_of_tree {k:Fo}(h1:ns=n::k.flat) (h2:n.kids=k.count) (h3:k.wf):treeEnd ns 0=(ns.length:Int):=by
 have:=treeEnd_at (ns:=ns) (p:=0) (n:=n) (k:=k) (suf:= []) (by rw[h1];simp) h2 h3;rw[show((0:Nat):Int)=0 from rfl]at this;rw[this,h1];simp;omega
theorem all_take_succ {p:Nd->Bool}(hi:i<ns.length) (h:(ns.take i).all p=true) (hn:p (ns.getD i default)=true):(ns.take (i+1)).all p=true:=by
 rw[List.take_succ_eq_append_getElem hi,List.all_append,h];simp only[List.getD,Lr hi]at hn;simpa using hn
theorem all_false {p:Nd->Bool}(hi:i<ns.length) (hn:p (ns.getD i default)=false):ns.all p=false:=by
 rw[List.all_eq_false];simp only[List.getD,Lr hi]at hn;exact⟨ns[i],List.getElem_mem _,by simpa using hn⟩
def Rest (ns:List Nd) (R:Bool) (own:Nd->Bool) (tr:Nd->Fo->Bool):Prop:=
 (ns.all own=false->R=false)/\(ns.all own=true->(treeEnd ns 0≠(ns.length:Int)/\R=false)\/ ∃n k,ns=n::k.flat/\n.kids=k.count/\k.wf/\treeEnd ns 0=(ns.length:Int)/\R=(tr n k && decide (k.deep+1<=40)))
theorem SpecAns.rest {R:Bool}(h:SpecAns ns R) (hl:1<=ns.length/\ns.length<=300):Rest ns R ownOk (fun n k=>specTree n k 0):=by
 rcases h with ⟨h,_⟩|⟨_,_,he,hR⟩|⟨_,_,n,k,h1,h2,h3,hR⟩
 .exact absurd hl h
 .exact⟨fun _=>hR,fun _=>Or.inl ⟨he,hR⟩⟩
 .refine⟨fun h=>by rw[hR,h,Bool.false_and],fun h=>Or.inr ⟨n,k,h1,h2,h3,end_of_tree h1 h2 h3,?_⟩⟩;rw[hR,h,Bool.true_and,Bool.and_comm]
theorem ImplAns.rest {R:Bool}(h:ImplAns ns R) (hl:1<=ns.length/\ns.length<=300):Rest ns R nodeOkZ implTree:=by
 rcases h with ⟨h,_⟩|⟨_,_,he,hR⟩|⟨_,_,n,k,h1,h2,h3,hR⟩
 .exact absurd hl h
 .exact⟨fun _=>hR,fun _=>Or.inl ⟨he,hR⟩⟩
 .refine⟨fun h=>by rw[hR,h,Bool.false_and],fun h=>Or.inr ⟨n,k,h1,h2,h3,end_of_tree h1 h2 h3,?_⟩⟩;rw[hR,h,Bool.true_and]
theorem flat_inj:∀(f g:Fo),f.wf->g.wf->f.count=g.count-> ∀(a b:List Nd),f.flat++a=g.flat++b->f=g/\a=b
 |.none,.none,_,_,_,a,b,h=>⟨rfl,h⟩
 |.none,.tree _ _ _,_,_,hc,_,_,_=>by simp[Fo.count]at hc
 |.tree _ _ _,.none,_,_,hc,_,_,_=>by simp[Fo.count]at hc
 | .tree n k r,.tree n' k' r',hf,hg,hc,a,b,h=>by
   simp only[Fo.flat,Ln,List.cons.injEq,Lo]at h;obtain⟨rfl,h⟩:=h;have h1:=hf.1;have h2:=hg.1;obtain⟨rfl,h4⟩:=flat_inj k k' hf.2.1 hg.2.1 ya _ _ h;obtain⟨rfl,h5⟩:=flat_inj r r' hf.2.2 hg.2.2 (by simp only[Fo.count]at hc;omega) _ _ h4;exact⟨rfl,h5⟩
theorem tree_inj {n':Nd}{k k':Fo}(h1:ns=n::k.flat) (h2:n.kids=k.count) (h3:k.wf) (e1:ns=n':: k'.flat) (e2:n'.kids=k'.count) (e3:k'.wf):n'= n/\k'= k:=by
 rw[h1]at e1;simp only[List.cons.injEq]at e1;obtain⟨rfl,e1⟩:=e1;obtain⟨rfl,-⟩:=flat_inj k k' h3 e3 ya [] [] (by simpa using e1);exact⟨rfl,rfl⟩
theorem place_of:∀(f:Fo) (p:Nat),f.wf->p<f.flat.length-> ∃(n:Nd) (k:Fo) (suf:List Nd),f.flat.drop p=n::(k.flat++suf)/\n.kids=k.count/\k.wf
 |.none,p,_,h=>by simp[Fo.flat]at h
 |.tree n k r,0,hw,_=>⟨n,k,r.flat,rfl,hw.1,hw.2.1⟩
 | .tree n k r,p+1,hw,h=>by
   simp only[Fo.flat,Ll,Lk,List.drop_succ_cons]at h |-;by_cases hp:p<k.flat.length
   .obtain⟨m,kk,suf,e,h1,h2⟩:=place_of k p hw.2.1 hp;refine⟨m,kk,suf++r.flat,?_,h1,h2⟩;rw[List.drop_append_of_le_length ya,e];simp
   .obtain⟨m,kk,suf,e,h1,h2⟩:=place_of r (p-k.flat.length) hw.2.2 ya;refine⟨m,kk,suf,?_,h1,h2⟩;rw[List.drop_append,e];simp[List.drop_eq_nil_of_le (by omega:k.flat.length<=p)]
theorem end_in {k:Fo}(h1:ns=n::k.flat) (h2:n.kids=k.count) (h3:k.wf) {p:Nat}(hp:p<ns.length):∃e:Nat,treeEnd ns (p:Int)=(e:Int)/\p<e/\e<=ns.length:=by
 have hf:(Fo.tree n k .none).flat=ns:=by rw[h1];simp[Fo.flat]
 obtain⟨m,kk,suf,e,g1,g2⟩:=place_of (.tree n k .none) p ⟨h2,h3,trivial⟩ (by rw[hf];exact hp);rw[hf]at e;refine⟨p+1+kk.flat.length,treeEnd_at e g1 g2,ya,?_⟩;have:=congrArg List.length e;simp only[List.length_drop,Ll,Lk]at this;omega
end
section
open Go.RowKit
theorem info_node:(prog.info? 68).map (fun i=>(i.zero,i.size,i.bytes))=some (some (.agg #[int i64 0,int i64 0,.string ByteArray.empty,.string ByteArray.empty,.string ByteArray.empty,int i64 0]),6,72):=ye
end
section
open Go.RowKit Go.Deep Go.ChangeShapes Go.WideShapes
def NodeSlice (w:World) (v:Value) (ns:List Nd):Prop:=
 ∃a cap,v=.slice a ns.length cap/\(ns= []\/ ∃b off,a=some ⟨b,off,none⟩/\b<w.heap.size/\NodesAt w b off ns)
section
variable {H:Type}{enc:TypeId×Value->H}{W:World}{sp:Nat->Bool}{held:Bool}
end
structure Ef where
 name:ByteArray
 arg:Int
 res:Int
instance:Inhabited Ef:=⟨⟨ByteArray.empty,0,0⟩⟩
def Ef.cell (n:Ef):Nat->Value
 |0=> .string n.name
 |1=>int i64 n.arg
 |_=>int i64 n.res
def EffsAt (w:World) (b off:Nat) (es:List Ef):Prop:=
 ∀k,k<es.length-> ∀c,c<3->w.cell? ⟨b,off+k*3+c,none⟩=some ((es.getD k default).cell c)
theorem EffsAt.below {w w':World}{b off B:Nat}{es:List Ef}(h:EffsAt w b off es) (hb:Below B w w') (hB:b<B):EffsAt w' b off es:=
 fun k hk c hc=>(hb.cell hB).trans (h k hk c hc)
end
end Go.Proofs.YtbbffkiobmbkfaaGreatDoor
