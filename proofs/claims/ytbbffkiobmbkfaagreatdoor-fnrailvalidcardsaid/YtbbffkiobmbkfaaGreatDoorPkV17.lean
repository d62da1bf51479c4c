import Derived.Test.YtbbffkiobmbkfaaGreatDoorPkV16
open Go.Proofs.Tryz
open Go.Value Go.IntKind
set_option maxHeartbeats 8000000
set_option maxRecDepth 100000
namespace Go.Proofs.YtbbffkiobmbkfaaGreatDoor
section
open Go.RowKit
theorem own_some (k num:Int) (a b c:ByteArray) (kids:Int) (w:World) (hK:kidsOk k kids=true) (ar:Int) (har:arityZ k=ar) (h0:0<=ar) (h3:ar<=3) (hne:(kids !=ar)=false) :
 Calls prog 62 #[.agg #[int i64 k,int i64 num,.string a,.string b,.string c,int i64 kids]] w fun e w'=> e=.returned (.bool (ownOk ⟨k,num,a,b,c,kids⟩))/\Below w.heap.size w w':= by
 have HN:O (∀w,_):=names_calls k;have hac:=arity_calls k;rw[har]at hac;have HC:O (∀w,_):=hac;have hm1:(ar== -1)=false:=jn;have hm2:(ar== -2)=false:=jn;clear hac har;go_enter func62,ntmps62
 go_wp2_with (first|(go_at_call 107;refine(HC.o _).mono ?_;rintro e w2 ⟨rfl,rfl⟩))
 go_loopw [5] (fun i wr=> ∃j:Nat,i=int i64 j/\j<=3/\O (∀i,i<j->fit (namesZ k) i (Nd.nm ⟨k,num,a,b,c,kids⟩ i)=true)/\wr.heap[w.heap.size]?=some (.cells #[int i64 k,int i64 num,.string a,.string b,.string c,int i64 kids] 68)/\wr.heap[w.heap.size+1]?=some (.cells #[.string a,.string b,.string c] 9)/\Below w.heap.size w wr) (fun i _=>3-(intOf i).toNat)
 case atStart=>
  have e1:=(Ld w (.cells #[int i64 k,int i64 num,.string a,.string b,.string c,int i64 kids] 68)).1;refine⟨0,rfl,ya,fun i hi=>ya,?_,?_,(Lb.alloc La _).alloc yq _⟩
  .rw[Below.heap_alloc _ _ _ yq];exact e1
  .have:=(Ld (w.alloc (.cells #[int i64 k,int i64 num,.string a,.string b,.string c,int i64 kids] 68)) (.cells #[.string a,.string b,.string c] 9)).1;simpa using this
 case round=>
  obtain⟨j,rfl,hj3,HA,eA,eN,hnx⟩:=hrel;have a0:=z11 eA 0;simp at a0;have hltA:=z13 eA;have hltN:=z13 eN;by_cases hj:j<3
  ·have cN:wr.cell? ⟨w.heap.size+1,j,none⟩=some (.string (Nd.nm ⟨k,num,a,b,c,kids⟩ j)):=by
    rw[z11 eN j];match j,hj with
    |0,_=>rfl
    |1,_=>rfl
    |2,_=>rfl
   have step:fit (namesZ k) j (Nd.nm ⟨k,num,a,b,c,kids⟩ j)=true->O (∀i,i<j+1->fit (namesZ k) i (Nd.nm ⟨k,num,a,b,c,kids⟩ i)=true):=fun h i hi=>by
    by_cases e:i=j
    .rw[e];exact h
    .exact HA.o i ya
   have fin:fit (namesZ k) j (Nd.nm ⟨k,num,a,b,c,kids⟩ j)=false->O (ownOk ⟨k,num,a,b,c,kids⟩=false):=fun h=>by
    show ownOk _=false;have:=fit_none (n:=⟨k,num,a,b,c,kids⟩) hj h;simp[ownOk,this]
   have hLn:=specName_calls (Nd.nm ⟨k,num,a,b,c,kids⟩ j);have hem:= @empty_name (Nd.nm ⟨k,num,a,b,c,kids⟩ j);unfold fit at step fin;generalize Nd.nm ⟨k,num,a,b,c,kids⟩ j=s at*;generalize hnm:namesZ k=nm at*;refine zb47 ?_;intro eA' eN' hi3 htf hft;clear HA eA eN hnm;by_cases hjn:(j:Int)<nm
   .rw[if_pos hjn]at step fin
    cases he:(s.toList== []) with
    | true=>
      have HF:=fin (hem he);have HL:O (∀w,_):=hLn;clear hem step fin hLn;go_wp2_with fail
      go_quiet (first|(go_at_call 108;refine Calls.quiet_of_same ((HN.o _).mono (fun _ _ h=>⟨h.1,h.2.symm⟩))))
      go_wp2_with fail
      go_ret;exact⟨jj,below_drewN hnx _⟩
    | false=>
      cases hn:nameOk s with
      | true=>
        have HS:=step hn;rw[hn]at hLn;have HL:O (∀w,_):=hLn;clear hem step fin hLn hn;go_wp2_with fail
        go_region_held (fun w'=> w'.cell? ⟨w.heap.size,0,none⟩=some (int i64 k)/\w'.cell? ⟨w.heap.size+1,j,none⟩=some (.string s)) (go_keep) (first|(go_at_call 108;refine(HN.o _).mono ?_;rintro e w2 ⟨rfl,rfl⟩)|(go_at_call 24;refine(HL.o _).mono ?_;rintro e w2 ⟨rfl,hb2⟩;have a0':= (hb2.cell (p:=⟨w.heap.size,0,none⟩) hltA).trans a0;have cN':= (hb2.cell (p:=⟨w.heap.size+1,j,none⟩) hltN).trans cN))
        all_goals
         have eA2:=(hb2.block w.heap.size hltA).trans eA'.o;have eN2:=(hb2.block (w.heap.size+1) hltN).trans eN'.o;have hnx2:=hnx.drew.trans (hb2.mono hnx.size);clear hb2 a0 cN a0' cN';go_wp2_with fail
         exact⟨⟨j+1,yq,ya,HS,eA2,eN2,hnx2⟩,zu⟩
      | false=>
        have HF:=fin hn;rw[hn]at hLn;have HL:O (∀w,_):=hLn;clear hem step fin hLn hn;go_wp2_with fail
        go_region_held (fun w'=> w'.cell? ⟨w.heap.size,0,none⟩=some (int i64 k)/\w'.cell? ⟨w.heap.size+1,j,none⟩=some (.string s)) (go_keep) (first|(go_at_call 108;refine(HN.o _).mono ?_;rintro e w2 ⟨rfl,rfl⟩)|(go_at_call 24;refine(HL.o _).mono ?_;rintro e w2 ⟨rfl,hb2⟩;have a0':= (hb2.cell (p:=⟨w.heap.size,0,none⟩) hltA).trans a0;have cN':= (hb2.cell (p:=⟨w.heap.size+1,j,none⟩) hltN).trans cN))
        all_goals
         have hnx2:=hnx.drew.trans (hb2.mono hnx.size);clear hb2 a0 cN a0' cN';go_wp2_with fail
         go_ret;exact⟨jj,hnx2⟩
   .rw[if_neg hjn]at step fin;have hjd:decide ((j:Int)<nm)=false:=decide_eq_false hjn;have HL:O (∀w,_):=hLn
    cases he:(s.toList== []) with
    | true=>
      have HS:=step he;clear hem step fin hLn;go_wp2_with fail
      go_quiet (first|(go_at_call 108;refine Calls.quiet_of_same ((HN.o _).mono (fun _ _ h=>⟨h.1,h.2.symm⟩))))
      go_wp2_with fail
      exact⟨⟨j+1,yq,ya,HS,eA'.o,eN'.o,below_drewN hnx _⟩,zu⟩
    | false=>
      have HF:=fin he;clear hem step fin hLn;go_wp2_with fail
      go_quiet (first|(go_at_call 108;refine Calls.quiet_of_same ((HN.o _).mono (fun _ _ h=>⟨h.1,h.2.symm⟩))))
      go_wp2_with fail
      go_ret;exact⟨jj,below_drewN hnx _⟩
  .have hnames:namesOk ⟨k,num,a,b,c,kids⟩=true:=fit_all (fun i hi=>HA.o i ya);refine zb33 ?_;unhygienic intros
   clear HA eA eN hnames;generalize namesZ k=nm at*;by_cases h20:k=20
   .subst h20;have hnm1:1<nm:=hnc rfl
    cases hab:(a.toList==b.toList) with
    | true=>
      have HO:O (ownOk ⟨20,num,a,b,c,kids⟩=false):=jq;clear hO hnc hm0;go_wp2_with (first|(go_at_call 108;refine(HN.o _).mono ?_;rintro e w2 ⟨rfl,rfl⟩))
      go_ret;exact⟨ji,hnx⟩
    | false=>
      have HO:O (ownOk ⟨20,num,a,b,c,kids⟩=(num==0)):=by
       show _=_;rw[hO,hab,numOk,hm0 ya ya,Bool.eq_iff_iff];simp;omega
      clear hO hnc hm0;go_wp2_with (first|(go_at_call 108;refine(HN.o _).mono ?_;rintro e w2 ⟨rfl,rfl⟩))
      go_ret;exact⟨ji,hnx⟩
   .have h20':(k==20)=false:=by rw[beq_eq_false_iff_ne];exact h20
    rw[h20',Bool.false_and,Bool.not_false,Bool.true_and]at hO;clear hnc h20;by_cases h1:k=1
    .subst h1;by_cases hn0:0<=num
     ·have HO:O (ownOk ⟨1,num,a,b,c,kids⟩=decide (num<=999999999)):=by
       exact hO.trans (num_one hn0)
      clear hO hm0 h20';go_wp2_with (first|(go_at_call 108;refine(HN.o _).mono ?_;rintro e w2 ⟨rfl,rfl⟩))
      all_goals
       go_ret;exact⟨ji,hnx⟩
     ·have HO:O (ownOk ⟨1,num,a,b,c,kids⟩=false):=by
       exact hO.trans (num_one_neg hn0)
      clear hO hm0 h20';go_wp2_with (first|(go_at_call 108;refine(HN.o _).mono ?_;rintro e w2 ⟨rfl,rfl⟩))
      all_goals
       go_ret;exact⟨ji,hnx⟩
    .by_cases h2:k=2
     .subst h2;by_cases hn0:num=0
      .have hn0':(num==0)=true:=by rw[hn0];rfl
       have HO:O (ownOk ⟨2,num,a,b,c,kids⟩=true):=by
        show _=_;rw[hO,numOk,most_two];simp;omega
       clear hO hm0 h20' hn0;go_wp2_with (first|(go_at_call 108;refine(HN.o _).mono ?_;rintro e w2 ⟨rfl,rfl⟩))
       all_goals
        go_ret;exact⟨ji,hnx⟩
      .have hn0':(num==0)=false:=by rw[beq_eq_false_iff_ne];exact hn0
       have HO:O (ownOk ⟨2,num,a,b,c,kids⟩=(num==1)):=by
        show _=_;rw[hO,numOk,most_two,Bool.eq_iff_iff];simp;omega
       clear hO hm0 h20' hn0;go_wp2_with (first|(go_at_call 108;refine(HN.o _).mono ?_;rintro e w2 ⟨rfl,rfl⟩))
       all_goals
        go_ret;exact⟨ji,hnx⟩
     ·have HO:O (ownOk ⟨k,num,a,b,c,kids⟩=(num==0)):=by
       exact hO.trans (num_zero (hm0 h1 h2))
      have h1':(k==1)=false:=by rw[beq_eq_false_iff_ne];exact h1
      have h2':(k==2)=false:=by rw[beq_eq_false_iff_ne];exact h2
      clear hO hm0 h1 h2;go_wp2_with (first|(go_at_call 108;refine(HN.o _).mono ?_;rintro e w2 ⟨rfl,rfl⟩))
      all_goals
       go_ret;exact⟨ji,hnx⟩
theorem own_calls (n:Nd) (w:World) :
 Calls prog 62 #[.agg #[int i64 n.kind,int i64 n.num,.string n.a,.string n.b,.string n.c,int i64 n.kids]] w fun e w'=> e=.returned (.bool (ownOk n))/\Below w.heap.size w w':= by
 obtain⟨k,num,a,b,c,kids⟩:=n;dsimp only;have har:=arity_range k;have hac:=arity_calls k
 cases hK:kidsOk k kids with
 | false=>
   have hO:O (ownOk ⟨k,num,a,b,c,kids⟩=false):=by
    show ownOk _=false;simp[ownOk,hK]
   unfold kidsOk at hK;generalize arityZ k=ar at*;have HC:O (∀w,_):=hac;clear hac;rcases har with rfl|rfl|⟨h0,h3⟩
   .clear hK;go_enter func62,ntmps62
    go_wp2_with (first|(go_at_call 107;refine(HC.o _).mono ?_;rintro e w2 ⟨rfl,rfl⟩))
    go_ret;exact⟨wy,Lb.alloc La _⟩
   .rw[if_neg ya,if_pos rfl]at hK;simp at hK;by_cases h2:kids<2
    .clear hK;go_enter func62,ntmps62
     go_wp2_with (first|(go_at_call 107;refine(HC.o _).mono ?_;rintro e w2 ⟨rfl,rfl⟩))
     go_ret;exact⟨wy,Lb.alloc La _⟩
    .have h6:6<kids:=hK ya;clear hK;go_enter func62,ntmps62
     go_wp2_with (first|(go_at_call 107;refine(HC.o _).mono ?_;rintro e w2 ⟨rfl,rfl⟩))
     go_ret;exact⟨wy,Lb.alloc La _⟩
   .rw[if_neg ya,if_neg ya]at hK;have hne:(kids !=ar)=true:=by simpa using hK
    have hm1:(ar== -1)=false:=jn;clear hK;go_enter func62,ntmps62
    go_wp2_with (first|(go_at_call 107;refine(HC.o _).mono ?_;rintro e w2 ⟨rfl,rfl⟩))
    go_ret;exact⟨wy,Lb.alloc La _⟩
 | true=>
   have hK':= hK;unfold kidsOk at hK';rcases har with har|har|⟨h0,h3⟩
   .rw[if_pos har]at hK'
    cases hK'
   .rw[if_neg ya,if_pos har]at hK';simp at hK';exact own_many k num a b c kids w hK har hK'.1 hK'.2
   .rw[if_neg ya,if_neg ya]at hK';exact own_some k num a b c kids w hK _ rfl h0 h3 (by simpa using hK')
end
section
open Go.RowKit Go.Deep
theorem specTree_calls (b off cap:Nat) (ns:List Nd) (w:World) (R:Bool) (hm:ns.length<=1048576) (hbw:b<w.heap.size) (hn:NodesAt w b off ns) (hA:SpecAns ns R) :
 Calls prog 23 #[.slice (some ⟨b,off,none⟩) ns.length cap] w fun e w'=> e=.returned (.bool R)/\Below w.heap.size w w':= by
 by_cases hl:1<=ns.length/\ns.length<=300
 .have hrest:=hA.rest hl;obtain⟨len,hlen⟩:∃len,ns.length=len:=⟨_,rfl⟩
  have Hlen:O (ns.length=len):=hlen;have HR:O (Rest ns R ownOk (fun n k=>specTree n k 0)):=hrest;have HN:O (NodesAt w b off ns):=hn;have HL:O (1<=len/\len<=300):=vh;have h1:(1:Int)<=(len:Int):=ya;have h2:(len:Int)<=300:=ya;rw[hlen];clear hrest hn hA hl hm hlen;go_enter func23,ntmps23
  go_wp2_with fail
  clear h1 h2;go_loopw [3] (fun i wr=> ∃i':Nat,i=int i64 i'/\i'<=len/\O ((ns.take i').all ownOk=true)/\Below w.heap.size w wr) (fun i _=>len-(intOf i).toNat)
  case atStart=>exact⟨0,rfl,Li _,rfl,Lb⟩
  case round=>
   obtain⟨i',rfl,hle,HT,hbx⟩:=hrel;have hnx:=HN.o.below hbx hbw;by_cases hlt:(i':Int)<(len:Int)
   .have hil:i'<ns.length:=by rw[Hlen.o];omega
    obtain⟨c0,c1,c2,c3,c4,c5⟩:=fsx (hnx i' hil);obtain⟨n,hnn⟩:∃n,ns.getD i' default=n:=⟨_,rfl⟩
    have hF:ownOk n=false->O (R=false):=fun h=>HR.o.1 (all_false hil vn)
    have hT:ownOk n=true->O ((ns.take (i'+ 1)).all ownOk=true):=fun h=>all_take_succ hil HT.o vn
    rw[hnn]at c0 c1 c2 c3 c4 c5;simp only[Nd.cell,Nat.add_zero]at c0 c1 c2 c3 c4 c5;have HO:O (∀w,_):=own_calls n;clear hnx hil hnn HT;obtain⟨kd,num,a,bb,cc,kids⟩:=n;dsimp only at*;go_wp2_with fail
    refine(HO.o _).mono ?_;rintro e w2 ⟨rfl,hb2⟩;have hb3:=hbx.trans (hb2.mono hbx.size);clear c0 c1 c2 c3 c4 c5 hb2 HO
    cases ho:ownOk ⟨kd,num,a,bb,cc,kids⟩ with
    | false=>
      have HF:=hF ho;clear hF hT;go_wp2_with fail
      go_ret;exact⟨jj,hb3⟩
    | true=>
      have HT:=hT ho;clear hF hT;go_wp2_with fail
      have hs:=z55 hlt;try rw[z30 jc]
      exact⟨⟨i'+ 1,rfl,ya,HT,hb3⟩,hs⟩
   .have e:i'= len:=by omega
    subst e;have hall:ns.all ownOk=true:=by
     have:=HT.o;rwa[List.take_of_length_le (by rw[Hlen.o];exact La)]at this
    have HX:O (∀w,NodesAt w b off ns->_):=fun w h=>z59 b off cap ns 0 w h vu
    rw[Hlen.o]at HX;rcases HR.o.2 hall with ⟨hne,hR⟩|⟨n,k,g1,g2,g3,g4,hR⟩
    .have hne':(treeEnd ns 0==(i':Int))=false:=by rw[beq_eq_false_iff_ne];rw[Hlen.o]at hne;exact hne
     clear HT hall hne;generalize treeEnd ns 0=te at*;subst hR;go_wp2_with fail
     refine(HX.o wr hnx).mono ?_;rintro e w2 ⟨rfl,rfl⟩;go_wp2_with fail
     go_ret;exact⟨rfl,hbx⟩
    .have hdr:ns.drop 0=n::(k.flat++ []):=by rw[g1];simp
     have HD:O (∀w,NodesAt w b off ns->_):=fun w h=>deep_calls b off cap ns vu (k.flat.length+1) n k [] 0 w h hdr g2 g3 (Nat.lt_succ_self _)
     have HC:O (∀w,b<w.heap.size->NodesAt w b off ns->_):=fun w hb h=>clauses_calls b off cap ns vu (k.flat.length+1) n k [] 0 0 w ya hb h hdr g2 g3 (Nat.lt_succ_self _)
     rw[Hlen.o]at HD HC;rw[g4,Hlen.o]at HX;have HE:O (R=(specTree n k 0 && decide (k.deep+1<=40))):=hR;have hee:(((i':Int))==(i':Int))=true:=yq;clear HT hall g1 g2 g3 g4 hdr hR HR;generalize k.deep+1=dd at*;go_wp2_with fail
     refine(HX.o wr hnx).mono ?_;rintro e w2 ⟨rfl,rfl⟩;go_wp2_with fail
     refine(HD.o wr hnx).mono ?_;rintro e w2 ⟨rfl,rfl⟩;by_cases hdd:(dd:Int)<=40
     .go_wp2_with fail
      refine(HC.o wr vr hnx).mono ?_;rintro e w2 ⟨rfl,hb2⟩;go_wp2_with fail
      go_ret;refine⟨?_,hbx.trans (hb2.mono hbx.size)⟩;rw[HE.o,decide_eq_true (show dd<=40 by omega),Bool.and_true];rfl
     .go_wp2_with fail
      go_ret;refine⟨?_,hbx⟩;rw[HE.o,decide_eq_false (show ¬ dd<=40 by omega),Bool.and_false];rfl
 ·have hR:R=false:=by
   rcases hA with ⟨_,h⟩|⟨h1,h2,_⟩|⟨h1,h2,_⟩
   .exact h
   .exact absurd ⟨h1,h2⟩ hl
   .exact absurd ⟨h1,h2⟩ hl
  subst hR;have hl':(ns.length:Int)<1\/((1:Int)<=(ns.length:Int)/\(300:Int)<(ns.length:Int)):=ya;clear hA hm hn hl;generalize ns.length=len at*;rcases hl' with h|⟨h,h'⟩
  all_goals
   go_enter func23,ntmps23
   go_wp2_with fail
   go_ret;exact⟨rfl,Lb⟩
theorem specProgN_calls (bt cn:Nat) (ns:List Nd) (T:Bool) (w:World) (hbt:bt<w.heap.size) (hN:NodesAt w bt 0 ns) (mn:ns.length<=1048576) (hTT:∀w':World,bt<w'.heap.size->NodesAt w' bt 0 ns->Calls prog 23 #[.slice (some ⟨bt,0,none⟩) ns.length cn] w' fun e w''=> e=.returned (.bool T)/\Below w'.heap.size w' w'') :
 Calls prog 8 #[.agg #[.slice none 0 0,.slice (some ⟨bt,0,none⟩) ns.length cn]] w fun e w'=> e=.returned (.bool (progZ [] ns T))/\Below w.heap.size w w':= by
 have hb1:Below w.heap.size w (w.alloc (.cells #[.slice none 0 0,.slice (some ⟨bt,0,none⟩) ns.length cn] 26)):=Lb.alloc La _;have HT:O (Calls _ _ _ _ _):=hTT (w.alloc (.cells #[.slice none 0 0,.slice (some ⟨bt,0,none⟩) ns.length cn] 26)) (Le hbt hb1.size) (hN.below hb1 hbt);have HB1:O (Below w.heap.size w (w.alloc (.cells #[.slice none 0 0,.slice (some ⟨bt,0,none⟩) ns.length cn] 26))):=hb1;have HK1:O ((w.alloc (.cells #[.slice none 0 0,.slice (some ⟨bt,0,none⟩) ns.length cn] 26)).heap[w.heap.size]?=some (.cells #[.slice none 0 0,.slice (some ⟨bt,0,none⟩) ns.length cn] 26)):=(Ld w _).1
 obtain⟨R,hR⟩:∃R,progZ [] ns T=R:=⟨_,rfl⟩
 have HR8:O ((T && ns.all (nodeHas []))=R):=by
  show _=R;rw[<-hR];simp[progZ]
 have HN:O (NodesAt w bt 0 ns):=hN;rw[hR];obtain⟨ln,hln⟩:∃ln,ns.length=ln:=⟨_,rfl⟩
 have Hlen:O (ns.length=ln):=hln;rw[hln]at HT HB1 HK1 |-;have HM:O (ln<=1048576):=yp;clear hb1 hR hN mn hTT hln;go_enter func8,ntmps8
 go_wp2_with fail
 refine HT.o.mono ?_;rintro e w2 ⟨rfl,hb2⟩;have hbw2:=HB1.o.trans (hb2.mono HB1.o.size);have kp2:=(hb2.block w.heap.size yq).trans HK1.o;clear HT HB1 HK1 hb2
 cases T with
 | false=>
   go_wp2_with fail
   go_ret;exact⟨ws,hbw2⟩
 | true=>
   have HR2:O (ns.all (nodeHas [])=R):=HR8.o;clear HR8;obtain⟨pA,pB⟩:=fcl2 kp2;go_wp2_with fail
   refine wp_loop_rounds 1 ?_;rw[rounds_succ];go_wp2_with fail
   clear pA pB;go_loopw [5] (fun j wr=> ∃k:Nat,j=int i64 k/\k<=ln/\O ((ns.take k).all (nodeHas [])=true)/\wr.heap[w.heap.size]?=some (.cells #[.slice none 0 0,.slice (some ⟨bt,0,none⟩) ln cn] 26)/\Below w.heap.size w wr) (fun j _=>ln-(intOf j).toNat)
   case atStart=>exact⟨0,rfl,Li _,rfl,kp2,hbw2⟩
   case round=>
    clear kp2 hbw2;obtain⟨k,rfl,hk,HI,kp,hbx⟩:=hrel;have hAlt:=z13 kp;obtain⟨pA,pB⟩:=fcl2 kp;by_cases hlt:(k:Int)<(ln:Int)
    .have hil:k<ns.length:=by rw[Hlen.o];omega
     have hNx:=HN.o.below hbx hbt;obtain⟨c0,c1,c2,c3,c4,c5⟩:=fsx (hNx k hil);obtain⟨nd,hnd⟩:∃nd,ns.getD k default=nd:=⟨_,rfl⟩
     have hF:nodeHas [] nd=false->O (R=false):=fun h=>by
      show R=false;rw[<-HR2.o];exact has_false hil zq
     have hS:nodeHas [] nd=true->O ((ns.take (k+1)).all (nodeHas [])=true):=fun h=>has_step hil HI.o zq
     rw[hnd]at c0 c1 c2 c3 c4 c5;simp only[Nd.cell,Nat.add_zero,Nat.zero_add]at c0 c1 c2 c3 c4 c5;obtain⟨kd,num,a,bb,cc,kids⟩:=nd;dsimp only at*;have hpl:=effPlace_lt [] a 0;have hszx:=hbx.size;have HP:O (∀w',_):=fun w'=> l2Eff_calls none 0 [] a w' yq (fun h=>absurd rfl h)
     simp only[nodeHas]at hF hS;clear hNx hil hnd HI;generalize effPlace [] a 0=pl at*;generalize effIn [] a=ein at*;have hq:(kd==22)=true\/((kd==22)=false/\(kd==26)=true)\/((kd==22)=false/\(kd==26)=false):=by
      cases (kd==22)<;>cases (kd==26)<;>simp
     rcases hq with k22|⟨k22,k26⟩|⟨k22,k26⟩
     .by_cases hp:pl<0
      .have hei:ein=false:=hpl.1 hp;have HF:=hF (by rw[hei,k22];rfl);clear hF hS hpl;go_wp2_with fail
       refine(HP.o _).mono ?_;rintro e w6 ⟨rfl,rfl⟩;go_wp2_with fail
       go_ret;exact⟨jj,hbx.alloc hszx _⟩
      ·have hei:ein=true:=by
        cases hx:ein with
        |true=>rfl
        |false=>exact absurd (hpl.2 hx) hp
       have HS:=hS wv;clear hF hS hpl;go_wp2_with fail
       refine(HP.o _).mono ?_;rintro e w6 ⟨rfl,rfl⟩;go_wp2_with fail
       refine zb91 ?_;intro hs;exact⟨⟨k+1,rfl,ya,HS,(Below.heap_alloc _ _ _ hAlt).trans kp,hbx.alloc hszx _⟩,hs⟩
     .by_cases hp:pl<0
      .have hei:ein=false:=hpl.1 hp;have HF:=hF (by rw[hei,k26];simp);clear hF hS hpl;go_wp2_with fail
       refine(HP.o _).mono ?_;rintro e w6 ⟨rfl,rfl⟩;go_wp2_with fail
       go_ret;exact⟨jj,hbx.alloc hszx _⟩
      ·have hei:ein=true:=by
        cases hx:ein with
        |true=>rfl
        |false=>exact absurd (hpl.2 hx) hp
       have HS:=hS wv;clear hF hS hpl;go_wp2_with fail
       refine(HP.o _).mono ?_;rintro e w6 ⟨rfl,rfl⟩;go_wp2_with fail
       refine zb91 ?_;intro hs;exact⟨⟨k+1,rfl,ya,HS,(Below.heap_alloc _ _ _ hAlt).trans kp,hbx.alloc hszx _⟩,hs⟩
     .have HS:=hS ww;clear hF hS hpl HP;go_wp2_with fail
      refine zb91 ?_;intro hs;exact⟨⟨k+1,rfl,ya,HS,(Below.heap_alloc _ _ _ hAlt).trans kp,hbx.alloc hszx _⟩,hs⟩
    .have e:k=ln:=by omega
     have HT:O (R=true):=by
      show R=true;rw[<-HR2.o];have:=HI.o;rwa[List.take_of_length_le jt]at this
     clear HI;go_wp2_with fail
     go_ret;exact⟨by rw[HT.o];rfl,hbx⟩
def EffW (W:World) (ae:Option Addr) (ce:Nat) (es:List Ef):Prop:=(ae=none/\es= []/\ce=0)\/ ∃be,ae=some ⟨be,0,none⟩/\be<W.heap.size/\EffsAt W be 0 es/\es.length<=ce
theorem progOk_at {W:World}{ae:Option Addr}{ce bt cn:Nat}{es:List Ef}{ns:List Nd}{T:Bool}(hE:EffW W ae ce es) (hel:es.length<=1000) (hbt:bt<W.heap.size) (hN:NodesAt W bt 0 ns) (hl:ns.length<=300) (hA:SpecAns ns T) :
 Calls prog 8 #[.agg #[.slice ae es.length ce,.slice (some ⟨bt,0,none⟩) ns.length cn]] W fun e W'=> e=.returned (.bool (progZ es ns T))/\Below W.heap.size W W':= by
 rcases hE with ⟨rfl,rfl,rfl⟩|⟨be,rfl,hbe,hEA,hce⟩
 .exact specProgN_calls bt cn ns T W hbt hN ya (fun w' hb hn=>specTree_calls bt 0 cn ns w' T ya hb hn hA)
 .exact specProgC_calls be bt ce cn es ns T W hce hbe hbt hEA hN ya ya (fun w' hb hn=>specTree_calls bt 0 cn ns w' T ya hb hn hA)
theorem EffW.below {W W':World}{ae:Option Addr}{ce:Nat}{es:List Ef}(h:EffW W ae ce es) (hb:Below W.heap.size W W'):EffW W' ae ce es:=by
 rcases h with h|⟨be,e,hbe,hEA,hce⟩
 .exact Or.inl h
 .exact Or.inr ⟨be,e,Le hbe hb.size,hEA.below hb hbe,hce⟩
end
end Go.Proofs.YtbbffkiobmbkfaaGreatDoor
