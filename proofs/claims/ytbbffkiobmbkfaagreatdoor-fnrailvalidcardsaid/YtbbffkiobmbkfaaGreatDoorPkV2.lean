import Derived.Test.YtbbffkiobmbkfaaGreatDoorPkV1
open Go.Proofs.Tryz
open Go.Value Go.IntKind
set_option maxHeartbeats 4000000
set_option maxRecDepth 100000
namespace Go.Proofs.YtbbffkiobmbkfaaGreatDoor
open Go.RowKit
variable {k r:Fo}{pk:Int}{ops:List ByteArray}{i:Nat}{n:Nd}{v:Value}{w:World}
section
open Go.RowKit
theorem info_str:(prog.info? 9).map (fun i=>(i.zero,i.size,i.bytes))=some (some (.string ⟨#[]⟩),1,16):=ye
theorem z74 (w:World) (n:Nat) (hn:n=w.heap.size) (a:Value) (t:TypeId):∀j u,[a][j]?=some u->(w.alloc (.cells #[a] t)).cell? ((⟨n,0,none⟩:Addr).add j)=some u:=by
 subst hn;intro j u hj;match j,hj with
 |0,hj=>simp at hj;subst hj;simp[Addr.add]
 |j+1,hj=>simp at hj
theorem kids_false (h:specTree n k (role pk i)=false):specKids (.tree n k r) pk i ops=false:=by
 simp only[specKids];unfold specTree at h;rw[<-Bool.and_assoc,h,Bool.false_and]
theorem kids_next (h:specTree n k (role pk i)=true) (hc:role pk i≠2):specKids (.tree n k r) pk i ops=specKids r pk (i+1) ops:=by
 simp only[specKids];unfold specTree at h;rw[<-Bool.and_assoc,h,Bool.true_and,if_neg hc]
theorem kids_in_false (hc:role pk i=2) (hi:isIn ops n.a=true):specKids (.tree n k r) pk i ops=false:=by
 simp only[specKids];rw[if_pos hc,hi,Bool.not_true,Bool.false_and,Bool.and_false,Bool.and_false]
theorem kids_in_next (h:specTree n k (role pk i)=true) (hc:role pk i=2) (hi:isIn ops n.a=false):specKids (.tree n k r) pk i ops=specKids r pk (i+1) (ops++ [n.a]):=by
 simp only[specKids];unfold specTree at h;rw[<-Bool.and_assoc,h,Bool.true_and,if_pos hc,hi,Bool.not_false,Bool.true_and]
theorem role_cases (pk:Int) (i:Nat) (h:role pk i≠2):((pk==23)=false/\(pk==24)=false/\role pk i=0)\/((pk==23)=true/\(i:Int)<=2/\((i:Int)==2)=false/\role pk i=i)\/((pk==23)=false/\(pk==24)=true/\(i:Int)<=2/\((i:Int)==2)=false/\role pk i=i):=by
 simp only[beq_iff_eq,beq_eq_false_iff_ne];unfold role at*;split at h
 .rename_i hp;rw[if_pos hp];split at h
  .exact absurd rfl h
  .rename_i h2;rw[if_neg h2];omega
 .rename_i hp;rw[if_neg hp];omega
theorem role_cases2 (pk:Int) (i:Nat) (h:role pk i=2):((pk==23)=true/\(i:Int)<=2/\((i:Int)==2)=true/\role pk i=i)\/((pk==23)=true/\(2:Int)<(i:Int))\/((pk==23)=false/\(pk==24)=true/\(i:Int)<=2/\((i:Int)==2)=true/\role pk i=i)\/((pk==23)=false/\(pk==24)=true/\(2:Int)<(i:Int)):=by
 rw[h];simp only[beq_iff_eq,beq_eq_false_iff_ne];unfold role at h;split at h
 .split at h<;>omega
 .omega
theorem clauses_calls (b off cap:Nat) (ns:List Nd) (hm:ns.length<=1000000):∀(N:Nat) (n:Nd) (k:Fo) (suf:List Nd) (p c:Nat) (w:World),c<=2->b<w.heap.size->NodesAt w b off ns->ns.drop p=n::(k.flat++suf)->n.kids=k.count->k.wf->k.flat.length<N->
 Calls prog 65 #[.slice (some ⟨b,off,none⟩) ns.length cap,int i64 p,int i64 c] w fun e w'=> e=.returned (.bool (specTree n k c))/\Below w.heap.size w w':= by
 intro N;induction N with
 |zero=>intro n k suf p c w _ _ _ _ _ _ h;omega
 | succ N ih=>
   intro n k suf p c w hc hbw hn hp hkc hk hN;obtain⟨hpl,hnd,hp1⟩:=at_drop hp;obtain⟨c0,c1,c2,c3,c4,c5⟩:=fsx (hn p hpl);rw[hnd]at c0 c1 c2 c3 c4 c5;simp only[Nd.cell,Nat.add_zero]at c0 c1 c2 c3 c4 c5
   cases hh:headOk n c with
   |false=>exact clauses_bad b off ns.length cap n k p c w hpl c0 c1 c2 c3 c4 c5 hc hh
   | true=>
     have hR:specTree n k c=specKids k n.kind 0 []:=by rw[specTree,hh];rfl
     rw[hR];obtain⟨R,hRd⟩:∃R,specKids k n.kind 0 []=R:=⟨_,rfl⟩
     rw[hRd];have hkl:k.flat.length<=ns.length:=by
      have:(ns.drop (p+1)).length=k.flat.length+suf.length:=je;rw[List.length_drop]at this;omega
     have hkk:=Fo.count_le k;rw[hkc]at c5;have HS:O (specKids k n.kind 0 []=R):=hRd;have HI:O (∀(n:Nd) (k:Fo) (suf:List Nd) (p c:Nat) (w:World),_):=ih;have HN:O (NodesAt w b off ns):=hn;have HM:O (ns.length<=1048576):=yp;refine zb76 ?_;intro H1 Hk len hlen Hlen;rw[hlen]at hm hpl hkl |-;clear ih hn hp hp1 hk hnd hlen hkc hR hRd;obtain⟨kc,hkc⟩:∃kc,k.count=kc:=⟨_,rfl⟩
     have Hkc:O (k.count=kc):=hkc;rw[hkc]at c5 hkk;have HP:O (len<=1000000/\p<len/\k.flat.length<=len/\kc<=k.flat.length/\k.flat.length<N+1):=⟨hm,hpl,hkl,hkk,hN⟩
     clear hkc hm hkl hkk hN;have cases3:(n.kind==25)=true/\(n.kind==26)=false/\c=1\/(n.kind==25)=false/\(n.kind==26)=true/\c=2/\(n.b.toList==n.c.toList)=false\/(n.kind==25)=false/\(n.kind==26)=false/\c=0:=by
      have hc3:c=0\/c=1\/c=2:=ya;have hx:¬ ((n.kind==25)=true/\(n.kind==26)=true):=by
       simp only[beq_iff_eq];omega
      simp only[headOk,ok26]at hh;revert hh hx;rcases hc3 with rfl|rfl|rfl<;>cases (n.kind==25)<;>cases (n.kind==26)<;>cases (n.b.toList==n.c.toList)<;>decide
     have cases4:(n.kind==25)=true/\(n.kind==26)=false/\(c:Int)=1\/(n.kind==25)=false/\(n.kind==26)=true/\(c:Int)=2/\(n.b.toList==n.c.toList)=false\/(n.kind==25)=false/\(n.kind==26)=false/\(c:Int)=0:=by
      rcases cases3 with ⟨k5,k6,rfl⟩|⟨k5,k6,rfl,h4⟩|⟨k5,k6,rfl⟩
      .exact Or.inl ⟨k5,k6,rfl⟩
      .exact Or.inr (Or.inl ⟨k5,k6,rfl,h4⟩)
      .exact Or.inr (Or.inr ⟨k5,k6,rfl⟩)
     clear hh hc cases3;generalize (c:Int)=ci at cases4 ⊢;clear c;obtain⟨kd,num,a,bb,cc,kids⟩:=n;dsimp only at*;have htt:(true !=true)=false:=rfl;have hff:(false !=false)=false:=rfl;rcases cases4 with ⟨k5,k6,rfl⟩|⟨k5,k6,rfl,h4⟩|⟨k5,k6,rfl⟩
     all_goals
      go_enter func65,ntmps65
      go_wp2_with fail
     all_goals
      clear c0 c1 c2 c3 c4 c5 htt hff;go_loopw [8,9,10] (fun q o i wr=> ∃(q' i':Nat) (r:Fo) (ops:List ByteArray),q=int i64 q'/\i=int i64 i'/\O (ns.drop q'= r.flat++suf/\r.wf/\i'+ r.count=kc/\r.flat.length<N+1/\specKids r kd i' ops=R/\ops.length<=i')/\wr.ownsRow (w.heap.size+1) 9 1 o ops.length (strs ops)/\wr.heap[w.heap.size]?=some (.cells #[int i64 kd,int i64 num,.string a,.string bb,.string cc,int i64 kc] 68)/\Below w.heap.size w wr) (fun _ _ i _=>kc-(intOf i).toNat)
      case atStart=>
       rw[z30 jf];exact⟨p+1,0,k,[],rfl,rfl,⟨H1.o,Hk.o,jg,HP.o.2.2.2.2,HS.o,La⟩,World.ownsRow_nil _ _ _ _,(Ld w _).1,Lb.alloc La _⟩
      case round=>
       obtain⟨q',i',r,ops,rfl,rfl,HR,hown,eA,hnx⟩:=hrel;have a0:=z11 eA 0;have a5:=z11 eA 5;simp at a0 a5;have hltA:=z13 eA
       cases r with
       | none=>
         obtain⟨_,_,h1,_,h2,_⟩:=HR.o;simp only[Fo.count,specKids]at h1 h2;have h1':i'= kc:=ya;subst h1' h2;clear HR h1 HI HN HM H1 Hk Hlen Hkc HS eA hown;go_wp2_with fail
         go_ret;exact⟨rfl,hnx⟩
       | tree n' k' r'=>
         obtain⟨h0,hw,h1,h3,h4',h5'⟩:=HR.o;obtain⟨hw0,hw1,hw2⟩:=hw;simp only[Fo.count,Fo.flat,Ll,Lk]at h1 h3;simp only[Fo.flat,Ln,Lo]at h0;obtain⟨hql,hqn,hq1⟩:=at_drop h0;have hnw:NodesAt wr b off ns:=HN.o.below hnx hbw;have hend:treeEnd ns q'= _:=treeEnd_at h0 hw0 hw1;have hnew:=drop_past hq1;have hrl:=role_le kd i';have hIH:=fun w (hb:b<w.heap.size) (hn:NodesAt w b off ns)=>HI.o n' k' (r'.flat++suf) q' (role kd i') w hrl hb hn h0 hw0 hw1 ya
         have hi:(i':Int)<(kc:Int):=ya;have HX:O (ns.drop (q'+ 1+k'.flat.length)=r'.flat++suf/\r'.wf/\i'+ 1+r'.count=kc/\r'.flat.length<N+1/\ops.length<=i'):=⟨hnew,hw2,ya,ya,h5'⟩
         have HC:O (∀w,_):=hIH;have HQ:O (q'<ns.length/\ns.getD q' default=n'/\treeEnd ns q'= ((q'+ 1+k'.flat.length:Nat):Int)):=⟨hql,hqn,hend⟩
         have HV:O (specKids (.tree n' k' r') kd i' ops=R):=h4';have HW:O (NodesAt wr b off ns):=hnw;clear HR h0 hw0 hw1 hw2 hql hqn hq1 hnw hend hnew hIH h4' h5' h1 h3 HI;rw[Hlen.o]at HC;by_cases hc2:role kd i'= 2
         .have hf:specTree n' k' (role kd i')=false->O (R=false):=fun h=>by rw[<-HV.o];exact kids_false h
          have ht:specTree n' k' (role kd i')=true->isIn ops n'.a=false->O (specKids r' kd (i'+ 1) (ops++ [n'.a])=R):=fun h h'=> by rw[<-HV.o];exact(kids_in_next h hc2 h').symm
          have hin:isIn ops n'.a=true->O (R=false):=fun h=>by rw[<-HV.o];exact kids_in_false hc2 h
          rcases role_cases2 kd i' hc2 with ⟨k23,hi2,heq,hr⟩|⟨k23,hgt⟩|⟨k23,k24,hi2,heq,hr⟩|⟨k23,k24,hgt⟩
          all_goals
           try(exfalso;have e:=eq_of_beq k23;subst e;revert k5 k6;decide)
           try(exfalso;have e:=eq_of_beq k24;subst e;revert k5 k6;decide)
          all_goals
           first
            |rw[hr]at HC hf ht
            |rw[hc2]at HC hf ht
           try clear hr
           clear hc2 hrl HV;go_wp2_with fail
           refine(HC.o wr jh HW.o).mono ?_;rintro e w3 ⟨rfl,hb3⟩;have eA3:=(hb3.block w.heap.size hltA).trans eA;have hltA3:=z13 eA3;have hown3:=owns_below hown hb3;have hnx3:=hnx.trans (hb3.mono hnx.size);have HT:O (∀w,NodesAt w b off ns->_):=fun w h=>z59 b off cap ns q' w h HM.o
           rw[HQ.o.2.2,Hlen.o]at HT;have hqi:q'<len:=by have:=HQ.o.1;rw[Hlen.o]at this;exact this
           have q2:=HN.o.below hnx3 hbw q' HQ.o.1 2 ya;rw[HQ.o.2.1]at q2;simp only[Nd.cell]at q2;have hA:=isIn_calls _ _ ops n'.a w3 (by have:=HP.o;have:=HX.o;omega) hown3;clear HC HW hb3 eA hown hnx a0 a5 hltA;generalize q'+ 1+k'.flat.length=ee at*
           cases hst:specTree n' k' _ with
           | false=>
             have HF:=hf hst;clear hf ht hin hA;go_wp2_with fail
             go_ret;exact⟨jj,hnx3⟩
           | true=>
             cases hii:isIn ops n'.a with
             | true=>
               have HF:=hin hii;rw[hii]at hA;have HA:O (Calls _ _ _ _ _):=hA;clear hf ht hin hA;go_wp2_with fail
               refine HA.o.mono ?_;rintro e w4 ⟨rfl,rfl⟩;go_wp2_with fail
               go_ret;exact⟨jj,hnx3⟩
             | false=>
               have HG:=ht hst hii;rw[hii]at hA;have HA:O (Calls _ _ _ _ _):=hA;clear hf ht hin hA;go_wp2_with fail
               refine HA.o.mono ?_;rintro e w4 ⟨rfl,rfl⟩;have hol:O (ops.length<=1048576):=by show _<=_;have:=HP.o;have:=HX.o;omega
               obtain⟨i0,hinf,hz0,hz1,hz2⟩:=info_parts info_str;go_wp2_with (first
                | (at_builtin;refine wpList_append_own _ rfl _ _ 33 rfl (w.heap.size+1) 9 i0 (.string ⟨#[]⟩) 1 16 underlying33 hinf hz0 hz1 hz2 rfl yk _ _ _ rfl (hown3.alloc _) ⟨w3.heap.size,0,none⟩ 1 1 [.string n'.a] rfl rfl (z74 _ _ rfl _ _) (fun x hx=>jk) jl (by have:=hol.o;omega) jd ?_
                   intro v' w5 hown' hgrow hnil;have eA5:O (w5.heap[w.heap.size]?=some (.cells #[int i64 kd,int i64 num,.string a,.string bb,.string cc,int i64 kc] 68)):=by
                    show w5.heap[w.heap.size]?=_;rw[hgrow.block w.heap.size jd (fun h=>by have:=(hown3.lt _ h.symm).1;omega),Below.heap_alloc _ _ _ hltA3];exact eA3
                   have hnx5:Below w.heap.size w w5:=Below.grown (hnx3.alloc ya _) hgrow jd (fun j hj=>by have:=(hown3.lt _ hj).1;omega);clear hgrow hnil eA3 hown3 hnx3 q2))
               refine(HT.o w5 (HN.o.below hnx5 hbw)).mono ?_;rintro e w6 ⟨rfl,rfl⟩;go_wp2_with fail
               have hi9:i'<=1048576:=jf;try rw[z30 hi9]
               refine⟨⟨ee,i'+ 1,r',ops++ [n'.a],rfl,rfl,⟨HX.o.1,HX.o.2.1,HX.o.2.2.1,HX.o.2.2.2.1,HG.o,?_⟩,?_,eA5.o,hnx5⟩,z55 hi⟩
               .rw[Lk];exact Nat.succ_le_succ HX.o.2.2.2.2
               .rw[Lk,strs,List.map_append];exact hown'
         .have hf:specTree n' k' (role kd i')=false->O (R=false):=fun h=>by rw[<-HV.o];exact kids_false h
          have ht:specTree n' k' (role kd i')=true->O (specKids r' kd (i'+ 1) ops=R):=fun h=>by rw[<-HV.o];exact(kids_next h hc2).symm
          rcases role_cases kd i' hc2 with ⟨k23,k24,hr⟩|⟨k23,hi2,hne,hr⟩|⟨k23,k24,hi2,hne,hr⟩
          all_goals
           try(exfalso;have e:=eq_of_beq k23;subst e;revert k5 k6;decide)
           try(exfalso;have e:=eq_of_beq k24;subst e;revert k5 k6;decide)
          all_goals
           rw[hr]at HC hf ht;clear hc2 hrl hr HV;go_wp2_with fail
           refine(HC.o wr jh HW.o).mono ?_;rintro e w3 ⟨rfl,hb3⟩;have eA3:=(hb3.block w.heap.size hltA).trans eA;have hown3:=owns_below hown hb3;have hnx3:=hnx.trans (hb3.mono hnx.size);have hE:=z59 b off cap ns q' w3 (HN.o.below hnx3 hbw) HM.o;rw[HQ.o.2.2,Hlen.o]at hE;have HT:O (Calls _ _ _ _ _):=hE;clear HC HW hb3 eA hown hnx hE a0 a5 hltA;generalize q'+ 1+k'.flat.length=ee at*
           cases hst:specTree n' k' _ with
           | false=>
             have HF:=hf hst;clear hf ht;go_wp2_with fail
             go_ret;exact⟨jj,hnx3⟩
           | true=>
             have HG:=ht hst;clear hf ht;go_wp2_with fail
             refine HT.o.mono ?_;rintro e w4 ⟨rfl,rfl⟩;go_wp2_with fail
             have hi9:i'<=1048576:=jf;try rw[z30 hi9]
             exact⟨⟨ee,i'+ 1,r',ops,rfl,rfl,⟨HX.o.1,HX.o.2.1,HX.o.2.2.1,HX.o.2.2.2.1,HG.o,Nat.le_succ_of_le HX.o.2.2.2.2⟩,hown3,eA3,hnx3⟩,z55 hi⟩
end
section
open Go.RowKit Go.Deep
def SliceOf (B:Nat) (w:World) (sv:Value) (us:List Value):Prop:=(us= []/\ ∃a c,sv=.slice a 0 c)\/RowAt B w sv us
def KidsPost (us:List Value) (w:World) (e:Ending) (w':World):Prop:= ∃sv,e=.returned sv/\SliceOf w.heap.size w' sv us/\Below w.heap.size w w'
def KidsOf (w:World) (v:Value) (us:List Value):Prop:=
 ∃T pv g rv,v=.iface T pv/\(∀w,(method 424 T pv "loop.example/handrail/impl.kids").run prog w=.ok (g,rv) w)/\(∀args w,(callFunc g args).run prog w=.ok (.enter g args) w)/\Calls prog g #[rv] w (KidsPost us w)
theorem row_new (w:World) (o1:Obj) (us:List Value) (t:TypeId):SliceOf w.heap.size ((w.alloc o1).alloc (.cells us.toArray t)) (.slice (some ⟨w.heap.size+1,0,none⟩) us.length us.length) us:=by
 have e:=(Ld (w.alloc o1) (.cells us.toArray t)).1;have hs:(w.alloc o1).heap.size=w.heap.size+1:=yq;rw[hs]at e;refine Or.inr ⟨w.heap.size+1,0,us.length,rfl,Nat.le_succ _,z13 e,fun j hj=>?_⟩;rw[Nat.zero_add,z11 e j];simp
theorem z33 (w:World) (o1 o2:Obj):Below w.heap.size w ((w.alloc o1).alloc o2):=(Lb.alloc La o1).alloc yq o2
theorem sliceOf_own {base B:Nat}{e:TypeId}{n:Nat}{xs:List Value}(h:w.ownsRow base e 1 v n xs) (hb0:B<=base):SliceOf B w v xs:=by
 have hl:=h.1;rw[Nat.mul_one]at hl;rcases h.2 with ⟨hv,h0⟩|⟨g,cap,cur,hv,hbg,hg,_⟩
 .exact Or.inl ⟨Lu ya,none,0,hv⟩
 .subst hv;refine Or.inr ⟨g,0,cap,by rw[hl],Lf hb0 hbg,z13 hg,fun j hj=>?_⟩;rw[Nat.zero_add];exact h.cellAt j ya
theorem kids_leaf (w:World):Calls prog 201 #[.agg #[]] w (KidsPost [] w):=by
 go_enter func201,ntmps201
 go_wp2_with fail
 go_ret;exact⟨_,rfl,Or.inl ⟨rfl,none,0,rfl⟩,Lb.alloc La _⟩
theorem kids_fn (a:ByteArray) (T0:TypeId) (p0:Value) (w:World):Calls prog 206 #[.agg #[.string a,.iface T0 p0]] w (KidsPost [.iface T0 p0] w):=by
 go_enter func206,ntmps206
 go_wp2_with fail
 go_ret;exact⟨_,rfl,row_new w _ [.iface T0 p0] _,z33 w _ _⟩
theorem kids_app (T0 T1:TypeId) (p0 p1:Value) (w:World):Calls prog 243 #[.agg #[.iface T0 p0,.iface T1 p1]] w (KidsPost [.iface T0 p0,.iface T1 p1] w):=by
 go_enter func243,ntmps243
 go_wp2_with fail
 go_ret;exact⟨_,rfl,row_new w _ [.iface T0 p0,.iface T1 p1] _,z33 w _ _⟩
theorem kids_bind (a:ByteArray) (T0 T1:TypeId) (p0 p1:Value) (w:World):Calls prog 212 #[.agg #[.string a,.iface T0 p0,.iface T1 p1]] w (KidsPost [.iface T0 p0,.iface T1 p1] w):=by
 go_enter func212,ntmps212
 go_wp2_with fail
 go_ret;exact⟨_,rfl,row_new w _ [.iface T0 p0,.iface T1 p1] _,z33 w _ _⟩
theorem kids_recur (a b:ByteArray) (T0 T1:TypeId) (p0 p1:Value) (w:World):Calls prog 209 #[.agg #[.string a,.string b,.iface T0 p0,.iface T1 p1]] w (KidsPost [.iface T0 p0,.iface T1 p1] w):=by
 go_enter func209,ntmps209
 go_wp2_with fail
 go_ret;exact⟨_,rfl,row_new w _ [.iface T0 p0,.iface T1 p1] _,z33 w _ _⟩
theorem kids_cond (T0 T1 T2:TypeId) (p0 p1 p2:Value) (w:World):Calls prog 215 #[.agg #[.iface T0 p0,.iface T1 p1,.iface T2 p2]] w (KidsPost [.iface T0 p0,.iface T1 p1,.iface T2 p2] w):=by
 go_enter func215,ntmps215
 go_wp2_with fail
 go_ret;exact⟨_,rfl,row_new w _ [.iface T0 p0,.iface T1 p1,.iface T2 p2] _,z33 w _ _⟩
theorem kids_sign (k:Int) (T0 T1:TypeId) (p0 p1:Value) (w:World):Calls prog 263 #[.agg #[int i64 k,.iface T0 p0,.iface T1 p1]] w (KidsPost [.iface T0 p0,.iface T1 p1] w):=by
 go_enter func263,ntmps263
 go_wp2_with fail
 go_ret;exact⟨_,rfl,row_new w _ [.iface T0 p0,.iface T1 p1] _,z33 w _ _⟩
theorem kids_pair (T0 T1:TypeId) (p0 p1:Value) (w:World):Calls prog 247 #[.agg #[.iface T0 p0,.iface T1 p1]] w (KidsPost [.iface T0 p0,.iface T1 p1] w):=by
 go_enter func247,ntmps247
 go_wp2_with fail
 go_ret;exact⟨_,rfl,row_new w _ [.iface T0 p0,.iface T1 p1] _,z33 w _ _⟩
theorem kids_take (k:Int) (T0:TypeId) (p0:Value) (w:World):Calls prog 251 #[.agg #[int i64 k,.iface T0 p0]] w (KidsPost [.iface T0 p0] w):=by
 go_enter func251,ntmps251
 go_wp2_with fail
 go_ret;exact⟨_,rfl,row_new w _ [.iface T0 p0] _,z33 w _ _⟩
theorem kids_cons (T0 T1:TypeId) (p0 p1:Value) (w:World):Calls prog 255 #[.agg #[.iface T0 p0,.iface T1 p1]] w (KidsPost [.iface T0 p0,.iface T1 p1] w):=by
 go_enter func255,ntmps255
 go_wp2_with fail
 go_ret;exact⟨_,rfl,row_new w _ [.iface T0 p0,.iface T1 p1] _,z33 w _ _⟩
theorem kids_case (a b:ByteArray) (T0 T1 T2:TypeId) (p0 p1 p2:Value) (w:World):Calls prog 218 #[.agg #[.iface T0 p0,.iface T1 p1,.string a,.string b,.iface T2 p2]] w (KidsPost [.iface T0 p0,.iface T1 p1,.iface T2 p2] w):=by
 go_enter func218,ntmps218
 go_wp2_with fail
 go_ret;exact⟨_,rfl,row_new w _ [.iface T0 p0,.iface T1 p1,.iface T2 p2] _,z33 w _ _⟩
theorem kids_perform (a:ByteArray) (T0:TypeId) (p0:Value) (w:World):Calls prog 259 #[.agg #[.string a,.iface T0 p0]] w (KidsPost [.iface T0 p0] w):=by
 go_enter func259,ntmps259
 go_wp2_with fail
 go_ret;exact⟨_,rfl,row_new w _ [.iface T0 p0] _,z33 w _ _⟩
theorem kids_ret (a:ByteArray) (T0:TypeId) (p0:Value) (w:World):Calls prog 229 #[.agg #[.string a,.iface T0 p0]] w (KidsPost [.iface T0 p0] w):=by
 go_enter func229,ntmps229
 go_wp2_with fail
 go_ret;exact⟨_,rfl,row_new w _ [.iface T0 p0] _,z33 w _ _⟩
theorem kids_op (a b c:ByteArray) (T0:TypeId) (p0:Value) (w:World):Calls prog 232 #[.agg #[.string a,.string b,.string c,.iface T0 p0]] w (KidsPost [.iface T0 p0] w):=by
 go_enter func232,ntmps232
 go_wp2_with fail
 go_ret;exact⟨_,rfl,row_new w _ [.iface T0 p0] _,z33 w _ _⟩
theorem kids_handler (k:Int) (T0:TypeId) (p0 sl:Value) (us:List Value) (w:World) (hs:RowAt 0 w sl us) (hl:us.length<=1500) (hi:∀u∈us,∃T p,u=.iface T p) :
 Calls prog 221 #[.agg #[int i64 k,.iface T0 p0,sl]] w (KidsPost (.iface T0 p0::us) w):=by
 obtain⟨g,o,cap,rfl,_,hg,hc⟩:=hs;obtain⟨i0,hinf,hz0,hz1,hz2⟩:=info_parts info_form;obtain⟨WA,hWA⟩:∃WA,w.alloc (.cells #[int i64 k,.iface T0 p0,.slice (some ⟨g,o,none⟩) us.length cap] 121)=WA:=⟨_,rfl⟩
 have hb1:Below w.heap.size w WA:=by rw[<-hWA];exact Lb.alloc La _
 have hsz:WA.heap.size=w.heap.size+1:=by rw[<-hWA];simp
 have hb2:Below w.heap.size w (WA.alloc (.cells #[.iface T0 p0] 49)):=hb1.alloc ya _;have hown:(WA.alloc (.cells #[.iface T0 p0] 49)).ownsRow (w.heap.size+1) 49 1 (.slice (some ⟨WA.heap.size,0,none⟩) 1 1) 1 [.iface T0 p0]:=World.ownsRow_lit WA #[.iface T0 p0] 1 ya zz rfl;rw[hsz]at hown;have hcs:∀j u,us[j]?=some u->(WA.alloc (.cells #[.iface T0 p0] 49)).cell? ((⟨g,o,none⟩:Addr).add j)=some u:=by
  intro j u hj;have hjl:j<us.length:=by
   rcases Nat.lt_or_ge j us.length with h|h
   .exact h
   .rw[List.getElem?_eq_none h]at hj;cases hj
  rw[WideShapes.add_plain,hb2.cell (p:=⟨g,o+j,none⟩) hg,hc j hjl,hj]
 have HO:O (World.ownsRow _ _ _ _ _ _ _):=hown;have HC:O (∀j u,_):=hcs;have HI:O (∀u∈us,∃T p,u=.iface T p):=hi;have HL:O (us.length<=1500):=hl;have HB2:O (Below _ _ _):=hb2;have HSZ:O (WA.heap.size=w.heap.size+1):=hsz;have HWA:O (_=WA):=hWA;clear hown hcs hi hl hc hb2 hb1 hsz hWA;go_enter func221,ntmps221
 go_wp2_with (first
  | (at_builtin;rw[HWA.o];refine wpList_append_own _ rfl _ _ 119 rfl (w.heap.size+1) 49 i0 .nilIface 1 16 underlying119 hinf hz0 hz1 hz2 rfl yk _ _ _ rfl HO.o ⟨g,o,none⟩ us.length cap us rfl yq HC.o (fun x hx=>by obtain⟨T,p,rfl⟩:=HI.o x hx;rfl) jm jc (by have:=HSZ.o;simp;omega) ?_
     intro v' w5 hown' hgrow hnil;have hB5:Below w.heap.size w w5:=HB2.o.grown hgrow HB2.o.size (fun j hj=>by have:=(HO.o.lt _ hj).1;omega);clear hgrow hnil))
 go_ret;exact⟨_,rfl,sliceOf_own hown' (Nat.le_succ _),hB5⟩
theorem z58 {us:List Value}(T:TypeId) (pv:Value) (g:FuncId) (hv:v=.iface T pv) (hm:∀w,(method 424 T pv "loop.example/handrail/impl.kids").run prog w=.ok (g,pv) w)
 (hc:∀args w,(callFunc g args).run prog w=.ok (.enter g args) w) (hK:Calls prog g #[pv] w (KidsPost us w)):KidsOf w v us:=⟨T,pv,g,pv,hv,hm,hc,hK⟩
theorem kidsOf {B:Nat}{us:List Value}(h:Shape B w n us v) (hi:∀u∈us,∃T p,u=.iface T p):KidsOf w v us:=by
 cases h with
 |int=>exact⟨_,_,201,.agg #[],rfl,fun w=>ye,fun args w=>ye,kids_leaf w⟩
 |bool=>exact⟨_,_,201,.agg #[],rfl,fun w=>ye,fun args w=>ye,kids_leaf w⟩
 |unit=>exact⟨_,_,201,.agg #[],rfl,fun w=>ye,fun args w=>ye,kids_leaf w⟩
 |nil=>exact⟨_,_,201,.agg #[],rfl,fun w=>ye,fun args w=>ye,kids_leaf w⟩
 |var=>exact⟨_,_,201,.agg #[],rfl,fun w=>ye,fun args w=>ye,kids_leaf w⟩
 | fn=>
   obtain⟨T0,p0,rfl⟩:=hi _ (Lh (i:=0) rfl);exact z58 _ _ 206 rfl (fun w=>ye) (fun args w=>ye) (kids_fn _ _ _ w)
 | app=>
   obtain⟨T0,p0,rfl⟩:=hi _ (Lh (i:=0) rfl);obtain⟨T1,p1,rfl⟩:=hi _ (Lh (i:=1) rfl);exact z58 _ _ 243 rfl (fun w=>ye) (fun args w=>ye) (kids_app _ _ _ _ w)
 | bind=>
   obtain⟨T0,p0,rfl⟩:=hi _ (Lh (i:=0) rfl);obtain⟨T1,p1,rfl⟩:=hi _ (Lh (i:=1) rfl);exact z58 _ _ 212 rfl (fun w=>ye) (fun args w=>ye) (kids_bind _ _ _ _ _ w)
 | recur=>
   obtain⟨T0,p0,rfl⟩:=hi _ (Lh (i:=0) rfl);obtain⟨T1,p1,rfl⟩:=hi _ (Lh (i:=1) rfl);exact z58 _ _ 209 rfl (fun w=>ye) (fun args w=>ye) (kids_recur _ _ _ _ _ _ w)
 | cond=>
   obtain⟨T0,p0,rfl⟩:=hi _ (Lh (i:=0) rfl);obtain⟨T1,p1,rfl⟩:=hi _ (Lh (i:=1) rfl);obtain⟨T2,p2,rfl⟩:=hi _ (Lh (i:=2) rfl);exact z58 _ _ 215 rfl (fun w=>ye) (fun args w=>ye) (kids_cond _ _ _ _ _ _ w)
 | sign _=>
   obtain⟨T0,p0,rfl⟩:=hi _ (Lh (i:=0) rfl);obtain⟨T1,p1,rfl⟩:=hi _ (Lh (i:=1) rfl);exact z58 _ _ 263 rfl (fun w=>ye) (fun args w=>ye) (kids_sign _ _ _ _ _ w)
 | pair=>
   obtain⟨T0,p0,rfl⟩:=hi _ (Lh (i:=0) rfl);obtain⟨T1,p1,rfl⟩:=hi _ (Lh (i:=1) rfl);exact z58 _ _ 247 rfl (fun w=>ye) (fun args w=>ye) (kids_pair _ _ _ _ w)
 | take _=>
   obtain⟨T0,p0,rfl⟩:=hi _ (Lh (i:=0) rfl);exact z58 _ _ 251 rfl (fun w=>ye) (fun args w=>ye) (kids_take _ _ _ w)
 | cons=>
   obtain⟨T0,p0,rfl⟩:=hi _ (Lh (i:=0) rfl);obtain⟨T1,p1,rfl⟩:=hi _ (Lh (i:=1) rfl);exact z58 _ _ 255 rfl (fun w=>ye) (fun args w=>ye) (kids_cons _ _ _ _ w)
 | case=>
   obtain⟨T0,p0,rfl⟩:=hi _ (Lh (i:=0) rfl);obtain⟨T1,p1,rfl⟩:=hi _ (Lh (i:=1) rfl);obtain⟨T2,p2,rfl⟩:=hi _ (Lh (i:=2) rfl);exact z58 _ _ 218 rfl (fun w=>ye) (fun args w=>ye) (kids_case _ _ _ _ _ _ _ _ w)
 | perform=>
   obtain⟨T0,p0,rfl⟩:=hi _ (Lh (i:=0) rfl);exact z58 _ _ 259 rfl (fun w=>ye) (fun args w=>ye) (kids_perform _ _ _ w)
 | handler _ hs hl=>
   obtain⟨T0,p0,rfl⟩:=hi _ (Lh (i:=0) rfl);exact z58 _ _ 221 rfl (fun w=>ye) (fun args w=>ye) (kids_handler _ _ _ _ _ w (hs.kept (Li _) La (fun _ _ _=>rfl)) hl (fun u hu=>hi u (List.mem_cons_of_mem _ hu)))
 | ret=>
   obtain⟨T0,p0,rfl⟩:=hi _ (Lh (i:=0) rfl);exact z58 _ _ 229 rfl (fun w=>ye) (fun args w=>ye) (kids_ret _ _ _ w)
 | op=>
   obtain⟨T0,p0,rfl⟩:=hi _ (Lh (i:=0) rfl);exact z58 _ _ 232 rfl (fun w=>ye) (fun args w=>ye) (kids_op _ _ _ _ _ w)
theorem max_step (d x:Nat):(if d<x then (x:Int) else (d:Int))=((max d x:Nat):Int):=by
 split<;>omega
theorem deepOf_calls:∀(N B:Nat) (n:Nd) (k:Fo) (us:List Value) (v:Value) (w:World),Forms B w k us->Shape B w n us v->k.flat.length<=300->k.flat.length<N->
 Calls prog 88 #[v] w fun e w'=> e=.returned (int i64 ((k.deep+1:Nat):Int))/\Below w.heap.size w w':= by
 intro N;induction N with
 |zero=>intro B n k us v w _ _ _ h;omega
 | succ N ih=>
   intro B n k us v w hF hS hm hN;obtain⟨T,pv,g,rv,rfl,hmth,hcf,hK⟩:=kidsOf hS hF.ifaces;have hlen:=hF.length;have hd:=Fo.deep_le k;have HI:O (∀(B:Nat) (n:Nd) (k:Fo) (us:List Value) (v:Value) (w:World),_):=ih;have HF:O (Forms B w k us/\us.length=k.count/\k.flat.length<=300/\k.flat.length<N+1/\k.deep<=k.flat.length):=⟨hF,hlen,hm,hN,hd⟩
   have HK:O (Calls _ _ _ _ _):=hK;clear ih hF hS hm hN hlen hd hK;go_enter func88,ntmps88
   go_wp2_with fail
   refine HK.o.mono ?_;rintro e w1 ⟨sv,rfl,hsl,hb1⟩;clear HK hmth hcf;rcases hsl with ⟨rfl,ad,c,rfl⟩|⟨g0,o,cap,rfl,_,hg0,hc0⟩
   ·have hk:k=.none:=by
     have:=HF.o.2.1
     cases k with
     |none=>rfl
     |tree=>simp[Fo.count]at this
    subst hk;go_wp2_with fail
    refine wp_loop_rounds 1 ?_;rw[rounds_succ];go_wp2_with fail
    go_ret;exact⟨rfl,hb1⟩
   .obtain⟨L,hL⟩:∃L,us.length=L:=⟨_,rfl⟩
    have HC0:O (us.length=L/\ ∀j,j<us.length->w1.cell? ⟨g0,o+j,none⟩=us[j]?):=⟨hL,hc0⟩
    rw[hL];clear hc0 hL;go_wp2_with fail
    go_loopw [3,9] (fun d i wr=> ∃(d' i':Nat) (r:Fo) (rest:List Value),d=int i64 d'/\i=int i64 i'/\O (Forms B wr r rest/\us.drop i'= rest/\i'+ r.count=L/\max d' r.deep=k.deep/\r.flat.length<N+1/\r.flat.length<=300)/\Below w1.heap.size w1 wr) (fun _ i _=>L-(intOf i).toNat)
    case atStart=>
     obtain⟨f1,f2,f3,f4,f5⟩:=HF.o;exact⟨0,0,k,us,rfl,rfl,⟨f1.below hb1,rfl,by rw[<-f2,HC0.o.1];omega,ya,f4,f3⟩,Lb⟩
    case round=>
     obtain⟨d',i',r,rest,rfl,rfl,HR,hbr⟩:=hrel;have hB:=hb1.trans (hbr.mono hb1.size);have HD:O (k.deep<=300):=by show _<=_;have:=HF.o;omega
     cases r with
     | none=>
       obtain⟨_,_,h1,h2,_⟩:=HR.o;simp only[Fo.count,Fo.deep]at h1 h2;have h1':i'= L:=ya;have h2':d'= k.deep:=ya;subst h1';have HD2:O (d'= k.deep):=h2';clear HR h1 h2 h2' HI HF;go_wp2_with fail
       try rw[z30 (by rw[HD2.o];have:=HD.o;omega)]
       go_ret;exact⟨by rw[<-HD2.o];rfl,hB⟩
     | tree n' k' r'=>
       obtain⟨⟨v',us',rest',e1,hF1,hS1,hF2⟩,e2,h1,h2,h3,h4⟩:=HR.o;simp only[Fo.count,Fo.deep,Fo.flat,Ll,Lk]at h1 h2 h3 h4;rw[e1]at e2;have hi:(i':Int)<(L:Int):=ya;have hil:i'<us.length:=by rw[HC0.o.1];omega
       have hcell:wr.cell? ⟨g0,o+i',none⟩=some v':= by
        rw[hbr.cell (p:=⟨g0,o+i',none⟩) hg0,HC0.o.2 i' hil];rw[List.drop_eq_getElem_cons hil]at e2;rw[Lr hil,(List.cons.inj e2).1]
       have hdrop:us.drop (i'+ 1)=rest':= by
        rw[List.drop_eq_getElem_cons hil]at e2;exact(List.cons.inj e2).2
       obtain⟨T',p',rfl⟩:=hS1.iface;have hIH:=HI.o B n' k' us' _ wr hF1 hS1 ya ya;have HC:O (Calls _ _ _ _ _):=hIH;have HX:O (Forms B wr r' rest'/\us.drop (i'+ 1)=rest'/\i'+ 1+r'.count=L/\max (max d' (k'.deep+1)) r'.deep=k.deep/\r'.flat.length<N+1/\r'.flat.length<=300):=⟨hF2,hdrop,ya,ya,ya,ya⟩
       clear HR hF1 hS1 hF2 e1 e2 h1 h2 h3 h4 hil hdrop hIH;generalize k'.deep+1=x at*;go_wp2_with fail
       refine HC.o.mono ?_;rintro e w2 ⟨rfl,hb2⟩;have hbr2:=hbr.trans (hb2.mono hbr.size);have HB2:O (Below wr.heap.size wr w2):=hb2;clear hb2;go_wp2_with fail
       have hi9:i'<=1048576:=by have:=HF.o;have:=HC0.o.1;have:=Fo.count_le k;omega
       rw[z30 hi9];obtain⟨x1,x2,x3,x4,x5,x6⟩:=HX.o;exact⟨⟨max d' x,i'+ 1,r',rest',by rw[max_step],rfl,⟨x1.below HB2.o,x2,x3,x4,x5,x6⟩,hbr2⟩,z55 hi⟩
end
end Go.Proofs.YtbbffkiobmbkfaaGreatDoor
