import Derived.Test.YtbbffkiobmbkfaaGreatDoorPkV17
open Go.Proofs.Tryz
open Go.Value Go.IntKind
set_option maxHeartbeats 8000000
set_option maxRecDepth 100000
namespace Go.Proofs.YtbbffkiobmbkfaaGreatDoor
open Go.RowKit Go.Deep
variable {s:Cs}{W:World}
section
open Go.RowKit Go.Deep
def bys (l:List Tx):List ByteArray:=l.map fun x=>⟨x.toArray⟩
theorem bys_len (l:List Tx):(bys l).length=l.length:=by unfold bys;simp
theorem bys_get (l:List Tx) (j:Nat) (h:j<l.length):(bys l).getD j ⟨#[]⟩=⟨(l.getD j []).toArray⟩:=by
 unfold bys;simp[List.getD,h]
def addGo (s:Tx):List Tx->Bool->List Tx->List Tx
 |[],pt,acc=>if pt then acc else acc++ [s]
 |y::r,pt,acc=>if pt=false/\s<y then addGo s r true (acc++ [s]++ [y]) else addGo s r pt (acc++ [y])
theorem addGo_true (s:Tx):∀(l acc:List Tx),addGo s l true acc=acc++l
 |[],acc=>by simp[addGo]
 |y::r,acc=>by simp[addGo,addGo_true s r]
theorem addGo_false (s:Tx):∀(l acc:List Tx),addGo s l false acc=acc++insL l s
 |[],acc=>by simp[addGo,insL]
 | y::r,acc=>by
   unfold addGo insL;by_cases h:s<y
   .rw[if_pos ⟨rfl,h⟩,if_pos h,addGo_true];simp
   .rw[if_neg (fun x=>h x.2),if_neg h,addGo_false s r];simp
def memB (ss:List ByteArray) (s:ByteArray):Bool:=ss.any fun x=>x.toList==s.toList
theorem memB_iff (ss:List ByteArray) (s:ByteArray):memB ss s=true↔s∈ss:=by
 unfold memB;rw[List.any_eq_true];constructor
 .rintro⟨x,hx,h⟩;rw[str_eq,decide_eq_true_eq]at h;rwa[<-h]
 .intro h;exact⟨s,h,by rw[str_eq,decide_eq_true_eq]⟩
theorem in_none (s:ByteArray) (w:World):Calls prog 69 #[.slice none 0 0,.string s] w fun e w'=> e=.returned (.bool false)/\w'= w:=by
 go_enter func69,ntmps69
 go_wp2_with fail
 refine wp_loop_rounds 1 ?_;rw[rounds_succ];go_wp2_with fail
 go_ret;exact⟨rfl,rfl⟩
theorem in_any {v:Value}{ss:List ByteArray}(s:ByteArray) (w:World) (h:NamesV w v ss) (hl:ss.length<=1000000):Calls prog 69 #[v,.string s] w fun e w'=> e=.returned (.bool (memB ss s))/\w'= w:=by
 rcases h with ⟨rfl,rfl⟩|⟨g,o,c,rfl,hg,hc⟩
 .exact in_none s w
 .refine(in_calls g o ss.length c ss s w La hl hc).mono ?_;rintro e w' ⟨rfl,rfl⟩;rw[List.take_length];exact⟨rfl,rfl⟩
theorem add_step {w wr W':World}{out v':Value}{acc:List Tx}{y:Tx}{yb:ByteArray}{o:Obj}(hy:(⟨y.toArray⟩:ByteArray)=yb) (h:wr.ownsRow w.heap.size 9 1 out acc.length (strRow (bys acc))/\Below w.heap.size w wr) (hown:W'.ownsRow w.heap.size 9 1 v' (acc.length+1) (strRow (bys acc)++ [.string yb])) (hg:(wr.alloc o).grownBy W' out.ownBlock) :
 W'.ownsRow w.heap.size 9 1 v' (acc++ [y]).length (strRow (bys (acc++ [y])))/\Below w.heap.size w W':= by
 subst hy;have hs:=h.2.size;refine⟨?_,Below.grown (h.2.alloc ya _) hg jd (fun j hj=>(h.1.lt _ hj).1)⟩;rw[Lk,show bys (acc++ [y])=bys acc++ [⟨y.toArray⟩] by unfold bys;rw[List.map_append];rfl,strRow_snoc];exact hown
theorem bytes_back (s:ByteArray):(⟨s.data.toList.toArray⟩:ByteArray)=s:=rfl
theorem add_calls {v:Value}{l:List Tx}(s:ByteArray) (w:World) (hv:NamesV w v (bys l)) (hl:l.length<=90000) :
 Calls prog 70 #[v,.string s] w fun e w'=> ∃u,e=.returned u/\NamesV w' u (bys (addL l s.data.toList))/\Below w.heap.size w w':= by
 obtain⟨ad,cp,rfl⟩:=hv.slice;rw[bys_len]at hv |-;obtain⟨L,hL⟩:∃L,l.length=L:=⟨_,rfl⟩
 have HV:=U hv;have HL:=U (Lc hL hl);rw[hL]at HV |-;clear hv hl hL;obtain⟨i0,hinf,hz0,hz1,hz2⟩:=info_parts info_str;go_enter func70,ntmps70
 go_wp2_with fail
 go_loopw [5,6,7] (fun out put i wr=> ∃(i':Nat) (pt:Bool) (acc:List Tx),i=int i64 i'/\put=.bool pt/\i'<=L/\O (wr.ownsRow w.heap.size 9 1 out acc.length (strRow (bys acc))/\Below w.heap.size w wr)/\O (s.data.toList∉l.take i'/\addGo s.data.toList (l.drop i') pt acc=insL l s.data.toList/\acc.length<=i'+ pt.toNat)) (fun _ _ i _=>L-(intOf i).toNat)
 case atStart=>exact⟨0,false,[],rfl,rfl,Li _,⟨World.ownsRow_nil _ _ _ _,Lb⟩,⟨yq,by rw[List.drop_zero,addGo_false];rfl,Li _⟩⟩
 case round=>
  obtain⟨i',pt,acc,rfl,rfl,hle,HO,HA⟩:=hrel;by_cases hi:(i':Int)<(L:Int)
  .have hcx:=HV.o.cell (by omega:0<L);obtain⟨-,g,o,rfl,hg,hc⟩:=hcx;have hcell:=(HO.o.2.cell (p:=⟨g,o+i',none⟩) hg).trans (hc i' ya);have hil:i'<l.length:=ud;rw[bys_get l i' hil]at hcell;obtain⟨y,hy⟩:∃y,l.getD i' []=y:=⟨_,rfl⟩
   rw[hy]at hcell;have hyd:l.drop i'= y::l.drop (i'+ 1):=by rw[List.drop_eq_getElem_cons hil,<-hy];simp[List.getD,hil]
   have hyt:l.take (i'+ 1)=l.take i'++ [y]:=by rw[List.take_add_one,<-hy];simp[List.getD,hil]
   have HY:=U (Lc hyd hyt);obtain⟨yb,hyb⟩:∃yb:ByteArray,(⟨y.toArray⟩:ByteArray)=yb:=⟨_,rfl⟩
   rw[hyb]at hcell;have HYb:=U hyb;have hyl:yb.toList=y:=by rw[<-hyb];simp
   have HYl:=U hyl;have HC0:O (w.cell? ⟨g,o+i',none⟩=some (.string yb)):=(HO.o.2.cell (p:=⟨g,o+i',none⟩) hg).symm.trans hcell;have HLn:O (acc.length<=90001):=wz;clear hc hy hyb hyd hyt hil hyl;have hi0:(0:Int)<=(i':Int):=ya
   cases heq:(yb.toList==s.toList) with
   | true=>
     have HM:O (s.data.toList∈l):=by
      show _∈_;have e1:y=s.data.toList:=by rw[<-HYl.o,<-ByteArray.toList_eq];simpa using heq
      have:=List.mem_of_mem_drop (i:=i') (l:=l) (a:=y) (by rw[HY.o.1];exact List.mem_cons_self);rwa[e1]at this
     go_wp2_with fail
     go_ret;refine⟨_,rfl,?_,HO.o.2⟩;unfold addL;rw[if_pos HM.o];exact HV.o.below HO.o.2
   | false=>
     have hne:y≠s.data.toList:=by
      intro e1;rw[HYl.o,e1,ByteArray.toList_eq]at heq;simp at heq
     have HNe:O (s.data.toList∉l.take (i'+ 1)):=by
      show _∉_;rw[HY.o.2,List.mem_append,Ls];rintro (h|h)
      .exact HA.o.1 h
      .exact hne h.symm
     clear hne;have hstep:L-(intOf (int i64 ((i'+ 1:Nat):Int))).toNat<L-(intOf (int i64 (i':Int))).toNat:=lt_step' hi
     cases pt with
     | true=>
       have HG:O (addGo s.data.toList (l.drop (i'+ 1)) true (acc++ [y])=insL l s.data.toList):=by
        show _=_;rw[<-HA.o.2.1,HY.o.1];conv=>rhs;unfold addGo
        rw[if_neg yq]
       have HAl:=U HA.o.2.2;clear HA;go_wp2_with (first
        | (at_builtin;refine wpList_append_own_at _ rfl _ _ 33 rfl w.heap.size 9 i0 (.string ⟨#[]⟩) 1 16 underlying33 hinf hz0 hz1 hz2 rfl yk _ _ _ rfl (HO.o.1.alloc _) ⟨wr.heap.size,0,none⟩ 1 1 [.string yb] rfl rfl (z74 _ _ rfl _ _) (fun x hx=>jk) ke kf kg ?_
           intro v5HOa w5HOa hown' hgrow hnil hat;have HOa:=U (add_step HYb.o HO.o hown' hgrow);clear hown' hgrow hnil hat))
       try rw[z30 jc]
       exact⟨⟨i'+ 1,true,acc++ [y],rfl,rfl,ya,HOa,⟨HNe.o,HG.o,kh⟩⟩,hstep⟩
     | false=>
       cases hlt:Op.bytesLess s.toList yb.toList with
       | true=>
         have hsy:s.data.toList<y:=by rw[bytesLess_eq,HYl.o,ByteArray.toList_eq]at hlt;exact of_decide_eq_true hlt
         have HG:O (addGo s.data.toList (l.drop (i'+ 1)) true (acc++ [s.data.toList]++ [y])=insL l s.data.toList):=by
          show _=_;rw[<-HA.o.2.1,HY.o.1];conv=>rhs;unfold addGo
          rw[if_pos ⟨rfl,hsy⟩]
         have HAl:=U HA.o.2.2;have HLn2:O ((acc++ [s.data.toList]).length<=90002):=by show _<=_;rw[Lk];exact Nat.succ_le_succ HLn.o
         clear HA hsy;go_wp2_with (first
          | (at_builtin;refine wpList_append_own_at _ rfl _ _ 33 rfl w.heap.size 9 i0 (.string ⟨#[]⟩) 1 16 underlying33 hinf hz0 hz1 hz2 rfl yk _ _ _ rfl (HO.o.1.alloc _) ⟨wr.heap.size,0,none⟩ 1 1 [.string s] rfl rfl (z74 _ _ rfl _ _) (fun x hx=>jk) ke kf kg ?_
             intro v5HOb w5HOb hown' hgrow hnil hat;have HOb:=U (add_step (bytes_back s) HO.o hown' hgrow);have hcell2:=(HOb.o.2.cell (p:=⟨g,o+i',none⟩) hg).trans HC0.o;clear hown' hgrow hnil hat)
          | (at_builtin;refine wpList_append_own_at _ rfl _ _ 33 rfl w.heap.size 9 i0 (.string ⟨#[]⟩) 1 16 underlying33 hinf hz0 hz1 hz2 rfl yk _ _ _ rfl (HOb.o.1.alloc _) ⟨w5HOb.heap.size,0,none⟩ 1 1 [.string yb] rfl rfl (z74 _ _ rfl _ _) (fun x hx=>jk) (by have:=HLn2.o;unfold maxLen;omega) (by have:=HLn2.o;omega) (by have:=HOb.o.2.size;simp;omega) ?_
             intro v5HOc w5HOc hown' hgrow hnil hat;have HOc:=U (add_step HYb.o HOb.o hown' hgrow);clear hown' hgrow hnil hat))
         try rw[z30 jc]
         exact⟨⟨i'+ 1,true,acc++ [s.data.toList]++ [y],rfl,rfl,ya,HOc,⟨HNe.o,HG.o,by have hq:=HAl.o;rw[Lk,Lk];simp[Bool.toNat]at hq |-;omega⟩⟩,hstep⟩
       | false=>
         have hsy:¬ s.data.toList<y:=by rw[bytesLess_eq,HYl.o,ByteArray.toList_eq]at hlt;exact of_decide_eq_false hlt
         have HG:O (addGo s.data.toList (l.drop (i'+ 1)) false (acc++ [y])=insL l s.data.toList):=by
          show _=_;rw[<-HA.o.2.1,HY.o.1];conv=>rhs;unfold addGo
          rw[if_neg (fun x=>hsy x.2)]
         have HAl:=U HA.o.2.2;clear HA hsy;go_wp2_with (first
          | (at_builtin;refine wpList_append_own_at _ rfl _ _ 33 rfl w.heap.size 9 i0 (.string ⟨#[]⟩) 1 16 underlying33 hinf hz0 hz1 hz2 rfl yk _ _ _ rfl (HO.o.1.alloc _) ⟨wr.heap.size,0,none⟩ 1 1 [.string yb] rfl rfl (z74 _ _ rfl _ _) (fun x hx=>jk) ke kf kg ?_
             intro v5HOd w5HOd hown' hgrow hnil hat;have HOd:=U (add_step HYb.o HO.o hown' hgrow);clear hown' hgrow hnil hat))
         try rw[z30 jc]
         exact⟨⟨i'+ 1,false,acc++ [y],rfl,rfl,ya,HOd,⟨HNe.o,HG.o,kh⟩⟩,hstep⟩
  .have e:i'= L:=by omega
   subst e;have hdn:l.drop i'= []:=List.drop_eq_nil_of_le ud;have htk:l.take i'= l:=List.take_of_length_le ud;have HAd:O (addL l s.data.toList=insL l s.data.toList):=by
    show _=_;unfold addL;rw[if_neg];have:=HA.o.1;rwa[htk]at this
   have HLn:O (acc.length<=90001):=wz
   cases pt with
   | true=>
     have HG:O (acc=insL l s.data.toList):=by
      show _=_;rw[<-HA.o.2.1,hdn];simp[addGo]
     clear HA hdn htk;go_wp2_with fail
     go_ret;refine⟨_,rfl,?_,HO.o.2⟩;rw[HAd.o,<-HG.o];exact(names_owns HO.o.1).1
   | false=>
     have HG:O (acc++ [s.data.toList]=insL l s.data.toList):=by
      show _=_;rw[<-HA.o.2.1,hdn];simp[addGo]
     clear HA hdn htk;go_wp2_with (first
      | (at_builtin;refine wpList_append_own_at _ rfl _ _ 33 rfl w.heap.size 9 i0 (.string ⟨#[]⟩) 1 16 underlying33 hinf hz0 hz1 hz2 rfl yk _ _ _ rfl (HO.o.1.alloc _) ⟨wr.heap.size,0,none⟩ 1 1 [.string s] rfl rfl (z74 _ _ rfl _ _) (fun x hx=>jk) ke kf kg ?_
         intro v5HOe w5HOe hown' hgrow hnil hat;have HOe:=U (add_step (bytes_back s) HO.o hown' hgrow);clear hown' hgrow hnil hat))
     go_ret;refine⟨_,rfl,?_,HOe.o.2⟩;rw[HAd.o,<-HG.o];exact(names_owns HOe.o.1).1
def freeK (old:Nd):Nat->Fo->List ByteArray->List Tx->List Tx
 |_,.none,_,out=>out
 |i,.tree n k r,bd,out=>freeK old (i+1) r bd (if n.kind=5 then (if memB (bd++knownZ old i) n.a then out else addL out n.a.data.toList) else freeK n 0 k (bd++knownZ old i) out)
def freeN (n:Nd) (k:Fo) (bd:List ByteArray) (out:List Tx):List Tx:=if n.kind=5 then (if memB bd n.a then out else addL out n.a.data.toList) else freeK n 0 k bd out
theorem freeK_tree (old n:Nd) (k r:Fo) (i:Nat) (bd:List ByteArray) (out:List Tx):freeK old i (.tree n k r) bd out=freeK old (i+1) r bd (freeN n k (bd++knownZ old i) out):=by
 unfold freeN;rw[freeK]
theorem insL_len (s:Tx):∀l:List Tx,(insL l s).length=l.length+1
 |[]=>rfl
 | x::r=>by
   unfold insL;split
   .rfl
   .rw[Ll,insL_len s r,Ll]
theorem addL_len (l:List Tx) (s:Tx):(addL l s).length<=l.length+1:=by
 unfold addL;split
 .omega
 .rw[insL_len];exact La
theorem freeK_len:∀(f:Fo) (old:Nd) (i:Nat) (bd:List ByteArray) (out:List Tx),(freeK old i f bd out).length<=out.length+f.flat.length
 |.none,_,_,_,_=>by simp[freeK,Fo.flat]
 | .tree n k r,old,i,bd,out=>by
   rw[freeK];have h1:=freeK_len r old (i+1) bd (if n.kind=5 then (if memB (bd++knownZ old i) n.a then out else addL out n.a.data.toList) else freeK n 0 k (bd++knownZ old i) out);have h2:=freeK_len k n 0 (bd++knownZ old i) out;have h3:=addL_len out n.a.data.toList;have h4:(if n.kind=5 then (if memB (bd++knownZ old i) n.a then out else addL out n.a.data.toList) else freeK n 0 k (bd++knownZ old i) out).length<=out.length+1+k.flat.length:=by
    repeat' split
    all_goals omega
   simp only[Fo.flat,Ll,Lk];omega
theorem freeN_len (n:Nd) (k:Fo) (bd:List ByteArray) (out:List Tx):(freeN n k bd out).length<=out.length+1+k.flat.length:=by
 have h2:=freeK_len k n 0 bd out;have h3:=addL_len out n.a.data.toList;unfold freeN;repeat' split
 all_goals omega
theorem free_calls (b off cap:Nat) (ns:List Nd) (hm:ns.length<=300) (hok:∀m∈ns,m.kind=9->m.kids<=2):∀(N:Nat) (n:Nd) (k:Fo) (suf:List Nd) (p:Nat) (bd:List ByteArray) (out:List Tx) (bv ov:Value) (w:World),b<w.heap.size->NodesAt w b off ns->ns.drop p=n::(k.flat++suf)->n.kids=k.count->k.wf->k.flat.length<N->NamesV w bv bd->NamesV w ov (bys out)->bd.length+2*k.flat.length<=1000->out.length+k.flat.length<=1000->
 Calls prog 26 #[.slice (some ⟨b,off,none⟩) ns.length cap,int i64 (p:Int),bv,ov] w fun e w'=> ∃u,e=.returned u/\NamesV w' u (bys (freeN n k bd out))/\Below w.heap.size w w':= by
 intro N;induction N with
 |zero=>intro n k suf p bd out bv ov w _ _ _ _ _ h;omega
 | succ N ih=>
   intro n k suf p bd out bv ov w hbw hn hp hkc hk hN hbd hov hbl hol;obtain⟨hpl,hpn,hp1⟩:=at_drop hp;obtain⟨c0,c1,c2,c3,c4,c5⟩:=fsx (hn p hpl);rw[hpn]at c0 c1 c2 c3 c4 c5;simp only[Nd.cell,Nat.add_zero]at c0 c1 c2 c3 c4 c5;have HIH:=U ih;have HN:=U hn;have HM:=U hm;have HP1:=U hp1;have HWf:=U hk;have HNl:=U hN;have HBd:=U hbd;have HOv:=U hov;have HLs:=U (Lc hbl hol);have HK9:=U (hok n (by rw[<-List.take_append_drop p ns,hp];simp));have HPl:=U hpl;have HCt:O (k.count<=1000):=by
    show _<=_;have:=Fo.count_le k;omega
   obtain⟨ad3,cp3,rfl⟩:=hov.slice;obtain⟨ad2,cp2,rfl⟩:=hbd.slice;obtain⟨kd,num,a,bb,cc,kids⟩:=n;dsimp only at*;obtain⟨kc,hkc'⟩:∃kc,k.count=kc:=⟨_,rfl⟩
   rw[hkc']at hkc;have HKc:=U hkc';subst hkc;obtain⟨len,hlen⟩:∃len,ns.length=len:=⟨_,rfl⟩
   have Hlen:=U hlen;rw[hlen]at hpl |-;have hpl2:(p:Int)<(len:Int):=ya;have hp0:(0:Int)<=(p:Int):=ya;obtain⟨bl,hbl2⟩:∃bl,bd.length=bl:=⟨_,rfl⟩
   obtain⟨ol,hol2⟩:∃ol,(bys out).length=ol:=⟨_,rfl⟩
   rw[hbl2,hol2];rw[hbl2]at HBd;rw[hol2]at HOv;clear ih hn hm hp1 hk hN hbd hov hbl hol hp hpn hkc' hlen hok hbl2 hol2;go_enter func26,ntmps26
   by_cases k5:(kd==5)=true
   .have hba:=(Below.refl w.heap.size w).alloc La (.cells #[int i64 kd,int i64 num,.string a,.string bb,.string cc,int i64 (kc:Int)] 68);have HIn:=U (in_any a _ (HBd.o.below hba) (by have:=HLs.o.1;omega));have HAd:=U (fun X (hb:Below w.heap.size w X)=>add_calls a X (HOv.o.below hb) (by have:=HLs.o.2;omega));have e5:=U (show kd=5 from eq_of_beq k5);have HBa:=U hba;clear hba HIH;go_wp2_with fail
    refine HIn.o.mono ?_;rintro e w2 ⟨rfl,rfl⟩
    cases hmb:memB bd a with
    | true=>
      have HT:O (freeN ⟨kd,num,a,bb,cc,kc⟩ k bd out=out):=by
       show _=_;unfold freeN;rw[if_pos e5.o,if_pos hmb]
      go_wp2_with fail
      go_ret;refine⟨_,rfl,?_,HBa.o⟩;rw[HT.o];exact HOv.o.below HBa.o
    | false=>
      have HT:O (freeN ⟨kd,num,a,bb,cc,kc⟩ k bd out=addL out a.data.toList):=by
       show _=_;unfold freeN;rw[if_pos e5.o,if_neg (by rw[hmb];decide)]
      go_wp2_with fail
      refine(HAd.o _ HBa.o).mono ?_;rintro e w3 ⟨u,rfl,hu,hb3⟩;have HU:=U (Lc hu hb3);clear hu hb3;go_wp2_with fail
      go_ret;refine⟨_,rfl,?_,HBa.o.trans (HU.o.2.mono HBa.o.size)⟩;rw[HT.o];exact HU.o.1
   .have hne5:=U (show kd≠5 from fun e=>k5 zw);obtain⟨TG,hTG⟩:∃TG,freeN ⟨kd,num,a,bb,cc,kc⟩ k bd out=TG:=⟨_,rfl⟩
    have HTG:O (freeK ⟨kd,num,a,bb,cc,kc⟩ 0 k bd out=TG):=by
     show _=_;rw[<-hTG];unfold freeN;rw[if_neg hne5.o]
    rw[hTG];clear hTG;have hA:=(Ld w (.cells #[int i64 kd,int i64 num,.string a,.string bb,.string cc,int i64 (kc:Int)] 68)).1;have hba:=(Below.refl w.heap.size w).alloc La (.cells #[int i64 kd,int i64 num,.string a,.string bb,.string cc,int i64 (kc:Int)] 68);have HA:=U (Lc hA hba);clear hA hba;go_wp2_with fail
    clear c0 c1 c2 c3 c4 c5;generalize w.alloc (.cells #[int i64 kd,int i64 num,.string a,.string bb,.string cc,int i64 (kc:Int)] 68)=wA at*;rw[z30 (by have:=HPl.o;have:=HM.o;omega)];generalize p+1=p1 at*;go_loopw [3,10,11] (fun o q i wr=> ∃(q' i':Nat) (r:Fo) (ot:List Tx),q=int i64 q'/\i=int i64 i'/\O (ns.drop q'= r.flat++suf/\r.wf/\i'+ r.count=kc/\r.flat.length<N+1/\r.flat.length<=k.flat.length/\freeK ⟨kd,num,a,bb,cc,kc⟩ i' r bd ot=TG/\ot.length+r.flat.length<=1000)/\O (NamesV wr o (bys ot))/\O (Below wA.heap.size wA wr)) (fun _ _ i _=>kc-(intOf i).toNat)
    case atStart=>exact⟨p1,0,k,out,rfl,rfl,⟨HP1.o,HWf.o,by rw[HKc.o];omega,HNl.o,La,HTG.o,by have:=HLs.o.2;omega⟩,HOv.o.below HA.o.2,Lb⟩
    case round=>
     obtain⟨q',i',r,ot,rfl,rfl,HR,HOt,HB⟩:=hrel;have hx:=(HB.o.block _ (z13 HA.o.1)).trans HA.o.1;obtain⟨c0,c1,c2,c3,c4,c5⟩:=fcl6 hx;have HX:=U hx;clear hx
     cases r with
     | none=>
       obtain⟨_,_,h1,_,_,h2,_⟩:=HR.o;simp only[Fo.count,freeK]at h1 h2;have h1':i'= kc:=ya;subst h1';subst h2;clear HR h1;go_wp2_with fail
       go_ret;exact⟨_,rfl,HOt.o,HA.o.2.trans (HB.o.mono HA.o.2.size)⟩
     | tree n' k' r'=>
       obtain⟨h0,hw,h1,h3,h3',h4,h5⟩:=HR.o;obtain⟨hw0,hw1,hw2⟩:=hw;simp only[Fo.count,Fo.flat,Ll,Lk]at h1 h3 h3' h5;simp only[Fo.flat,Ln,Lo]at h0;obtain⟨hql,hqn,hq1⟩:=at_drop h0;have hend:treeEnd ns q'= _:=treeEnd_at h0 hw0 hw1;have hnew:=drop_past hq1;rw[freeK_tree]at h4;have hi:(i':Int)<(kc:Int):=ya;have hfl:=freeN_len n' k' (bd++knownZ ⟨kd,num,a,bb,cc,kc⟩ i') ot
       have HNx:O (ns.drop (q'+ 1+k'.flat.length)=r'.flat++suf/\r'.wf/\i'+ 1+r'.count=kc/\r'.flat.length<N+1/\r'.flat.length<=k.flat.length/\freeK ⟨kd,num,a,bb,cc,kc⟩ (i'+ 1) r' bd (freeN n' k' (bd++knownZ ⟨kd,num,a,bb,cc,kc⟩ i') ot)=TG/\(freeN n' k' (bd++knownZ ⟨kd,num,a,bb,cc,kc⟩ i') ot).length+r'.flat.length<=1000):=⟨hnew,hw2,ya,ya,ya,h4,ya⟩
       have hkl:=knownZ_len ⟨kd,num,a,bb,cc,kc⟩ i';have HC:=U (fun(X:World) (bv ov:Value) (h1:b<X.heap.size) (h2:NodesAt X b off ns) (h3:NamesV X bv (bd++knownZ ⟨kd,num,a,bb,cc,kc⟩ i')) (h4:NamesV X ov (bys ot))=>HIH.o n' k' (r'.flat++suf) q' (bd++knownZ ⟨kd,num,a,bb,cc,kc⟩ i') ot bv ov X h1 h2 h0 hw0 hw1 ya h3 h4 (by rw[Lk];have:=HLs.o.1;omega) ya);have HQ:=U (Lc hql hend);have HBi:=U (fun X=>binds_calls ⟨kd,num,a,bb,cc,kc⟩ i' X (fun e=>by have:=HK9.o e;omega));unfold ndV at HBi;dsimp only at HBi
       have HKl:O (bd.length+(knownZ ⟨kd,num,a,bb,cc,kc⟩ i').length<=2000):=by show _<=_;have:=HLs.o.1;omega
       clear HR h0 hw0 hw1 hw2 hql hqn hq1 hend hnew h4 h1 h3 h3' h5 hfl hkl;obtain⟨ad5,cp5,ho5⟩:=HOt.o.slice;rw[Hlen.o]at HC;subst ho5;have hS:Below wr.heap.size wr wr.drew:=Lb.drew;have q0:=fun(y:World) (h:Below wr.heap.size wr y)=>(h.cell (p:=⟨w.heap.size,0,none⟩) (z13 HX.o)).trans c0
       have q1:=fun(y:World) (h:Below wr.heap.size wr y)=>(h.cell (p:=⟨w.heap.size,1,none⟩) (z13 HX.o)).trans c1
       have q2:=fun(y:World) (h:Below wr.heap.size wr y)=>(h.cell (p:=⟨w.heap.size,2,none⟩) (z13 HX.o)).trans c2
       have q3:=fun(y:World) (h:Below wr.heap.size wr y)=>(h.cell (p:=⟨w.heap.size,3,none⟩) (z13 HX.o)).trans c3
       have q4:=fun(y:World) (h:Below wr.heap.size wr y)=>(h.cell (p:=⟨w.heap.size,4,none⟩) (z13 HX.o)).trans c4
       have q5:=fun(y:World) (h:Below wr.heap.size wr y)=>(h.cell (p:=⟨w.heap.size,5,none⟩) (z13 HX.o)).trans c5
       go_upto_region 1 with fail
       refine z31 (S:=fun w'=> Below wr.heap.size wr w') ye rfl rfl ?_;refine pick_o 0 (.slice (some ⟨b,off,none⟩) len cap) hS ?_;refine pick_o 1 (int i64 (q':Int)) hS ?_;refine pick_o 3 (.slice ad2 bl cp2) hS ?_;refine pick_o (hy:=fun w' hw'=> by simp[go_sem,q0 w' hw',q1 w' hw',q2 w' hw',q3 w' hw',q4 w' hw',q5 w' hw']) 5 (.agg #[int i64 kd,int i64 num,.string a,.string bb,.string cc,int i64 (kc:Int)]) hS ?_;refine pick_o 6 (int i64 (i':Int)) hS ?_;refine pick_o 9 (.slice ad5 (bys ot).length cp5) hS ?_
       refine z27 (i:=2) (v:=.slice (some ⟨wr.heap.size,0,none⟩) 0 0) (w1:=wr.drew.alloc (.cells #[] 9)) rfl ye rfl rfl yf (hS.alloc La _) yg ?_;clear c0 c1 c2 c3 c4 c5 q0 q1 q2 q3 q4 q5;have hX0:=hS.alloc La (.cells #[] 9);have hown0:(wr.drew.alloc (.cells #[] 9)).ownsRow wr.heap.size 9 1 (.slice (some ⟨wr.heap.size,0,none⟩) 0 0) 0 (strRow []):=World.ownsRow_made wr.drew #[] 0 La (Li _) rfl;generalize wr.drew.alloc (.cells #[] 9)=X0 at*;have HBdr:=U ((HBd.o.below HA.o.2).below HB.o)
       obtain⟨v1,X1,hrun1,hown1,hg1,-⟩:=app_names (ss:= []) (ys:=bd) 33 hown0 (HBdr.o.below hX0) (by have:=HKl.o;simp;omega) hX0.size;have hX1:Below wr.heap.size wr X1:=Below.grown hX0 hg1 hX0.size (fun j hj=>(hown0.lt _ hj).1);refine z27 (i:=4) (v:=v1) (w1:=X1) rfl ye rfl rfl (z45 (s:=.tmp 38) (x:=.tmp 39) (t:=33) rfl rfl rfl hrun1) hX1 yg ?_;rw[List.nil_append]at hown1;clear hrun1 hg1 hown0 hX0;refine z26 (i:=7) (f:=71) (args:= #[.agg #[int i64 kd,int i64 num,.string a,.string bb,.string cc,int i64 (kc:Int)],int i64 (i':Int)]) rfl ye rfl rfl yf ?_;refine(HBi.o X1).mono ?_
       rintro e X2 ⟨sv,rfl,hnv,hb2⟩;have hX2:=hX1.trans (hb2.mono hX1.size);refine⟨sv,rfl,hX2,?_⟩;refine z25 yg ?_;have hown2:=owns_below hown1 hb2;obtain⟨v3,X3,hrun3,hown3,hg3,-⟩:=app_names 33 hown2 hnv ki (Lf hX1.size hb2.size);have hX3:Below wr.heap.size wr X3:=Below.grown hX2 hg3 hX2.size (fun j hj=>(hown2.lt _ hj).1);refine z27 (i:=8) (v:=v3) (w1:=X3) rfl ye rfl rfl (z45 (s:=.tmp 40) (x:=.tmp 43) (t:=33) rfl rfl rfl hrun3) hX3 yg ?_;clear hrun3 hg3 hown1 hown2 hnv hb2 hX2 hX1;have hw3:=HA.o.2.trans ((HB.o.trans (hX3.mono HB.o.size)).mono HA.o.2.size)
       refine z26 (i:=10) (f:=26) (args:= #[.slice (some ⟨b,off,none⟩) len cap,int i64 (q':Int),v3,.slice ad5 (bys ot).length cp5]) rfl ye rfl rfl yf ?_;refine(HC.o X3 v3 _ (by have:=hw3.size;omega) (HN.o.below hw3 hbw) (names_owns hown3).1 (HOt.o.below hX3)).mono ?_;rintro e X4 ⟨u,rfl,hu,hb4⟩;have hX4:=hX3.trans (hb4.mono hX3.size);refine⟨u,rfl,hX4,?_⟩;refine z25 yg ?_;refine z27 (i:=11) (v:=u) (w1:=X4) rfl ye rfl rfl yf hX4 yg ?_;refine z37 ye ?_;have hw4:=HB.o.trans (hX4.mono HB.o.size);have hw5:=HA.o.2.trans (hw4.mono HA.o.2.size);have hT:=z59 b off cap ns q' X4 (HN.o.below hw5 hbw) jo
       rw[HQ.o.2,Hlen.o]at hT;have HT:=U hT;have HU:=U (Lc hu hw4);clear hT hu hb4 hw3 hX3 hX4 hw4 hw5 hown3 HC HBi hS;have hi9:i'<=1048576:=by have:=HNx.o.2.2.1;have:=HKc.o;have:=HCt.o;omega
       generalize q'+ 1+k'.flat.length=ee at*;go_wp2_with fail
       refine HT.o.mono ?_;rintro e w6 ⟨rfl,rfl⟩;go_wp2_with fail
       try rw[z30 hi9]
       exact⟨⟨ee,i'+ 1,r',_,rfl,rfl,HNx,HU.o.1,HU.o.2⟩,z55 hi⟩
def leaf5:Fo->Prop
 |.none=>True
 |.tree n k r=>(n.kind=5->k=.none)/\leaf5 k/\leaf5 r
theorem leaf5_of:∀(f:Fo),f.wf->(∀m∈f.flat,m.kind=5->m.kids=0)->leaf5 f
 |.none,_,_=>trivial
 | .tree n k r,hw,h=>by
   obtain⟨h1,h2,h3⟩:=hw;refine⟨fun e=>?_,leaf5_of k h2 (fun m hm=>h m jv),leaf5_of r h3 (fun m hm=>h m jv)⟩;have h0:=h n (by simp[Fo.flat]) e
   cases k with
   |none=>rfl
   | tree n' k' r'=>
     simp only[Fo.count]at h1;omega
theorem findS_open:∀(xs ys:List ByteArray) (sc:Sco) (x:ByteArray),xs.length=ys.length->(findS ((xs.zip ys).foldl (fun s p=>p::s) sc) x≠none↔x∈xs\/findS sc x≠none)
 |[],ys,sc,x,_=>yq
 |a::xs,[],sc,x,h=>vy
 | a::xs,b::ys,sc,x,h=>by
   rw[List.zip_cons_cons,List.foldl_cons,findS_open xs ys ((a,b)::sc) x zx,List.mem_cons];by_cases e:a=x
   .subst e;simp[findS]
   .simp only[findS,if_neg e];constructor
    .rintro (h|h)
     .exact Or.inl (Or.inr h)
     .exact Or.inr h
    .rintro ((h|h)|h)
     .exact absurd h.symm e
     .exact Or.inl h
     .exact Or.inr h
theorem texts_app (a b:List ByteArray):textsOf (a++b)=textsOf a++textsOf b:=by unfold textsOf;rw[List.map_append]
theorem free_pure:∀(f:Fo) (old new:Nd) (i:Nat) (bd:List ByteArray) (sc:Sco) (s:Wst),leaf5 f->old.kind=new.kind->(∀x,x∈bd↔findS sc x≠none)->freeK old i f bd ((textsOf s.free).foldl addL [])=(textsOf (kidsW old new i f sc s).free).foldl addL []
 |.none,_,_,_,_,_,_,_,_,_=>rfl
 | .tree n k r,old,new,i,bd,sc,s,hl,hk,hb=>by
   obtain⟨h1,h2,h3⟩:=hl;have hb2:∀x,x∈bd++knownZ old i↔findS (openS old new i sc) x≠none:=fun x=>by
    unfold openS;rw[findS_open _ _ _ _ (knownZ_same hk i),List.mem_append,<-hb x,or_comm]
   rw[freeK,kidsW,<-free_pure r old new (i+1) bd sc _ h3 hk hb];congr 1
   by_cases e:n.kind=5
   .rw[if_pos e,h1 e];simp only[kidsW,stepW];unfold lostZ;by_cases hf:findS (openS old new i sc) n.a=none
    .rw[if_neg (by rw[memB_iff,hb2];exact fun h=>h hf),if_pos ⟨e,hf⟩,texts_app,List.foldl_append];rfl
    .rw[if_pos (by rw[memB_iff,hb2];exact hf),if_neg (fun h=>hf h.2),List.append_nil]
   .rw[if_neg e,<-free_pure k n _ 0 _ _ _ h2 (renZ_kind _ _ _).symm hb2];congr 1
    unfold stepW lostZ;rw[if_neg (fun h=>e h.1)];simp
theorem free_whole (n:Nd) (k:Fo) (hl:leaf5 (.tree n k .none)):freeN n k [] []=freeOf (wholeW n k):=by
 obtain⟨h1,h2,-⟩:=hl;unfold freeN freeOf wholeW walkW;by_cases e:n.kind=5
 .rw[if_pos e,h1 e,if_neg (by rw[memB_iff];simp)];simp only[kidsW,stepW,lostZ,findS];rw[if_pos ⟨e,trivial⟩];rfl
 .rw[if_neg e,<-free_pure k n _ 0 [] [] _ h2 (renZ_kind _ _ _).symm (fun x=>by simp[findS])];congr 1
  unfold stepW lostZ;rw[if_neg (fun h=>e h.1)];rfl
theorem own_kids {m:Nd}(h:ownOk m=true):(m.kind=9->m.kids<=2)/\(m.kind=5->m.kids=0):=by
 simp only[ownOk,Lq]at h;have hk:=h.1;constructor
 .intro e;rw[e]at hk;have:m.kids=2:=of_decide_eq_true hk;omega
 .intro e;rw[e]at hk;exact of_decide_eq_true hk
theorem specFree_calls {b off cap:Nat}{ns:List Nd}{n:Nd}{k:Fo}(w:World) (hm:ns.length<=300) (hbw:b<w.heap.size) (hn:NodesAt w b off ns) (hA:SpecAns ns true) (hall:ns.all ownOk=true) (h1:ns=n::k.flat) (h2:n.kids=k.count) (h3:k.wf) :
 Calls prog 9 #[.slice (some ⟨b,off,none⟩) ns.length cap] w fun e w'=> ∃u,e=.returned u/\NamesV w' u (bys (freeOf (wholeW n k)))/\Below w.heap.size w w':= by
 have HT:=U (specTree_calls b off cap ns w true ya hbw hn hA);have hown:∀m∈ns,ownOk m=true:=fun m hm=>List.all_eq_true.1 hall m hm
 have hl:leaf5 (.tree n k .none):=leaf5_of _ ⟨h2,h3,trivial⟩ (fun m hm=>(own_kids (hown m (by rw[h1];simpa[Fo.flat]using hm))).2);have hkl:k.flat.length<=300:=vv;have HF:=U (fun X (hb:Below w.heap.size w X)=>free_calls b off cap ns hm (fun m hm=>(own_kids (hown m hm)).1) (k.flat.length+1) n k [] 0 [] [] _ _ X (by have:=hb.size;omega) (hn.below hb hbw) (by rw[h1];simp) h2 h3 (Nat.lt_succ_self _) (names_none X) (names_none X) jd jd);rw[<-free_whole n k hl];clear hn hA hall hown hl hkl hm;generalize ns.length=len at*;go_enter func9,ntmps9
 go_wp2_with fail
 refine HT.o.mono ?_;rintro e w2 ⟨rfl,hb2⟩;go_wp2_with fail
 refine(HF.o w2 hb2).mono ?_;rintro e w3 ⟨u,rfl,hu,hb3⟩;have HU:=U (Lc hu (hb2.trans (hb3.mono hb2.size)));clear hu hb3;go_wp2_with fail
 go_ret;exact⟨_,rfl,HU.o.1,HU.o.2⟩
section
variable {W0:World}{Mb:Nat}{ae:Option Addr}{ce b off cap:Nat}{es:List Ef}{ns:List Nd}{K:Nat}
theorem part_all (cx:Cx W0 Mb ae b off es ns) (hk1:K<=1000):∀F,PartC W0 Mb ae ce b off cap es ns K F:=by
 intro F;induction F with
 |zero=>intro t ss s v W hF;have:=t.size_pos;omega
 | succ F ih=>
   intro t ss s v W hF hs hK hB h hv;by_cases n1:t.n.kind=1
   .rw[part1 n1];exact part_c1 cx hk1 hF hs hK hB h hv n1
   by_cases n2:t.n.kind=2
   .rw[part2 n2];exact part_c2 cx hk1 hF hs hK hB h hv n2
   by_cases n3:t.n.kind=3
   .rw[part3 n3];exact part_c3 cx hk1 hF hs hK hB h hv n3
   by_cases n4:t.n.kind=4
   .rw[part4 n4];exact part_c4 cx hk1 hF hs hK hB h hv n4
   by_cases n5:t.n.kind=5
   .rw[part5 n5];exact part_c5 cx hk1 hF hs hK hB h hv n5
   by_cases n6:t.n.kind=6
   .rw[part6 n6];exact part_c6 cx hk1 hF hs hK hB h hv n6
   by_cases n8:t.n.kind=8
   .rw[part8 n8];exact part_c8 cx hk1 ih hF hs hK hB h hv n8
   by_cases n9:t.n.kind=9
   .rw[part9 n9];exact part_c9 cx hk1 ih hF hs hK hB h hv n9
   by_cases n10:t.n.kind=10
   .rw[part10 n10];exact part_c10 cx hk1 ih hF hs hK hB h hv n10
   by_cases n20:t.n.kind=20
   .rw[part20 n20];exact part_c20 cx hk1 ih hF hs hK hB h hv n20
   by_cases nh:t.n.kind=23\/t.n.kind=24
   .rw[partH nh];exact part_h cx hk1 ih hF hs hK hB h hv nh
   .have n23:t.n.kind≠23:=fun e=>nh (Or.inl e)
    have n24:t.n.kind≠24:=fun e=>nh (Or.inr e)
    rw[partK n1 n2 n3 n4 n5 n6 n8 n9 n10 n20 n23 n24];exact part_k cx hk1 ih hF hs hK hB h hv ⟨n1,n2,n3,n4,n5,n6,n8,n9,n10,n20,n23,n24⟩
end
def pend (s:Cs) (i:Nat):Nat:=((s.later.drop i).map (fun l=>l.t.size)).sum
theorem pend_next {i:Nat}(h:i<s.later.length):pend s i=(s.later.getD i default).t.size+pend s (i+1):=by
 have e:s.later.getD i default=s.later[i]:=by simp[List.getD,h]
 rw[e];unfold pend;rw[List.drop_eq_getElem_cons h,List.map_cons,List.sum_cons]
theorem rest_split (s:Cs) (i:Nat):s.rest=((s.later.take i).map (fun l=>l.t.size)).sum+pend s i:=by
 unfold Cs.rest pend;conv=>lhs;rw[<-List.take_append_drop i s.later]
 rw[List.map_append,List.sum_append]
def nextZ (es:List Ef) (l:Lt) (s:Cs):Cs:=(partZ es 400 l.t l.names (s.lead l.fr l.wh)).put ⟨9,0,0,0⟩
theorem next_r {ns:List Nd}{es:List Ef}{i:Nat}(hi:i<s.later.length) (hl:ns.length<=300) (hok:LOk ns 1000 s) (hB:s.o.length+10*s.rest+3000*pend s i<=900001) (hP:i+pend s i<=300) :
 LOk ns 1000 (nextZ es (s.later.getD i default) s)/\(nextZ es (s.later.getD i default) s).o.length+10*(nextZ es (s.later.getD i default) s).rest+3000*pend (nextZ es (s.later.getD i default) s) (i+1)<=900001/\i+1+pend (nextZ es (s.later.getD i default) s) (i+1)<=300/\i+1<=(nextZ es (s.later.getD i default) s).later.length:=by
 obtain⟨l,hl2⟩:∃l,s.later.getD i default=l:=⟨_,rfl⟩
 have hp:=pend_next hi;rw[hl2]at hp |-;have hmem:l∈s.later:=by rw[<-hl2];exact getD_mem hi
 obtain⟨h1,⟨h2,-⟩,h3⟩:=hok l hmem;have hsz:=h1.lt.2.2;have hpos:=l.t.size_pos;have r:=((Rs.lead ns 1000 s l.fr l.wh).trans (part_r (ns:=ns) (K:=1000) (es:=es) 400 l.t l.names (s.lead l.fr l.wh) ya h1 h2)).trans (Rs.put ns 1000 _ ⟨9,0,0,0⟩);have r':Rs ns 1000 (10*l.t.size) (l.t.size-1) s (nextZ es l s):=r.mono ya ya;obtain⟨q,hq⟩:=r'.pre;have e1:=rest_split s (i+1);have e2:=rest_split (nextZ es l s) (i+1);have e3:(nextZ es l s).later.take (i+1)=s.later.take (i+1):=by rw[hq,List.take_append_of_le_length ya]
 rw[e3]at e2;have c1:=r'.cost;have c2:=r'.rest;have c3:=r'.len;refine⟨r'.ok hok,?_,?_,ya⟩
 .omega
 .omega
theorem cm_start (ve vt:Value):Cm (W.alloc (.cells #[ve,vt,.slice none 0 0,.slice none 0 0] 57)) W.heap.size ve vt ⟨[],[]⟩ [] (.slice none 0 0) (.slice none 0 0) (W.alloc (.cells #[ve,vt,.slice none 0 0,.slice none 0 0] 57)):=
 ⟨(Ld W _).1,World.ownsRow_nil _ _ _ _,World.ownsRow_nil _ _ _ _,fun x hx=>by simp at hx,rfl,rfl,rfl,rfl,La,fun _ _ _=>rfl,yq⟩
theorem spec_ans_one {ns:List Nd}{T T':Bool}(h:SpecAns ns T) (h':SpecAns ns T'):T=T':= by
 rcases h with ⟨a1,rfl⟩|⟨a1,a2,a3,rfl⟩|⟨a1,a2,n,k,e1,e2,e3,h⟩<;>rcases h' with ⟨b1,rfl⟩|⟨b1,b2,b3,rfl⟩|⟨b1,b2,n',k',e1',e2',e3',h'⟩
 .rfl
 .rfl
 .omega
 .rfl
 .rfl
 .exact absurd (end_of_tree e1' e2' e3') a3
 .omega
 .exact absurd (end_of_tree e1 e2 e3) b3
 .obtain⟨rfl,rfl⟩:=tree_inj e1 e2 e3 e1' e2' e3';rw[h,h']
def CompZ (es:List Ef) (ns:List Nd) (x:Bool) (cs:List In):Prop:=
 (x=false/\cs= []/\ ∀T,SpecAns ns T->progZ es ns T=true-> ∃n k,ns=n::k.flat/\n.kids=k.count/\k.wf/\freeOf (wholeW n k)≠ [])\/
 (x=true/\ ∃n k,(∃T,SpecAns ns T/\progZ es ns T=true)/\ns=n::k.flat/\n.kids=k.count/\k.wf/\freeOf (wholeW n k)= []/\cs=codeZ es n k)
theorem compZ_one {es:List Ef}{ns:List Nd}{x x':Bool}{cs cs':List In}(h:CompZ es ns x cs) (h':CompZ es ns x' cs'):x=x'/\cs=cs':= by
 rcases h with ⟨rfl,rfl,h⟩|⟨rfl,n,k,⟨T,hT,hP⟩,e1,e2,e3,hf,rfl⟩<;>rcases h' with ⟨rfl,rfl,h'⟩|⟨rfl,n',k',⟨T',hT',hP'⟩,e1',e2',e3',hf',rfl⟩
 .exact⟨rfl,rfl⟩
 .obtain⟨n,k,g1,g2,g3,g4⟩:=h T' hT' hP';obtain⟨rfl,rfl⟩:=tree_inj g1 g2 g3 e1' e2' e3';exact absurd hf' g4
 .obtain⟨n',k',g1,g2,g3,g4⟩:=h' T hT hP;obtain⟨rfl,rfl⟩:=tree_inj g1 g2 g3 e1 e2 e3;exact absurd hf g4
 .obtain⟨rfl,rfl⟩:=tree_inj e1 e2 e3 e1' e2' e3';exact⟨rfl,rfl⟩
def CompR (es:List Ef) (ns:List Nd) (W:World) (e:Ending) (W':World):Prop:=
 ∃v cs x,e=.returned (.tuple #[v,.bool x])/\W'.ownsRow W.heap.size 53 4 v cs.length (rowZ In.cell 4 cs)/\cs.length<=950000/\Below W.heap.size W W'/\CompZ es ns x cs
theorem cm_below {W0:World}{Mb:Nat}{ve vt:Value}{ls:List (Lt×Value)}{vo vl:Value}{X:World}(h:Cm W0 Mb ve vt s ls vo vl X) (hb:Below W.heap.size W W0) (hM:W.heap.size<=Mb):Below W.heap.size W X:=
 ⟨h.os.trans hb.os,h.tape.trans hb.tape,h.output.trans hb.output,Lf hb.size h.size,fun q hq=>(h.kept q (Le hq hb.size) ya).trans (hb.block q hq)⟩
theorem compile_callsR {ae:Option Addr}{ce bt cn:Nat}{es:List Ef}{ns:List Nd}(hE:EffW W ae ce es) (hel:es.length<=1000) (hbt:bt<W.heap.size) (hN:NodesAt W bt 0 ns) (hl:ns.length<=300) :
 Calls prog 6 #[.agg #[.slice ae es.length ce,.slice (some ⟨bt,0,none⟩) ns.length cn]] W (CompR es ns W):=by
 obtain⟨T,hSA,-⟩:=answers ns;refine zb72 ?_;unhygienic intros
 have HP:=U (progOk_at (cn:=cn) (hE.below hB1) hel (Le hbt hB1.size) (hN.below hB1 hbt) hl hSA);have HY:=U hY;have HA:=U hA;have HB1:=U hB1;have HE:=U hE;have HN:=U (Lc hbt hN);have HL:=U (Lc hel hl);have HSA:=U hSA;obtain⟨e0,e1⟩:=fcl2 HA.o;clear hE hel hbt hN hl hSA hA hB1 hY;go_enter func6,ntmps6
 go_upto_region 1 with fail
 rw[HY.o];clear HY;go_wp2_with fail
 refine HP.o.mono ?_;rintro e X1 ⟨rfl,hb2⟩;have HB2:=U (HB1.o.trans (hb2.mono HB1.o.size));have HA2:=U ((hb2.block W.heap.size (z13 HA.o)).trans HA.o);clear hb2 HP e0 e1;obtain⟨e0,e1⟩:=fcl2 HA2.o
 cases hR:progZ es ns T with
 | false=>
   go_wp2_with fail
   go_ret2
   exact⟨_,[],false,rfl,World.ownsRow_nil _ _ _ _,Li _,HB2.o,Or.inl ⟨rfl,rfl,fun T' h1 h2=>by rw[spec_ans_one h1 HSA.o,hR]at h2;cases h2⟩⟩
 | true=>
   have hT:T=true:=by
    unfold progZ at hR;simp only[Lq]at hR;exact hR.2.1
   subst hT;have HR:=U hR;clear hR;obtain⟨n,k,g1,g2,g3,hown⟩:∃(n:Nd) (k:Fo),ns=n::k.flat/\n.kids=k.count/\k.wf/\ns.all ownOk=true:=by
    rcases HSA.o with ⟨-,h⟩|⟨-,-,-,h⟩|⟨-,-,n,k,e1,e2,e3,h⟩
    .cases h
    .cases h
    .have h':= h.symm;simp only[Lq]at h';exact⟨n,k,e1,e2,e3,h'.1⟩
   have HG:=U (Lc g1 (Lc g2 g3));have HF:=U (specFree_calls (cap:=cn) X1 HL.o.2 (Le HN.o.1 HB2.o.size) (HN.o.2.below HB2.o HN.o.1) HSA.o hown g1 g2 g3);clear g1 g2 g3 hown;go_wp2_with fail
   refine HF.o.mono ?_;rintro e X2 ⟨u,rfl,hu,hb3⟩;obtain⟨au,cu,rfl⟩:=hu.slice;have HB3:=U (HB2.o.trans (hb3.mono HB2.o.size));have HA3:=U ((hb3.block W.heap.size (z13 HA2.o)).trans HA2.o);obtain⟨L,hL⟩:∃L,(bys (freeOf (wholeW n k))).length=L:=⟨_,rfl⟩
   rw[hL];have HLn:=U hL;clear hu hb3 HF e0 e1 hL;by_cases hL0:(0:Int)<(L:Int)
   .go_wp2_with fail
    go_ret2
    exact⟨_,[],false,rfl,World.ownsRow_nil _ _ _ _,Li _,HB3.o,Or.inl ⟨rfl,rfl,fun _ _ _=>⟨n,k,HG.o.1,HG.o.2.1,HG.o.2.2,fun e=>by have:=HLn.o;rw[e]at this;simp[bys]at this;omega⟩⟩⟩
   .have HFr:=U (show freeOf (wholeW n k)= [] from Lu (by have:=HLn.o;rw[bys_len]at this;omega));obtain⟨e0,e1⟩:=fcl2 HA3.o;have hC:=cm_start (W:=X2) (.slice ae es.length ce) (.slice (some ⟨bt,0,none⟩) ns.length cn);have hB4:=(Below.refl X2.heap.size X2).alloc La (.cells #[.slice ae es.length ce,.slice (some ⟨bt,0,none⟩) ns.length cn,.slice none 0 0,.slice none 0 0] 57);obtain⟨W0,hW0⟩:∃W0,X2.alloc (.cells #[.slice ae es.length ce,.slice (some ⟨bt,0,none⟩) ns.length cn,.slice none 0 0,.slice none 0 0] 57)=W0:=⟨_,rfl⟩
    rw[hW0]at hC hB4;have HW0:=U hW0;have HB4:=U (HB3.o.trans (hB4.mono HB3.o.size));have hbt2:bt<X2.heap.size:=Le HN.o.1 HB3.o.size;have HX:O (Cx W0 X2.heap.size ae bt 0 es ns):=by
     refine⟨Le hbt2 hB4.size,ya,HN.o.2.below HB4.o HN.o.1,HL.o.2,HL.o.1,fun he=>?_⟩;rcases HE.o with ⟨-,h,-⟩|⟨be,h1,h2,h3,-⟩
     .exact absurd h he
     .have h4:be<X2.heap.size:=Le h2 HB3.o.size;exact⟨be,0,h1,Le h4 hB4.size,ya,h3.below HB4.o h2⟩
    have HPA:=U (part_all (ce:=ce) (cap:=cn) (K:=1000) HX.o La 400);have HS:=U (stands_of HSA.o HG.o.1 HG.o.2.1 HG.o.2.2);have HSz:O ((⟨n,k,0⟩:Tp).size<=300):=by
     show _<=_;have:=HL.o.2;rw[HG.o.1,Ll]at this;exact this
    have S0:O (CmE W0 X2.heap.size (.slice ae es.length ce) (.slice (some ⟨bt,0,none⟩) ns.length cn) ⟨[],[]⟩ W0):=⟨_,_,_,hC⟩
    have HM:O (W.heap.size<=X2.heap.size):=HB3.o.size;have HC0:=U (HPA.o ⟨n,k,0⟩ [] ⟨[],[]⟩ (.slice none 0 0) W0 kj HS.o km ko S0.o (Or.inl ⟨rfl,rfl⟩));have R0:=U (part_r (ns:=ns) (K:=1000) (es:=es) 400 ⟨n,k,0⟩ [] ⟨[],[]⟩ kj HS.o km);obtain⟨Mb,hMb⟩:∃Mb,X2.heap.size=Mb:=⟨_,rfl⟩
    rw[hMb]at HX HPA S0 HM HC0;clear hC hB4 hW0 hbt2 S0;go_upto_region 4 with fail
    rw[HW0.o];try rw[hMb]
    clear HW0 e0 e1 hMb;go_wp2_with fail
    refine HC0.o.mono ?_;rintro e X4 ⟨⟨x4,rfl⟩,h4,-⟩;obtain⟨s4,hs4⟩:∃x,partZ es 400 ⟨n,k,0⟩ [] ⟨[],[]⟩=x:=⟨_,rfl⟩
    rw[hs4]at h4 R0;refine zb74 ?_;intro S4 HS4 HR0;clear h4 hs4 HC0;go_wp2_with fail
    refine(z53 ⟨0,0,0,0⟩ S4.o (by have:=HR0.o.1;omega)).mono ?_;refine zb26 ?_;intro X5 n5 S5 FIN HFIN HFQ;go_wp2_with fail
    go_loopw [5] (fun i wr=> ∃(i':Nat) (s:Cs),i=int i64 (i':Int)/\O (CmE W0 Mb (.slice ae es.length ce) (.slice (some ⟨bt,0,none⟩) ns.length cn) s wr/\LOk ns 1000 s/\s.o.length+10*s.rest+3000*pend s i'<=900001/\i'+ pend s i'<=300/\i'<=s.later.length/\(restZ es (400-i') i' s).o=FIN)) (fun i _=>400-(intOf i).toNat)
    case atStart=>
     refine⟨0,_,rfl,S5.o,?_,?_,?_,Li _,HFIN.o⟩
     .exact(Rs.put ns 1000 s4 ⟨0,0,0,0⟩).ok HR0.o.2.2
     .have h1:=HR0.o;have h2:(s4.put ⟨0,0,0,0⟩).rest=s4.rest:=rfl;have h3:pend (s4.put ⟨0,0,0,0⟩) 0=s4.rest:=rfl;have h4:(s4.put ⟨0,0,0,0⟩).o.length=s4.o.length+1:=jw;omega
     .have h1:=HR0.o;have h3:pend (s4.put ⟨0,0,0,0⟩) 0=s4.rest:=rfl;omega
    case round=>
     obtain⟨i',s,rfl,HI⟩:=hrel;obtain⟨ls,vo,vl,hcm⟩:=HI.o.1;obtain⟨adl,cpl,hvl⟩:=z46 hcm.lrow;subst hvl;have hll:ls.length=s.later.length:=by rw[<-hcm.lfst,List.length_map]
     have d3:=z11 hcm.blk 3;simp at d3;by_cases hi:(i':Int)<(ls.length:Int)
     .have hil:i'<s.later.length:=by omega
      obtain⟨gl,hgl⟩:∃g,adl=some ⟨g,0,none⟩:=by
       obtain⟨-,⟨-,h0⟩|⟨g,cap,cur,e,-⟩⟩:=hcm.lrow
       .omega
       .cases e;exact⟨g,rfl⟩
      subst hgl;have hcs:∀c,c<4->wr.cell? ⟨gl,i'* 4+c,none⟩=some (ltV (ls.getD i' default) c):=fun c hc=>by
       rw[hcm.lrow.cellAt (i'* 4+c) ya,z51 ltV 4 yk ls _ ya];rw[show(i'* 4+c)/4=i' by omega,show(i'* 4+c) % 4=c by omega]
      have hmem:ls.getD i' default∈ls:=getD_mem ya;have hls:s.later.getD i' default=(ls.getD i' default).1:=by
       rw[<-hcm.lfst];simp[List.getD,show i'<ls.length by omega]
      obtain⟨⟨l,v⟩,hlv⟩:∃x,ls.getD i' default=x:=⟨_,rfl⟩
      rw[hlv]at hcs hmem hls;have hnm:=hcm.lnam _ hmem;dsimp only at hls hnm;obtain⟨adv,cpv,rfl⟩:=hnm.is;have b0:=hcs 0 ya;have b1:=hcs 1 ya;have b2:=hcs 2 ya;have b3:=hcs 3 ya;simp only[ltV,Nat.add_zero]at b0 b1 b2 b3;have hlm:l∈s.later:=by rw[<-hls];exact getD_mem hil
      obtain⟨q1,q2,q3⟩:=HI.o.2.1 l hlm;have HQ:=U (Lc q1 (Lc q2 q3));have hnx:=next_r (es:=es) hil HL.o.2 HI.o.2.1 HI.o.2.2.1 HI.o.2.2.2.1;rw[hls]at hnx;have HNx:=U hnx;have hpn:=pend_next hil;rw[hls]at hpn;have HPn:=U hpn;have HFn:O ((restZ es (400-(i'+ 1)) (i'+ 1) (nextZ es l s)).o=FIN):=by
       have h1:=HI.o.2.2.2.2.2;rw[show 400-i'= (400-(i'+ 1))+1 by have:=HI.o.2.2.2.1;omega,restZ,if_pos hil]at h1;dsimp only at h1;have hd:s.later.getD i' ⟨default,[],0,0⟩=l:=hls;rw[hd]at h1;exact h1
      have hA5:=(Ld wr (.cells #[int i64 (l.t.at_:Int),.slice adv l.names.length cpv,int i64 (l.fr:Int),int i64 (l.wh:Int)] 60)).1;have hB5:=(Below.refl wr.heap.size wr).alloc La (.cells #[int i64 (l.t.at_:Int),.slice adv l.names.length cpv,int i64 (l.fr:Int),int i64 (l.wh:Int)] 60);obtain⟨V,hV⟩:∃V,wr.alloc (.cells #[int i64 (l.t.at_:Int),.slice adv l.names.length cpv,int i64 (l.fr:Int),int i64 (l.wh:Int)] 60)=V:=⟨_,rfl⟩
      rw[hV]at hA5 hB5;have HV:=U hV;have HA5:=U hA5;have V0:=U (HI.o.1.below hB5);have VN:=U (hnm.frame (Cf.of_below hB5));have hi0:(0:Int)<=(i':Int):=ya;have hstep:400-(intOf (int i64 ((i'+ 1:Nat):Int))).toNat<400-(intOf (int i64 (i':Int))).toNat:=by
       have:=HI.o.2.2.2.1;simp only[intOf,Lp];omega
      clear hcm hll hil hcs hmem hls hlv hnm hlm q1 q2 q3 hnx hpn hA5 hB5 hV;go_upto_region 10 with fail
      rw[HV.o];clear HV b0 b1 b2 b3 d3;have x2:=z11 HA5.o 2;have x3:=z11 HA5.o 3;simp at x2 x3;go_wp2_with fail
      refine(lead2_calls l.fr l.wh V0.o kr HQ.o.2.2 (by have:=HQ.o.2.1.2;omega)).mono ?_;rintro e E1 ⟨⟨⟨y1,rfl⟩,h1,f1⟩,l1⟩;have E1S:=U h1;have E1N:=U (VN.o.frame f1);have E1A:=U ((l1 _ _ HA5.o).trans HA5.o);clear h1 f1 l1 x2 x3;have y0:=z11 E1A.o 0;have y1:=z11 E1A.o 1;simp at y0 y1;go_wp2_with fail
      refine(HPA.o l.t l.names _ _ _ (by have:=HQ.o.1.lt.2.2;have:=HL.o.2;omega) HQ.o.1 HQ.o.2.1.1 (by have h1:=HI.o.2.2.1;have h2:=HQ.o.1.lt.2.2;have h3:=HL.o.2;have h4:(s.lead l.fr l.wh).o.length=s.o.length:=z67 _ _ _;have h5:(s.lead l.fr l.wh).rest=s.rest:=rfl;omega) E1S.o E1N.o).mono ?_;rintro e E2 ⟨⟨z2,rfl⟩,h2,-⟩;have E2S:=U h2;clear h2 y0 y1;have HOut:O ((partZ es 400 l.t l.names (s.lead l.fr l.wh)).o.length<=950000):=by
       show _<=_;have h1:=HNx.o.2.1;have h2:(nextZ es l s).o.length=(partZ es 400 l.t l.names (s.lead l.fr l.wh)).o.length+1:=by simp[nextZ,Cs.put]
       omega
      go_wp2_with fail
      refine(z53 ⟨9,0,0,0⟩ E2S.o (by have:=HOut.o;omega)).mono ?_;rintro e E3 ⟨rfl,h3,-⟩;obtain⟨m3,hm3⟩:∃m,(partZ es 400 l.t l.names (s.lead l.fr l.wh)).o.length=m:=⟨_,rfl⟩
      rw[hm3];have E3S:O (CmE W0 Mb (.slice ae es.length ce) (.slice (some ⟨bt,0,none⟩) ns.length cn) (nextZ es l s) E3):=h3;clear h3 hm3;have hi9:O (i'<=1000):=kt;go_wp2_with fail
      try rw[z30 (by have:=hi9.o;omega)]
      exact⟨⟨i'+ 1,nextZ es l s,rfl,E3S.o,HNx.o.1,HNx.o.2.1,HNx.o.2.2.1,HNx.o.2.2.2,HFn.o⟩,hstep⟩
     .have hie:¬ i'<s.later.length:=by omega
      have HFn:O (s.o=FIN):=by
       have h1:=HI.o.2.2.2.2.2;rw[show 400-i'= (399-i')+1 by have:=HI.o.2.2.2.1;omega,restZ,if_neg hie]at h1;exact h1
      obtain⟨ado,cpo,hvo⟩:=z46 hcm.orow;subst hvo;have d2:=z11 hcm.blk 2;simp at d2;have HCm:=U hcm;clear hcm hll;go_wp2_with fail
      go_ret2
      exact⟨_,s.o,true,rfl,own_base HCm.o.orow HB4.o.size,kr,cm_below HCm.o HB4.o HM.o,Or.inr ⟨rfl,n,k,⟨true,HSA.o,HR.o⟩,HG.o.1,HG.o.2.1,HG.o.2.2,HFr.o,by rw[HFn.o,HFQ.o]⟩⟩
end
end Go.Proofs.YtbbffkiobmbkfaaGreatDoor
