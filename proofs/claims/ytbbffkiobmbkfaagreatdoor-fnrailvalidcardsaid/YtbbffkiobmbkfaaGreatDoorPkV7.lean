import Derived.Test.YtbbffkiobmbkfaaGreatDoorPkV6
open Go.Proofs.Tryz
open Go.Value Go.IntKind
set_option maxHeartbeats 4000000
set_option maxRecDepth 100000
namespace Go.Proofs.YtbbffkiobmbkfaaGreatDoor
open Go.RowKit
variable {a a':Act}{ls ls':Array Bool}{s:ByteArray}{ss:List ByteArray}{B i n:Nat}{o:Oper}{v:Value}{W w:World}
section
open Go.RowKit
abbrev Tx:=List UInt8
def insL:List Tx->Tx->List Tx
 |[],s=> [s]
 |x::r,s=>if s<x then s::x::r else x::insL r s
def addL (l:List Tx) (s:Tx):List Tx:=if s∈l then l else insL l s
theorem mem_insL (s y:Tx):∀l:List Tx,y∈insL l s↔y=s\/y∈l
 |[]=>by simp[insL]
 | x::r=>by
   unfold insL;split
   .simp
   .rw[List.mem_cons,mem_insL s y r,List.mem_cons];constructor
    .rintro (h|h|h)
     .exact Or.inr (Or.inl h)
     .exact Or.inl h
     .exact Or.inr (Or.inr h)
    .rintro (h|h|h)
     .exact Or.inr (Or.inl h)
     .exact Or.inl h
     .exact Or.inr (Or.inr h)
theorem mem_addL (l:List Tx) (s y:Tx):y∈addL l s↔y=s\/y∈l:=by
 unfold addL;split
 .rename_i h;constructor
  .exact Or.inr
  .rintro (rfl|h')
   .exact h
   .exact h'
 .exact mem_insL s y l
theorem lt_of_ne {a b:Tx}(h:¬ a<b) (hne:a≠b):b<a:=by
 rcases Classical.em (b<a) with h'|h'
 .exact h'
 .exact absurd (List.le_antisymm (List.not_lt.1 h') (List.not_lt.1 h)) hne
theorem insL_sorted (s:Tx):∀l:List Tx,l.Pairwise (· < ·)->s∉l->(insL l s).Pairwise (· < ·)
 |[],_,_=>by simp[insL]
 | x::r,h,hn=>by
   obtain⟨h1,h2⟩:=List.pairwise_cons.1 h;unfold insL;split
   .rename_i hs;refine List.pairwise_cons.2 ⟨fun y hy=>?_,h⟩;rcases List.mem_cons.1 hy with rfl|hy
    .exact hs
    .exact List.lt_trans hs (h1 y hy)
   .rename_i hs;have hx:x<s:=lt_of_ne hs (fun e=>hn (e ▸ List.mem_cons_self));refine List.pairwise_cons.2 ⟨fun y hy=>?_,insL_sorted s r h2 (fun h'=> hn (List.mem_cons_of_mem _ h'))⟩;rcases(mem_insL s y r).1 hy with rfl|hy
    .exact hx
    .exact h1 y hy
theorem addL_sorted {l:List Tx}(h:l.Pairwise (· < ·)) (s:Tx):(addL l s).Pairwise (· < ·):=by
 unfold addL;split
 .exact h
 .rename_i hn;exact insL_sorted s l h hn
theorem fold_sorted:∀(xs l:List Tx),l.Pairwise (· < ·)->(xs.foldl addL l).Pairwise (· < ·)/\ ∀y,y∈xs.foldl addL l↔y∈xs\/y∈l
 |[],l,h=>⟨h,fun y=>yq⟩
 | x::xs,l,h=>by
   obtain⟨h1,h2⟩:=fold_sorted xs (addL l x) (addL_sorted h x);refine⟨h1,fun y=>?_⟩;rw[List.foldl_cons,h2 y,mem_addL,List.mem_cons];constructor
   .rintro (h|h|h)
    .exact Or.inl (Or.inr h)
    .exact Or.inl (Or.inl h)
    .exact Or.inr h
   .rintro ((h|h)|h)
    .exact Or.inr (Or.inl h)
    .exact Or.inl h
    .exact Or.inr (Or.inr h)
theorem sorted_one:∀(l m:List Tx),l.Pairwise (· < ·)->m.Pairwise (· < ·)->(∀y,y∈l↔y∈m)->l=m
 |[],[],_,_,_=>rfl
 | [],y::m,_,_,h=>by
   have:=(h y).2 List.mem_cons_self
   cases this
 | x::l,[],_,_,h=>by
   have:=(h x).1 List.mem_cons_self
   cases this
 | x::l,y::m,hl,hm,h=>by
   obtain⟨l1,l2⟩:=List.pairwise_cons.1 hl;obtain⟨m1,m2⟩:=List.pairwise_cons.1 hm;have hxy:x=y:=by
    rcases List.mem_cons.1 ((h x).1 List.mem_cons_self) with e|e
    .exact e
    .rcases List.mem_cons.1 ((h y).2 List.mem_cons_self) with e'|e'
     .exact e'.symm
     .exact absurd (List.lt_trans (m1 x e) (l1 y e')) (List.lt_irrefl _)
   subst hxy;congr 1
   refine sorted_one l m l2 m2 (fun z=>⟨fun hz=>?_,fun hz=>?_⟩)
   .rcases List.mem_cons.1 ((h z).1 (List.mem_cons_of_mem _ hz)) with rfl|e
    .exact absurd (l1 z hz) (List.lt_irrefl _)
    .exact e
   .rcases List.mem_cons.1 ((h z).2 (List.mem_cons_of_mem _ hz)) with rfl|e
    .exact absurd (m1 z hz) (List.lt_irrefl _)
    .exact e
theorem compact_upTo (d:Array Tx) (hs:∀i j,i<=j->j<d.size->d[i]!<=d[j]!):∀m,m<=d.size->(Lib.compactUpTo d m).Pairwise (· < ·)/\(∀x,x∈Lib.compactUpTo d m↔ ∃j,j<m/\d[j]! =x)
 |0,_=>⟨by simp[Lib.compactUpTo],fun x=>by simp[Lib.compactUpTo]⟩
 | m+1,hm=>by
   obtain⟨h1,h2⟩:=compact_upTo d hs m ya;rw[Lib.compactUpTo_succ];by_cases hk:Lib.keeps d m=true
   .rw[if_pos hk];have hk':m=0\/d[m]!≠d[m-1]! :=of_decide_eq_true hk;refine⟨List.pairwise_append.2 ⟨h1,yq,fun x hx y hy=>?_⟩,fun x=>?_⟩
    .rw[Ls]at hy;subst hy;obtain⟨j,hj,rfl⟩:=(h2 x).1 hx;have hne:=hk'.resolve_left ya;have a1:d[j]!<=d[m-1]! :=hs j (m-1) ya ya;have a2:d[m-1]!<=d[m]! :=hs (m-1) m ya ya;refine lt_of_ne (List.not_lt.2 (List.le_trans a1 a2)) (fun e=>?_);rw[<-e]at a1;exact hne (List.le_antisymm a1 a2)
    .rw[List.mem_append,h2 x,Ls];constructor
     .rintro (⟨j,hj,e⟩|rfl)
      .exact⟨j,ya,e⟩
      .exact⟨m,ya,rfl⟩
     .rintro⟨j,hj,e⟩;by_cases hjm:j=m
      .subst hjm;exact Or.inr e.symm
      .exact Or.inl ⟨j,ya,e⟩
   .rw[if_neg hk,List.append_nil];have hk':¬ (m=0\/d[m]!≠d[m-1]!):=fun h=>hk (decide_eq_true h)
    refine⟨h1,fun x=>?_⟩;rw[h2 x];constructor
    .rintro⟨j,hj,e⟩;exact⟨j,ya,e⟩
    .rintro⟨j,hj,e⟩;by_cases hjm:j=m
     .subst hjm;have h3:d[j]! =d[j-1]! :=Classical.byContradiction (fun h=>hk' (Or.inr h));exact⟨j-1,ya,by rw[<-h3];exact e⟩
     .exact⟨j,ya,e⟩
theorem free_same (l:List Tx):Lib.compact (l.mergeSort (fun x y=>decide (x<=y)))=l.foldl addL []:=by
 obtain⟨h1,h2⟩:=fold_sorted l [] List.Pairwise.nil;have hp:(l.mergeSort (fun x y=>decide (x<=y))).Pairwise (fun a b=>decide (a<=b)=true):=List.pairwise_mergeSort (le:=fun x y=>decide (x<=y)) (fun a b c h h'=> decide_eq_true (List.le_trans (of_decide_eq_true h) (of_decide_eq_true h'))) (fun a b=>by
  rcases List.le_total a b with h|h
  .rw[decide_eq_true h,Bool.true_or]
  .rw[decide_eq_true h,Bool.or_true]) l
 generalize hms:l.mergeSort (fun x y=>decide (x<=y))=ms at*;have hmem:∀y,y∈ms↔y∈l:=fun y=>by rw[<-hms];exact List.mem_mergeSort
 have hs:∀i j,i<=j->j<ms.toArray.size->ms.toArray[i]!<=ms.toArray[j]! :=fun i j hij hj=>by
  have hj':j<ms.length:=by simpa using hj
  have e:∀k (hk:k<ms.length),ms.toArray[k]! =ms[k]:=fun k hk=>by simp[hk]
  rw[e i ya,e j hj'];by_cases hij':i=j
  .subst hij';exact List.not_lt.1 (List.lt_irrefl _)
  .exact of_decide_eq_true (List.pairwise_iff_getElem.1 hp i j ya hj' ya)
 obtain⟨c1,c2⟩:=compact_upTo ms.toArray hs ms.length yq;refine sorted_one _ _ c1 h1 (fun y=>?_);unfold Lib.compact;rw[c2 y,h2 y,<-hmem y];constructor
 .rintro⟨j,hj,rfl⟩;exact Or.inl (by simp[hj])
 .rintro (h|h)
  .obtain⟨j,hj,rfl⟩:=List.getElem_of_mem h;exact⟨j,hj,by simp[hj]⟩
  .cases h
end
section
open Go.RowKit Go.Deep
theorem formOfTree_calls (b off cap:Nat) (ns:List Nd) (n:Nd) (k:Fo) (w:World) (hm:ns.length<=300) (hfit:∀m∈ns,Fits m m.kids.toNat) (hbw:b<w.heap.size) (hn:NodesAt w b off ns)
 (h1:ns=n::k.flat) (h2:n.kids=k.count) (h3:k.wf) :
 Calls prog 18 #[.slice (some ⟨b,off,none⟩) ns.length cap] w fun e w'=> ∃v us,e=.returned v/\Forms w.heap.size w' k us/\Shape w.heap.size w' n us v/\Below w.heap.size w w':= by
 have hdr:ns.drop 0=n::(k.flat++ []):=by rw[h1];simp
 have HC:O (Calls _ _ _ _ _):=formAt_calls b off cap ns hm hfit (k.flat.length+1) n k [] 0 w hbw hn hdr h2 h3 (Nat.lt_succ_self _);clear hdr hm hfit hn h1 h2 h3;generalize ns.length=len at*;go_enter func18,ntmps18
 go_wp2_with fail
 refine HC.o.mono ?_;rintro e w2 ⟨v,us,rfl,hF,hS,hb⟩;have HX:O (Forms w.heap.size w2 k us/\Shape w.heap.size w2 n us v/\Below w.heap.size w w2):=⟨hF,hS,hb⟩
 clear hF hS hb;go_wp2_with fail
 go_ret;exact⟨v,us,rfl,HX.o⟩
theorem implTree_calls (b off cap:Nat) (ns:List Nd) (w:World) (R:Bool) (hm:ns.length<=1048576) (hbw:b<w.heap.size) (hn:NodesAt w b off ns) (hs:Short ns) (hA:ImplAns ns R) :
 Calls prog 37 #[.slice (some ⟨b,off,none⟩) ns.length cap] w fun e w'=> e=.returned (.bool R)/\Below w.heap.size w w':= by
 by_cases hl:1<=ns.length/\ns.length<=300
 .have hrest:=hA.rest hl;obtain⟨len,hlen⟩:∃len,ns.length=len:=⟨_,rfl⟩
  have Hlen:O (ns.length=len):=hlen;have HR:O (Rest ns R nodeOkZ implTree):=hrest;have HN:O (NodesAt w b off ns):=hn;have HL:O (1<=len/\len<=300):=vh;have HS:O (Short ns):=hs;have h1:(1:Int)<=(len:Int):=ya;have h2:(len:Int)<=300:=ya;rw[hlen];clear hrest hn hA hl hm hlen hs;go_enter func37,ntmps37
  go_wp2_with fail
  clear h1 h2;go_loopw [15] (fun i wr=> ∃i':Nat,i=int i64 i'/\i'<=len/\O ((ns.take i').all nodeOkZ=true)/\Below w.heap.size w wr) (fun i _=>len-(intOf i).toNat)
  case atStart=>exact⟨0,rfl,Li _,rfl,Lb⟩
  case round=>
   obtain⟨i',rfl,hle,HT,hbx⟩:=hrel;have hnx:=HN.o.below hbx hbw;by_cases hlt:(i':Int)<(len:Int)
   .have hil:i'<ns.length:=by rw[Hlen.o];omega
    obtain⟨c0,c1,c2,c3,c4,c5⟩:=fsx (hnx i' hil);obtain⟨n,hnn⟩:∃n,ns.getD i' default=n:=⟨_,rfl⟩
    have hF:nodeOkZ n=false->O (R=false):=fun h=>HR.o.1 (all_false hil vn)
    have hT:nodeOkZ n=true->O ((ns.take (i'+ 1)).all nodeOkZ=true):=fun h=>all_take_succ hil HT.o vn
    rw[hnn]at c0 c1 c2 c3 c4 c5;simp only[Nd.cell,Nat.add_zero]at c0 c1 c2 c3 c4 c5;have hsh:=HS.o n (by rw[<-hnn,List.getD,Lr hil];exact List.getElem_mem _);have HO:O (∀w,_):=fun w=>nodeOk_calls n w hsh.1 hsh.2.1 hsh.2.2
    clear hnx hil hnn HT hsh;obtain⟨kd,num,a,bb,cc,kids⟩:=n;dsimp only at*;go_wp2_with fail
    refine(HO.o _).mono ?_;rintro e w2 ⟨rfl,hb2⟩;have hb3:Below w.heap.size w w2:=(hbx.alloc vr _).trans (hb2.mono (by have:=hbx.size;simp;omega));clear c0 c1 c2 c3 c4 c5 hb2 HO
    cases ho:nodeOkZ ⟨kd,num,a,bb,cc,kids⟩ with
    | false=>
      have HF:=hF ho;clear hF hT;go_wp2_with fail
      go_ret;exact⟨jj,hb3⟩
    | true=>
      have HT:=hT ho;clear hF hT;go_wp2_with fail
      have hs:=z55 hlt;try rw[z30 jc]
      exact⟨⟨i'+ 1,rfl,ya,HT,hb3⟩,hs⟩
   .have e:i'= len:=by omega
    subst e;have hall:ns.all nodeOkZ=true:=by
     have:=HT.o;rwa[List.take_of_length_le (by rw[Hlen.o];exact La)]at this
    have HX:O (∀w,NodesAt w b off ns->_):=fun w h=>implEnd_calls b off cap ns 0 w h vu ya
    rw[Hlen.o]at HX;rcases HR.o.2 hall with ⟨hne,hR⟩|⟨n,k,g1,g2,g3,g4,hR⟩
    .have hne':(treeEnd ns 0 !=(i':Int))=true:=by rw[bne_iff_ne];rw[Hlen.o]at hne;exact hne
     clear HT hall hne;generalize treeEnd ns 0=te at*;subst hR;go_wp2_with fail
     refine(HX.o wr hnx).mono ?_;rintro e w2 ⟨rfl,rfl⟩;go_wp2_with fail
     go_ret;exact⟨rfl,hbx⟩
    ·have hfit:∀m∈ns,Fits m m.kids.toNat:=fun m hm=>by
      have:=List.all_eq_true.1 hall m hm;simp only[nodeOkZ,Lq]at this;exact fits_of_own this.1
     have hkl:k.flat.length<=300:=by
      have:=HL.o;have e:=Hlen.o;rw[g1,Ll]at e;omega
     have HC:O (∀w,b<w.heap.size->NodesAt w b off ns->_):=fun w hb h=>clausesOk_calls b off cap ns n k w vu hb h g1 g2 g3
     have HG:O (∀w,b<w.heap.size->NodesAt w b off ns->_):=fun w hb h=>formOfTree_calls b off cap ns n k w vu hfit hb h g1 g2 g3
     rw[Hlen.o]at HC HG;rw[g4,Hlen.o]at HX;have HE:O (R=(implTree n k && decide (k.deep+1<=40))):=hR;have HKL:O (k.flat.length<=300):=hkl;have hee:(((i':Int)) !=(i':Int))=false:=yq;clear HT hall g1 g2 g3 g4 hR HR hfit hkl;go_wp2_with fail
     refine(HX.o wr hnx).mono ?_;rintro e w2 ⟨rfl,rfl⟩;go_wp2_with fail
     refine(HC.o wr vr hnx).mono ?_;rintro e w2 ⟨rfl,hb2⟩;have hb3:=hbx.trans (hb2.mono hbx.size);have hn3:=HN.o.below hb3 hbw;clear hb2 HX HC
     cases hit:implTree n k with
     | false=>
       go_wp2_with fail
       go_ret;refine⟨?_,hb3⟩;rw[HE.o,hit,Bool.false_and];rfl
     | true=>
       go_wp2_with fail
       refine(HG.o w2 (by have:=hb3.size;omega) hn3).mono ?_;rintro e w4 ⟨v,us,rfl,hF4,hS4,hb4⟩;have hb5:=hb3.trans (hb4.mono hb3.size);have HD:O (Calls _ _ _ _ _):=deepOf_calls (k.flat.length+1) _ n k us v w4 hF4 hS4 HKL.o (Nat.lt_succ_self _);clear hF4 hS4 hb4 HG hn3;generalize k.deep+1=dd at*;go_wp2_with fail
       refine HD.o.mono ?_;rintro e w6 ⟨rfl,hb6⟩;go_wp2_with fail
       go_ret;refine⟨?_,hb5.trans (hb6.mono hb5.size)⟩;rw[HE.o,hit,Bool.true_and];show Ending.returned (Value.bool (decide ((dd:Int)<=40)))=_;congr 2
       exact decide_eq_decide.2 ya
 ·have hR:R=false:=by
   rcases hA with ⟨_,h⟩|⟨h1,h2,_⟩|⟨h1,h2,_⟩
   .exact h
   .exact absurd ⟨h1,h2⟩ hl
   .exact absurd ⟨h1,h2⟩ hl
  subst hR;have hl':(ns.length:Int)<1\/((1:Int)<=(ns.length:Int)/\(300:Int)<(ns.length:Int)):=ya;clear hA hm hn hl hs;generalize ns.length=len at*;rcases hl' with h|⟨h,h'⟩
  all_goals
   go_enter func37,ntmps37
   go_wp2_with fail
   go_ret;exact⟨rfl,Lb⟩
theorem empty_of (h:(s.toList== [])=true):s=⟨#[]⟩:=by
 have h1:s.toList= []:=zx;rw[ByteArray.toList_eq]at h1;obtain⟨d⟩:=s;congr
 exact Array.toList_eq_nil_iff.1 h1
theorem fit_same {nm:Int}(h:fit nm i s=true):(if (i:Int)+1<=nm then s else ⟨#[]⟩)=s:=by
 unfold fit at h;split at h
 .rw[if_pos ya]
 .rw[if_neg ya,empty_of h]
theorem fit_size {nm:Int}(h:fit nm i s=true):s.size<=8:=by
 unfold fit at h;split at h
 .simp only[nameOk,Lq,decide_eq_true_eq]at h;exact h.1.1.2
 .rw[empty_of h];exact Li _
theorem whole_of {m:Nd}(h:nodeOkZ m=true):Whole m:=by
 simp only[nodeOkZ,ownOk,namesOk,Lq]at h;obtain⟨⟨-,⟨ha,hb,hc⟩,-,hnum⟩,-⟩:=h;have e1:=fit_same ha;have e2:=fit_same hb;have e3:=fit_same hc;simp only[Int.natCast_zero,Int.zero_add]at e1;rw[show((1:Nat):Int)+1=2 from rfl]at e2;rw[show((2:Nat):Int)+1=3 from rfl]at e3;have e4:(if m.kind=1\/m.kind=2 then m.num else 0)=m.num:=by
  split
  .rfl
  .have h2:=of_decide_eq_true hnum;rw[most_other ya ya]at h2;omega
 have e5:=fit_size ha;refine⟨?_,ya⟩;unfold plainZ;rw[e1,e2,e3,e4]
theorem own_base {B':Nat}{e:TypeId}{sz:Nat}{xs:List Value}(h:W.ownsRow B e sz v n xs) (hB:B'<=B):W.ownsRow B' e sz v n xs:=by
 obtain⟨h0,⟨rfl,h1⟩|⟨g,cap,cur,rfl,hb,hr⟩⟩:=h
 .exact⟨h0,Or.inl ⟨rfl,h1⟩⟩
 .exact⟨h0,Or.inr ⟨g,cap,cur,rfl,Lf hB hb,hr⟩⟩
theorem nms_start {w2 W0:World}(hb:Below (w2.alloc (.cells #[.slice none 0 0,.slice none 0 0,int i64 0] 90)).heap.size (w2.alloc (.cells #[.slice none 0 0,.slice none 0 0,int i64 0] 90)) W0):Nms W0 w2.heap.size ⟨[],[],0⟩ (.slice none 0 0) (.slice none 0 0) W0:=by
 have h:=(one_kept hb).1;exact⟨h,World.ownsRow_nil _ _ _ _,World.ownsRow_nil _ _ _ _,rfl,rfl,rfl,La,fun _ _ _=>rfl,z13 h⟩
theorem room_start {c:Nat}(h:c<=300):Room (c+1) ⟨[],[],0⟩:=⟨jd,jd,jd⟩
theorem nms_below {W0:World}{Nb:Nat}{s:Wst}{vp vf:Value}(h:Below w.heap.size w W0) (hN:w.heap.size<=Nb) (n:Nms W0 Nb s vp vf W):Below w.heap.size w W:=
 ⟨n.os.trans h.os,n.tape.trans h.tape,n.output.trans h.output,Lf h.size n.size,fun q hq=>(n.kept q (Le hq h.size) ya).trans (h.block q hq)⟩
def wholeW (n:Nd) (k:Fo):Wst:=walkW n k [] ⟨[],[],0⟩
def textsOf (ss:List ByteArray):List Tx:=ss.map fun s=>s.data.toList
def freeOf (s:Wst):List Tx:=(textsOf s.free).foldl addL []
theorem strRow_texts (ss:List ByteArray):strRow ss=(textsOf ss).map encStr:=by
 unfold strRow textsOf;rw[List.map_map];rfl
theorem own_less {base g cap q:Nat}{e:TypeId}{cur:Array Value}{ts rs:List Tx}(hbase:base<=g) (hb:w.heap[g]?=some (.cells cur e (0,0))) (h1:(ts++rs).length<=cap) (h2:cap<=maxLen) (h3:cur.size=cap*1) :
 (Sort.putRow encStr (Sort.ahead w q) g 0 (ts++rs).toArray).ownsRow base e 1 (.slice (some ⟨g,0,none⟩) ts.length cap) ts.length (ts.map encStr):=by
 have hh:=heap_sorted (n:=q) (os:= #[]) (ts++rs).toArray hb;rw[Sort.grow_empty]at hh;rw[Lk]at h1;refine⟨yq,.inr ⟨g,cap,_,rfl,hbase,hh,ya,h2,by simp[Sort.putCells,h3],?_⟩⟩;have ht:=take_putCells cur (ts++rs) (by rw[Lk];omega);rw[Nat.mul_one];have e2:=congrArg (List.take ts.length) ht;rw[List.take_take,Lk,Nat.min_eq_left ya,List.map_append,List.take_left' yq]at e2;exact e2
theorem compactUpTo_len (d:Array Tx):∀m,(Lib.compactUpTo d m).length<=m:=fun m=>by
 unfold Lib.compactUpTo;rw[List.length_map];exact Lf (List.length_filter_le _ _) yq
theorem compact_len (l:List Tx):(Lib.compact l).length<=l.length:=compactUpTo_len _ _
theorem implFree_calls {b off cap:Nat}{ns:List Nd}{n:Nd}{k:Fo}(w:World) (hm:ns.length<=300) (hbw:b<w.heap.size) (hn:NodesAt w b off ns) (hs:Short ns) (hA:ImplAns ns true) (hall:ns.all nodeOkZ=true) (h1:ns=n::k.flat) (h2:n.kids=k.count) (h3:k.wf) (hL:Laid w) :
 Calls prog 16 #[.slice (some ⟨b,off,none⟩) ns.length cap] w fun e w'=> ∃v,e=.returned v/\Below w.heap.size w w'/\w'.ownsRow w.heap.size 9 1 v (freeOf (wholeW n k)).length ((freeOf (wholeW n k)).map encStr):=by
 have hfit:∀m∈ns,Fits m m.kids.toNat:=fun m hm=>by
  have:=List.all_eq_true.1 hall m hm;simp only[nodeOkZ,Lq]at this;exact fits_of_own this.1
 have hwh:∀m∈n::k.flat,Whole m:=fun m hm=>whole_of (List.all_eq_true.1 hall m (by rw[h1];exact hm))
 have hkl:k.flat.length<=300:=vv;have HT:=U (implTree_calls b off cap ns w true ya hbw hn hs hA);have HG:=U (fun X hb h=>formOfTree_calls b off cap ns n k X hm hfit hb h h1 h2 h3);have HW:=U (fun(W0:World) (Nb BF:Nat) (us:List Value) (v:Value) (hL:Laid W0) (h0:Nb≠1) (hNF:Nb<BF) (hF:Forms BF W0 k us) (hS:Shape BF W0 n us v) (st:Nms W0 Nb ⟨[],[],0⟩ (.slice none 0 0) (.slice none 0 0) W0)=>walk_calls hL h0 hNF (k.flat.length+1) n k us v none [] _ _ _ W0 hF hS h2 h3 hwh (Nat.lt_succ_self _) hkl st (room_start hkl) rfl)
 have HRm0:=U ((walkW_room (n:=n) (k:=k) (sc:= []) (s:=⟨[],[],0⟩) (c:=0) (by rw[Nat.add_comm 1];exact room_start hkl)).free);have HN:=U hn;have HL:=U hL;have HB:=U hbw;clear hn hs hA hall hfit hwh hkl hL hm;generalize ns.length=len at*;go_enter func16,ntmps16
 go_wp2_with fail
 refine HT.o.mono ?_;rintro e w2 ⟨rfl,hb2⟩;have hs2:=hb2.size;go_wp2_with fail
 have hb3:=hb2.alloc (Lf La hs2) (.cells #[.slice none 0 0,.slice none 0 0,int i64 0] 90);refine(HG.o _ (by have:=hb3.size;omega) (HN.o.below hb3 HB.o)).mono ?_;rintro e W0 ⟨v,us,rfl,hF,hS,hb4⟩;have hs4:=hb4.size;have hst:=nms_start hb4;have hb5:=hb3.trans (hb4.mono hb3.size);have HC:=U (HW.o W0 w2.heap.size _ us v (HL.o.stays hb5) (by have:=HL.o.lt;omega) yq hF hS hst);have HB5:=U hb5;clear HT HG HW hb2 hb3 hb4 hF hS hst hb5 hs4;go_wp2_with fail
 refine HC.o.mono ?_;rintro e W ⟨⟨x,rfl⟩,vp,vf,st,-,-,-⟩;have hbW:=nms_below HB5.o ya st;have hs5:=HB5.o.size;have c1:=z11 st.blk 1;have hwf:(walkW n k [] ⟨[],[],0⟩)=wholeW n k:=rfl;rw[hwf]at st;simp at c1;have hfr:=st.frow;rw[strRow_texts]at hfr;have hln:(wholeW n k).free.length=(textsOf (wholeW n k).free).length:=by unfold textsOf;simp
 rw[hln]at hfr;have hfo:freeOf (wholeW n k)=(textsOf (wholeW n k).free).foldl addL []:=rfl;rw[<-free_same]at hfo;have HRm:O ((textsOf (wholeW n k).free).length<=90000):=by show _<=_;have:=HRm0.o;rw[hwf]at this;rw[<-hln];omega
 clear HRm0;generalize textsOf (wholeW n k).free=ts at*;have HFo:=U hfo;have HBW:=U hbW;have hap:=st.apart st.blk;have hblk:=st.blk;have HSt:=U (Lc hap.2 hblk);have hs0:=st.size;have hlt:=z13 st.blk;clear HC HB5 hbW hwf hln hfo hap hblk st;have hdec:(90:Nat)≠9:=yk;have hmode:=hfr;obtain⟨-,⟨rfl,h0⟩|⟨g,cp,cur,rfl,hgB,hgb,hl1,hl2,hl3,hl4⟩⟩:=hmode
 .have ets:ts= []:=Lu h0;subst ets;clear hfr h0;generalize w2.heap.size=Nb at*;go_wp2_with fail
  refine(Tryz.slices_Sort_string_none none 0 W).mono ?_;rintro e W3 ⟨rfl,rfl⟩;go_wp2_with fail
  refine(Tryz.slices_Compact_string_empty none 0 W3).mono ?_;rintro e W4 ⟨rfl,rfl⟩;go_wp2_with fail
  go_ret;refine⟨_,rfl,HBW.o,?_⟩;have e0:freeOf (wholeW n k)= []:=by rw[HFo.o,free_same];rfl
  rw[e0];exact World.ownsRow_nil _ _ _ _
 .have hgN:g≠w2.heap.size:=fun e=>HSt.o.1 hdec zw
  have hgl:=z13 hgb;have HSo:=U (Tryz.slices_Sort_string g 0 cp ts W (holds_of_block hgb (by rw[Nat.mul_one]at hl4;exact hl4)) hgl (by have:=HRm.o;omega));have HGb:=U (Lc hgb (Lc hl1 (Lc hl2 hl3)));have HNb:=U HSt.o.2;have HG:=U (Lc hgN (Lc hgB hgl));obtain⟨ls,hls⟩:∃ls,ts.mergeSort (fun x y=>decide (x<=y))=ls:=⟨_,rfl⟩
  have hlen:ls.length=ts.length:=by rw[<-hls];simp
  rw[hls]at HSo HFo;obtain⟨L,hL⟩:∃L,ts.length=L:=⟨_,rfl⟩
  rw[hL]at HSo c1 HGb hlen HNb;have HRL:O (L<=90000):=by show _<=_;have:=HRm.o;omega
  clear hfr hgb hl1 hl2 hl3 hl4 hls hgN hgB hgl HSt hdec hL HRm ts;generalize w2.heap.size=Nb at*;go_wp2_with fail
  refine HSo.o.mono ?_;rintro e W3 ⟨rfl,q,os,rfl⟩;have hN3:=(grownBy_sorted (w:=W) (g:=g) (n:=q) (os:=os) ls.toArray).block Nb (z13 HNb.o) (by have:=HG.o.1;simp;exact fun e=>this e.symm);have hG3:=heap_sorted (n:=q) (os:=os) ls.toArray HGb.o.1;have hs3:=(grownBy_sorted (w:=W) (g:=g) (n:=q) (os:=os) ls.toArray)
  have hcp:(Lib.compact ls).length<=L:=by
   rw[<-hlen];exact compact_len ls
  have HCo:=U (Tryz.slices_Compact_string g 0 cp ls _ (holds_of_block hG3 (take_putCells _ ls (by have:=HGb.o;omega))) (by have:=HRL.o;omega) (by have:=HGb.o;omega));rw[hlen]at HCo;have hM:=(hN3.trans HNb.o)
  have c2:=z11 hM 1;simp at c2;have HG3:=U hG3;have HS3:=U hs3;clear hG3 hN3 hs3 hM HSo;generalize Sort.grow (Sort.putRow encStr (Sort.ahead W q) g 0 ls.toArray) os=W3 at*;go_wp2_with fail
  refine HCo.o.mono ?_;rintro e W4 ⟨rfl,q2,rfl⟩;go_wp2_with fail
  go_ret;have hlen2:(Lib.compact ls++List.replicate (L-(Lib.compact ls).length) []).length=L:=by rw[Lk,List.length_replicate];omega
  refine⟨_,rfl,?_,?_⟩
  .have hgw:w.heap.size<=g:=by have:=HG.o.2.1;omega
   have hg2:=grownBy_sorted (w:=W3) (g:=g) (n:=q2) (os:= #[]) (Lib.compact ls++List.replicate (L-(Lib.compact ls).length) []).toArray;rw[Sort.grow_empty]at hg2;exact(HBW.o.grown HS3.o HBW.o.size (fun k e=>by cases e;exact hgw)).grown hg2 (by have:=HS3.o.size;have:=HBW.o.size;omega) (fun k e=>by cases e;exact hgw)
  .rw[HFo.o];exact own_less (by have:=HG.o.2.1;omega) HG3.o (by rw[hlen2];exact HGb.o.2.1) HGb.o.2.2.1 (by simp[Sort.putCells];have:=HGb.o.2.2.2;omega)
end
section
open Go.RowKit
section
variable {P:Program}{l0:List Oper}{Q:Exit->Act->World->Prop}{S:World->Prop}
theorem z31 {id:Nat}(hm:P.follows .mixedOrders=true) (hn:l0.length=n) (hl:Array.replicate l0.length false=ls) (h:wpAnyH P .any l0.toArray (NoPanic Q) S n ls a w.drew):(Code.region id l0.toArray true).wp P Q a w:=by
 refine wp_region_noPanic (wp_region_held (S:=S) hm ?_);subst hn;subst hl;simpa using h
theorem z12 (hs:Region.noSelect l0.toArray=true) (ho:l0[i]?=some o) (hf:Region.free .any l0.toArray ls i=true) (hr:(Region.ready .any l0.toArray ls).contains i=true) (hl:ls.setIfInBounds i true=ls')
 (hw:Region.wanted o (yielded l0.toArray a.tmps)=true) (hy:∀w',S w'->(execOp a.eval o).run P w'=.ok (.value v) w') (hS:S w) (hput:a.put o.dst v=a') (h:wpAnyH P .any l0.toArray (NoPanic Q) S n ls' a' w):wpAnyH P .any l0.toArray (NoPanic Q) S (n+1) ls a w:=by
 subst hl;subst hput;exact wpAnyH_take (v:=v) yx hs hf hr (fun c a w h=>h) (Or.inl ⟨hw,hy⟩) hS h
theorem pick_o (i:Nat) (v:Value) (hS:S w) (h:wpAnyH P .any l0.toArray (NoPanic Q) S n ls' a' w) (hs:Region.noSelect l0.toArray=true:=by kernel_rfl) (ho:l0[i]?=some o:=by exact rfl) (hf:Region.free .any l0.toArray ls i=true:=by kernel_rfl) (hr:(Region.ready .any l0.toArray ls).contains i=true:=by kernel_rfl) (hl:ls.setIfInBounds i true=ls':= by exact rfl)
 (hw:Region.wanted o (yielded l0.toArray a.tmps)=true:=by exact rfl) (hy:∀w',S w'->(execOp a.eval o).run P w'=.ok (.value v) w':= by intro w' h;simp[go_sem]) (hput:a.put o.dst v=a':= by simp[go_sem];exact rfl):wpAnyH P .any l0.toArray (NoPanic Q) S (n+1) ls a w:=
 z12 hs ho hf hr hl hw hy hS hput h
theorem z27 {w1:World}(ho:l0[i]?=some o) (hr:(Region.ready .any l0.toArray ls== [i])=true) (hl:ls.setIfInBounds i true=ls')
 (hw:Region.wanted o (yielded l0.toArray a.tmps)=true) (hrun:(execOp a.eval o).run P w=.ok (.value v) w1) (hS:S w1) (hput:a.put o.dst v=a') (h:wpAnyH P .any l0.toArray (NoPanic Q) S n ls' a' w1):wpAnyH P .any l0.toArray (NoPanic Q) S (n+1) ls a w:=by
 subst hl;subst hput;refine zb88 ?_;unhygienic intros
 subst hj;refine zb42 ?_;exact⟨hS,h⟩
theorem z26 {f:FuncId}{args:Array Value}(ho:l0[i]?=some o) (hr:(Region.ready .any l0.toArray ls== [i])=true) (hl:ls.setIfInBounds i true=ls') (hw:Region.wanted o (yielded l0.toArray a.tmps)=true)
 (hrun:(execOp a.eval o).run P w=.ok (.enter f args) w) (h:Calls P f args w fun e w'=> ∃v,e=.returned v/\S w'/\wpAnyH P .any l0.toArray (NoPanic Q) S n ls' (a.put o.dst v) w'):wpAnyH P .any l0.toArray (NoPanic Q) S (n+1) ls a w:=by
 subst hl;refine zb88 ?_;unhygienic intros
 subst hj;refine zb42 ?_;refine Calls.mono h ?_;rintro e w3 ⟨v,rfl,hS,hn⟩;exact⟨hS,hn⟩
def PickMk (P:Program) (l0:List Oper) (Q:Exit->Act->World->Prop) (S:World->Prop) (n:Nat) (ls:Array Bool) (a:Act) (w:World) (i:Nat):Prop:=
 ∃o v w1,l0[i]?=some o/\Region.wanted o (yielded l0.toArray a.tmps)=true/\(execOp a.eval o).run P w=.ok (.value v) w1/\S w1/\wpAnyH P .any l0.toArray (NoPanic Q) S n (ls.setIfInBounds i true) (a.put o.dst v) w1
theorem pick_fork {j:Nat}(hr:(Region.ready .any l0.toArray ls== [i,j])=true) (h1:PickMk P l0 Q S n ls a w i) (h2:PickMk P l0 Q S n ls a w j):wpAnyH P .any l0.toArray (NoPanic Q) S (n+1) ls a w:=by
 refine wpAnyH_all (rs:= [i,j]) yy yq (fun k hk=>?_);have hk':PickMk P l0 Q S n ls a w k:=by
  simp only[List.mem_cons,List.not_mem_nil,or_false]at hk;rcases hk with rfl|rfl
  .exact h1
  .exact h2
 obtain⟨o,v,w1,ho,hw,hrun,hS,h⟩:=hk';have ho':l0.toArray[k]?=some o:=yx;refine zb42 ?_;exact⟨hS,h⟩
theorem z25 (ha:a=a') (h:wpAnyH P .any l0.toArray (NoPanic Q) S n ls a' w):wpAnyH P .any l0.toArray (NoPanic Q) S n ls a w:=by
 subst ha;exact h
theorem z37 (hr:(Region.ready .any l0.toArray ls).isEmpty=true) (h:Q .normal a w):wpAnyH P .any l0.toArray (NoPanic Q) S n ls a w:=
 wpAnyH_done (Q:=NoPanic Q) yy (NoPanic.normal h) _
end
end
section
open Go.RowKit Go.Deep
def NamesV (W:World) (v:Value) (ss:List ByteArray):Prop:=
 (v=.slice none 0 0/\ss= [])\/ ∃g o c,v=.slice (some ⟨g,o,none⟩) ss.length c/\g<W.heap.size/\ ∀j,j<ss.length->W.cell? ⟨g,o+j,none⟩=some (.string (ss.getD j ⟨#[]⟩))
theorem names_none (W:World):NamesV W (.slice none 0 0) []:=Or.inl ⟨rfl,rfl⟩
theorem NamesV.below {W':World}(h:NamesV W v ss) (hb:Below W.heap.size W W'):NamesV W' v ss:=by
 rcases h with h|⟨g,o,c,e,hg,hc⟩
 .exact Or.inl h
 .exact Or.inr ⟨g,o,c,e,Le hg hb.size,fun j hj=>(hb.cell (p:=⟨g,o+j,none⟩) hg).trans (hc j hj)⟩
theorem NamesV.slice (h:NamesV W v ss):∃ad c,v=.slice ad ss.length c:=by
 rcases h with ⟨rfl,rfl⟩|⟨g,o,c,rfl,-⟩
 .exact⟨none,0,rfl⟩
 .exact⟨_,_,rfl⟩
theorem NamesV.cell {ad:Option Addr}{c:Nat}(h:NamesV W (.slice ad n c) ss) (hn:0<n):n=ss.length/\ ∃g o,ad=some ⟨g,o,none⟩/\g<W.heap.size/\ ∀j,j<n->W.cell? ⟨g,o+j,none⟩=some (.string (ss.getD j ⟨#[]⟩)):=by
 rcases h with ⟨e,-⟩|⟨g,o,c',e,hg,hc⟩
 .cases e;omega
 .cases e;exact⟨rfl,g,o,rfl,hg,hc⟩
theorem strRow_len (ss:List ByteArray):(strRow ss).length=ss.length:=by unfold strRow;simp
theorem strRow_get (ss:List ByteArray) (j:Nat) (h:j<ss.length):(strRow ss)[j]?=some (.string (ss.getD j ⟨#[]⟩)):=by
 unfold strRow;simp[List.getD,h]
theorem names_owns (h:W.ownsRow B 9 1 v n (strRow ss)):NamesV W v ss/\n=ss.length:=by
 have hl:n=ss.length:=by have:=h.1;rw[strRow_len]at this;omega
 subst hl;refine⟨?_,rfl⟩;have h':= h;obtain⟨-,⟨rfl,h0⟩|⟨g,cap,cur,rfl,hB,hc,hr⟩⟩:=h
 .exact Or.inl ⟨rfl,Lu h0⟩
 .refine Or.inr ⟨g,0,cap,rfl,z13 hc,fun j hj=>?_⟩;rw[Nat.zero_add,h'.cellAt j ya,strRow_get ss j hj]
theorem names_lit (w:World) (o1:Obj) (ss:List ByteArray):NamesV ((w.alloc o1).alloc (.cells (strRow ss).toArray 9)) (.slice (some ⟨w.heap.size+1,0,none⟩) ss.length ss.length) ss:=by
 have hh:=(Ld (w.alloc o1) (.cells (strRow ss).toArray 9)).1;rw[show(w.alloc o1).heap.size=w.heap.size+1 by simp]at hh;refine Or.inr ⟨_,0,_,rfl,z13 hh,fun j hj=>?_⟩;rw[Nat.zero_add,z11 hh j];simp only[List.getElem?_toArray];exact strRow_get ss j hj
theorem app_names {xv:Value}{ys:List ByteArray}(ty:TypeId) (hown:W.ownsRow B 9 1 v n (strRow ss)) (hx:NamesV W xv ys) (hm:ss.length+ys.length<=200000) (hB:B<=W.heap.size) :
 ∃v' W',(Builtin.append_ #[33,33] ty #[v,xv]).run prog W=.ok v' W'/\W'.ownsRow B 9 1 v' (ss++ys).length (strRow (ss++ys))/\W.grownBy W' v.ownBlock/\(v'.ownBlock=v.ownBlock\/v'.ownBlock=some W.heap.size):=by
 obtain⟨i0,hi,hz0,hz1,hz2⟩:=info_parts info_str;have hn:n=ss.length:=(names_owns hown).2;subst hn;rcases hx with ⟨rfl,rfl⟩|⟨g,o,c,rfl,hg,hc⟩
 .refine⟨v,W,run_append_owned_none W B 33 ty 9 i0 1 underlying33 hi v _ _ hown,?_,⟨rfl,rfl,rfl,La,fun _ _ _=>rfl⟩,Or.inl rfl⟩;rw[List.append_nil];exact hown
 ·obtain⟨v',W',hr,h2,h3,-,h5⟩:=run_append_own_at (P:=prog) W B 33 ty 9 i0 _ 1 16 underlying33 hi hz0 hz1 hz2 rfl yk v ss.length (strRow ss) hown ⟨g,o,none⟩ ys.length c (strRow ys) (by rw[strRow_len];omega)
   (fun j u hu=>by
    have hj:j<ys.length:=by
     have:=(List.getElem?_eq_some_iff.1 hu).1;rwa[strRow_len]at this
    rw[strRow_get ys j hj]at hu
    cases hu;rw[Addr.add_lit];exact hc j hj)
   (fun u hu=>by unfold strRow at hu;rw[List.mem_map]at hu;obtain⟨x,-,rfl⟩:=hu;rfl) zz ya hB
  refine⟨v',W',hr,?_,h3,h5⟩;rw[Lk];have e:strRow (ss++ys)=strRow ss++strRow ys:=by unfold strRow;rw[List.map_append]
  rw[e];exact h2
theorem binds_calls (n:Nd) (i:Nat) (w:World) (hk2:n.kind=9->i<2) :
 Calls prog 71 #[ndV n,int i64 (i:Int)] w fun e w'=> ∃sv,e=.returned sv/\NamesV w' sv (knownZ n i)/\Below w.heap.size w w':= by
 obtain⟨kd,num,a,b,c,kids⟩:=n;have h1:∀i:Nat,((i:Int)=1)↔(i=1):=fun i=>ya
 have h2:∀i:Nat,((i:Int)=2)↔(i=2):=fun i=>ya
 unfold ndV;dsimp only at hk2 |-;go_enter func71,ntmps71
 by_cases k6:kd=6
 .have hz:knownZ ⟨kd,num,a,b,c,kids⟩ i= [a]:=by unfold knownZ;rw[if_pos (Or.inl k6)]
  rw[hz];subst k6;go_wp2_with fail
  go_ret;exact⟨_,rfl,names_lit w _ [a],z33 w _ _⟩
 by_cases k25:kd=25
 .have hz:knownZ ⟨kd,num,a,b,c,kids⟩ i= [a]:=by unfold knownZ;rw[if_pos (Or.inr k25)]
  rw[hz];subst k25;go_wp2_with fail
  go_ret;exact⟨_,rfl,names_lit w _ [a],z33 w _ _⟩
 by_cases k8:kd=8
 .subst k8;by_cases i1:(i:Int)=1
  .have hz:knownZ ⟨8,num,a,b,c,kids⟩ i= [a]:=by unfold knownZ;rw[if_neg qf,if_pos (Or.inl ⟨rfl,(h1 i).1 i1⟩)]
   rw[hz];go_wp2_with fail
   go_ret;exact⟨_,rfl,names_lit w _ [a],z33 w _ _⟩
  ·have hz:knownZ ⟨8,num,a,b,c,kids⟩ i= []:=by
    unfold knownZ;rw[if_neg qf,if_neg qg,if_neg qh,if_neg qf]
   rw[hz];go_wp2_with fail
   go_ret;exact⟨_,rfl,names_none _,one_new' w _⟩
 by_cases k9:kd=9
 .subst k9;by_cases i1:(i:Int)=0
  ·have hz:knownZ ⟨9,num,a,b,c,kids⟩ i= [a,b]:=by
    unfold knownZ;rw[if_neg qf,if_neg (by rintro (⟨h,-⟩|⟨-,h⟩);cases h;omega),if_pos (Or.inl rfl)]
   rw[hz];go_wp2_with fail
   go_ret;exact⟨_,rfl,names_lit w _ [a,b],z33 w _ _⟩
  ·have i1':i=1:=by
    have:=hk2 rfl;omega
   have hz:knownZ ⟨9,num,a,b,c,kids⟩ i= [a]:=by unfold knownZ;rw[if_neg qf,if_pos (Or.inr ⟨rfl,i1'⟩)]
   rw[hz];go_wp2_with fail
   go_ret;exact⟨_,rfl,names_lit w _ [a],z33 w _ _⟩
 by_cases k20:kd=20
 .subst k20;by_cases i2:(i:Int)=2
  ·have hz:knownZ ⟨20,num,a,b,c,kids⟩ i= [a,b]:=by
    unfold knownZ;rw[if_neg qf,if_neg qi,if_pos (Or.inr ⟨rfl,(h2 i).1 i2⟩)]
   rw[hz];go_wp2_with fail
   go_ret;exact⟨_,rfl,names_lit w _ [a,b],z33 w _ _⟩
  ·have hz:knownZ ⟨20,num,a,b,c,kids⟩ i= []:=by
    unfold knownZ;rw[if_neg qf,if_neg qi,if_neg qj,if_neg qf]
   rw[hz];go_wp2_with fail
   go_ret;exact⟨_,rfl,names_none _,one_new' w _⟩
 by_cases k26:kd=26
 ·subst k26;have hz:knownZ ⟨26,num,a,b,c,kids⟩ i= [b,c]:=by
   unfold knownZ;rw[if_neg qf,if_neg qi,if_neg qh,if_pos rfl]
  rw[hz];go_wp2_with fail
  go_ret;exact⟨_,rfl,names_lit w _ [b,c],z33 w _ _⟩
 ·have hz:knownZ ⟨kd,num,a,b,c,kids⟩ i= []:=by
   unfold knownZ;rw[if_neg qk,if_neg ql,if_neg qm,if_neg k26]
  refine zb32 ?_;intro b6 b25 b8 b9 b20 b26;clear hz h1 h2;go_wp2_with fail
  go_ret;exact⟨_,rfl,names_none _,one_new' w _⟩
end
end Go.Proofs.YtbbffkiobmbkfaaGreatDoor
