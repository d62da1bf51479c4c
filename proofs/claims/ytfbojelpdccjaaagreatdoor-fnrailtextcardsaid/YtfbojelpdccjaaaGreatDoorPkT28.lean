import Derived.Test.YtfbojelpdccjaaaGreatDoorPkT27
namespace Go.Proofs.YtfbojelpdccjaaaGreatDoor
open Go.RowKit Go.Deep
variable {s:ByteArray}{r rest ts us:List Tok}{a b g k l:List UInt8}{L f i p:Nat}{t:Tp}
section
open Go.RowKit Go.Deep
def sepB:List UInt8->Bool
 |[]=>true
 |b::_=>b==32 || (b==41 || b==44)
def Lx (l:List UInt8) (ts:List Tok):Prop:= ∀(s:ByteArray) (p:Nat) (ws:List Wd) (f:Nat) (rest:List UInt8),s.data.toList.drop p=l++rest->sepB rest=true->l.length<=f-> ∃ds f',lexGo s f p ws=lexGo s f' (p+l.length) (ws++ds)/\ds.map wt=ts/\f<=f'+ l.length
def LxA (l:List UInt8) (ts:List Tok):Prop:= ∀(s:ByteArray) (p:Nat) (ws:List Wd) (f:Nat) (rest:List UInt8),s.data.toList.drop p=l++rest->l.length<=f-> ∃ds f',lexGo s f p ws=lexGo s f' (p+l.length) (ws++ds)/\ds.map wt=ts/\f<=f'+ l.length
theorem sepB_app (ha:sepB a=true) (hb:sepB b=true):sepB (a++b)=true:=by
 cases a with
 |nil=>exact hb
 |cons x a=>exact ha
theorem sepB_app' (hn:a≠ []) (ha:sepB a=true):sepB (a++b)=true:=by
 cases a with
 |nil=>exact absurd rfl hn
 |cons x a=>exact ha
theorem drop_app (h:s.data.toList.drop p=a++b):s.data.toList.drop (p+a.length)=b:=by
 rw[<-List.drop_drop,h];exact List.drop_left' rfl
theorem Lx.app (h:Lx a ts) (h':Lx b us) (hs:sepB b=true):Lx (a++b) (ts++us):=fun s p ws f rest hd hr hf=>by
 rw[List.append_assoc]at hd;rw[List.length_append]at hf;obtain⟨ds,f1,e1,e2,e3⟩:=h s p ws f _ hd (sepB_app hs hr) yf;obtain⟨es,f2,g1,g2,g3⟩:=h' s (p+a.length) (ws++ds) f1 rest (drop_app hd) hr yf;exact⟨ds++es,f2,gx,gy,gz⟩
theorem LxA.app (h:LxA a ts) (h':Lx b us):Lx (a++b) (ts++us):=fun s p ws f rest hd hr hf=>by
 rw[List.append_assoc]at hd;rw[List.length_append]at hf;obtain⟨ds,f1,e1,e2,e3⟩:=h s p ws f _ hd yf;obtain⟨es,f2,g1,g2,g3⟩:=h' s (p+a.length) (ws++ds) f1 rest (drop_app hd) hr yf;exact⟨ds++es,f2,gx,gy,gz⟩
theorem LxA.appA (h:LxA a ts) (h':LxA b us):LxA (a++b) (ts++us):=fun s p ws f rest hd hf=>by
 rw[List.append_assoc]at hd;rw[List.length_append]at hf;obtain⟨ds,f1,e1,e2,e3⟩:=h s p ws f _ hd yf;obtain⟨es,f2,g1,g2,g3⟩:=h' s (p+a.length) (ws++ds) f1 rest (drop_app hd) yf;exact⟨ds++es,f2,gx,gy,gz⟩
theorem Lx.appA (h:Lx a ts) (h':LxA b us) (hn:b≠ []) (hs:sepB b=true):LxA (a++b) (ts++us):=fun s p ws f rest hd hf=>by
 rw[List.append_assoc]at hd;rw[List.length_append]at hf;obtain⟨ds,f1,e1,e2,e3⟩:=h s p ws f _ hd (sepB_app' hn hs) yf;obtain⟨es,f2,g1,g2,g3⟩:=h' s (p+a.length) (ws++ds) f1 rest (drop_app hd) yf;exact⟨ds++es,f2,gx,gy,gz⟩
theorem at_i (h:s.data.toList.drop p=l) (hi:i<l.length):∃hs:p+i<s.size,s[p+i]'hs=l[i]:=by
 have h1:l.length=s.data.toList.length-p:=by rw[<-h,List.length_drop]
 have h2:s.data.toList.length=s.size:=nf;refine⟨yf,?_⟩;have h3:(s.data.toList.drop p)[i]?=l[i]? :=by rw[h]
 rw[List.getElem?_drop,List.getElem?_eq_getElem hi,List.getElem?_eq_getElem yf]at h3;exact Option.some.inj h3
theorem bz_i (h:s.data.toList.drop p=l) (hi:i<l.length):p+i<s.size/\bz s (p+i)=((l[i]).toNat:Int):=by
 obtain⟨h1,h2⟩:=at_i h hi;exact⟨h1,by rw[bz_at s h1,h2]⟩
theorem size_of (h:s.data.toList.drop p=l) (hp:p<=s.size):s.size=p+l.length:=by
 have h1:l.length=s.data.toList.length-p:=by rw[<-h,List.length_drop]
 have h2:s.data.toList.length=s.size:=nf;omega
theorem LxA.blank:LxA [32] []:=fun s p ws f rest hd hf=>by
 obtain⟨h1,h2⟩:=bz_i hd (i:=0) yn;obtain⟨g,rfl⟩:∃g,f=g+1:=⟨f-1,ng⟩
 refine⟨[],g,?_,rfl,yn⟩;rw[List.append_nil];exact lexGo_blank h1 (by rw[show p=p+0 from rfl,h2];rfl)
theorem bs_of (h:s.toList=l):s=bs l:=by
 rw[z67]at h
 cases s with
 | mk d=>
   subst h;rfl
theorem Lx.word {w:List UInt8}{c:UInt8}{r:List UInt8}(hc:w=c::r) (h8:w.length<=8) (hl:letterZ (c.toNat:Int)=true) (ha:∀b∈w,okb true (b.toNat:Int)=true):Lx w [(if isKey (bs w) then 3 else 2,bs w)]:=fun s p ws f rest hd hr hf=>by
 have hlen:1<=w.length:=by rw[hc];simp
 obtain⟨b1,b2⟩:=bz_i hd (i:=0) gz;have b3:bz s p=(c.toNat:Int):=by
  rw[show p=p+0 from rfl,b2];subst hc;rfl
 have hrun:IsRun s true p (p+w.length):=by
  refine⟨Nat.le_add_right _ _,?_,fun j h1 h2=>?_,fun h=>?_⟩
  .obtain⟨a1,-⟩:=bz_i hd (i:=w.length-1) gz;omega
  .obtain⟨-,a2⟩:=bz_i hd (i:=j-p) gz;rw[show p+(j-p)=j by omega]at a2;rw[a2,List.getElem_append_left yf];exact ha _ (List.getElem_mem _)
  .have hd2:=drop_app hd
   cases rest with
   | nil=>
     have:=size_of hd2 yf;simp at this;omega
   | cons x rest=>
     obtain⟨-,a2⟩:=bz_i hd2 (i:=0) yn;rw[show p+w.length=p+w.length+0 from rfl,a2];have hx:x=32\/x=41\/x=44:=nh;rcases hx with rfl|rfl|rfl<;>rfl
 have hcut:s.extract p (p+w.length)=bs w:=bs_of ni;have hw:wordAt s p=.ok (⟨if isKey (bs w) then 3 else 2,bs w,p⟩,p+w.length):=by
  have hnd:¬ digitZ (bz s p)=true:=by
   rw[b3];intro h;simp only[letterZ,digitZ,Bool.and_eq_true,decide_eq_true_eq]at hl h;omega
  unfold wordAt;rw[if_neg hnd,if_pos (by rw[b3];exact hl)];dsimp only;rw[<-hrun.eq,if_neg yf,hcut]
 obtain⟨g,rfl⟩:∃g,f=g+1:=⟨f-1,yf⟩
 refine⟨[⟨if isKey (bs w) then 3 else 2,bs w,p⟩],g,?_,rfl,yf⟩;refine lexGo_word b1 ?_ hw;rw[b3];intro h;simp only[letterZ,blankZ,Bool.and_eq_true,decide_eq_true_eq,Bool.or_eq_true,beq_iff_eq]at hl h;omega
theorem Lx.num {w:List UInt8}{c:UInt8}{r:List UInt8}(hc:w=c::r) (h9:w.length<=9) (ha:∀b∈w,digitZ (b.toNat:Int)=true) (hz:c=48->r= []):Lx w [(1,bs w)]:=fun s p ws f rest hd hr hf=>by
 have hlen:1<=w.length:=by rw[hc];simp
 obtain⟨b1,b2⟩:=bz_i hd (i:=0) gz;have b3:bz s p=(c.toNat:Int):=by
  rw[show p=p+0 from rfl,b2];subst hc;rfl
 have hdg:=ha c (by rw[hc];exact List.mem_cons_self);have hrun:IsRun s false p (p+w.length):=by
  refine⟨Nat.le_add_right _ _,?_,fun j h1 h2=>?_,fun h=>?_⟩
  .obtain⟨a1,-⟩:=bz_i hd (i:=w.length-1) gz;omega
  .obtain⟨-,a2⟩:=bz_i hd (i:=j-p) gz;rw[show p+(j-p)=j by omega]at a2;rw[a2,List.getElem_append_left yf,okb,ha _ (List.getElem_mem _)];rfl
  .have hd2:=drop_app hd
   cases rest with
   | nil=>
     have:=size_of hd2 yf;simp at this;omega
   | cons x rest=>
     obtain⟨-,a2⟩:=bz_i hd2 (i:=0) yn;rw[show p+w.length=p+w.length+0 from rfl,a2];have hx:x=32\/x=41\/x=44:=nh;rcases hx with rfl|rfl|rfl<;>rfl
 have hcut:s.extract p (p+w.length)=bs w:=bs_of ni;have hw:wordAt s p=.ok (⟨1,bs w,p⟩,p+w.length):=by
  unfold wordAt;rw[if_pos (by rw[b3];exact hdg)];dsimp only;rw[<-hrun.eq,if_neg ?_,hcut];rintro (h|⟨h,h2⟩)
  .omega
  .have:c=48:=UInt8.toNat_inj.1 (by rw[b3]at h;show _=48;omega);have:=hz this;rw[hc,this]at h2;simp at h2
 obtain⟨g,rfl⟩:∃g,f=g+1:=⟨f-1,yf⟩
 refine⟨[⟨1,bs w,p⟩],g,?_,rfl,yf⟩;refine lexGo_word b1 ?_ hw;rw[b3];intro h;simp only[digitZ,blankZ,Bool.and_eq_true,decide_eq_true_eq,Bool.or_eq_true,beq_iff_eq]at hdg h;omega
theorem hit_eq (t:ByteArray) (g:List UInt8):signHit t (bs g)=(t.toList.take g.length==g):=by
 have hs:(bs g).size=g.length:=by
  show g.toArray.size=_;simp
 unfold signHit;rw[hs,z58,cut_list,z67,List.drop_zero,Nat.sub_zero];by_cases h:g.length<=t.size
 .rw[decide_eq_true h,Bool.true_and]
 .rw[decide_eq_false h,Bool.false_and];refine(beq_false_of_ne fun e=>?_).symm;have h2:=congrArg List.length e;rw[List.length_take,Array.length_toList (xs:=t.data)]at h2;have:t.data.size=t.size:=rfl;omega
theorem signOf_eq (t:ByteArray):signOf t=((signBytes.find? (fun l=>t.toList.take l.length==l)).map bs).getD ByteArray.empty:=by
 have e:signStrs=signBytes.map bs:=rfl;unfold signOf;rw[e,List.find?_map];congr 2
 refine congrArg (fun q=>List.find? q signBytes) (funext fun l=>?_);exact hit_eq t l
theorem signs_first:∀g∈signBytes,∃c r,g=c::r/\digitZ (c.toNat:Int)=false/\letterZ (c.toNat:Int)=false/\blankZ (c.toNat:Int)=false:=by
 intro g hg;simp only[signBytes,List.mem_cons,List.not_mem_nil,or_false]at hg;rcases hg with rfl|rfl|rfl|rfl|rfl|rfl|rfl|rfl|rfl|rfl|rfl|rfl|rfl|rfl<;>exact⟨_,_,rfl,yh,yh,yh⟩
theorem sign_step (hg:g∈signBytes) {ws:List Wd}{rest:List UInt8}(hd:s.data.toList.drop p=g++rest) (hf:g.length<=f) (hfind:signBytes.find? (fun l=>(g++rest).take l.length==l)=some g):∃ds f',lexGo s f p ws=lexGo s f' (p+g.length) (ws++ds)/\ds.map wt= [(4,bs g)]/\f<=f'+ g.length:=by
 obtain⟨c,r,hc,n1,n2,n3⟩:=signs_first g hg;have hlen:1<=g.length:=by rw[hc];simp
 obtain⟨b1,b2⟩:=bz_i hd (i:=0) gz;have b3:bz s p=(c.toNat:Int):=by
  rw[show p=p+0 from rfl,b2];subst hc;rfl
 have hsz:(bs g).size=g.length:=by
  show g.toArray.size=_;simp
 have hso:signOf (s.extract p s.size)=bs g:=by
  rw[signOf_eq];have e:(s.extract p s.size).toList=g++rest:=by
   rw[cut_list,hd,List.take_of_length_le];have:=size_of hd yf;omega
  rw[e,hfind];rfl
 have hw:wordAt s p=.ok (⟨4,bs g,p⟩,p+g.length):=by
  unfold wordAt;rw[if_neg (by rw[b3,n1];decide),if_neg (by rw[b3,n2];decide)];dsimp only;rw[hso,hsz,if_neg yf]
 obtain⟨k,rfl⟩:∃k,f=k+1:=⟨f-1,yf⟩
 exact⟨[⟨4,bs g,p⟩],k,lexGo_word b1 (by rw[b3,n3];decide) hw,rfl,yf⟩
theorem Lx.sign (hg:g∈signBytes):Lx g [sg g]:=fun s p ws f rest hd hr hf=>by
 refine sign_step hg hd hf ?_;have hcase:rest= []\/(∃r,rest=32::r)\/(∃r,rest=41::r)\/ ∃r,rest=44::r:=by
  cases rest with
  |nil=>exact Or.inl rfl
  | cons x rest=>
    have hx:x=32\/x=41\/x=44:=nh;rcases hx with rfl|rfl|rfl
    .exact Or.inr (Or.inl ⟨_,rfl⟩)
    .exact Or.inr (Or.inr (Or.inl ⟨_,rfl⟩))
    .exact Or.inr (Or.inr (Or.inr ⟨_,rfl⟩))
 simp only[signBytes,List.mem_cons,List.not_mem_nil,or_false]at hg;rcases hg with rfl|rfl|rfl|rfl|rfl|rfl|rfl|rfl|rfl|rfl|rfl|rfl|rfl|rfl
 all_goals
  rcases hcase with rfl|⟨r,rfl⟩|⟨r,rfl⟩|⟨r,rfl⟩<;>rfl
theorem LxA.opened:LxA [40] [sg gOpen]:=fun s p ws f rest hd hf=>sign_step (g:= [40]) yh hd hf (by
 cases rest<;>rfl)
theorem LxA.signB (hg:g∈signBytes):LxA (g++ [32]) [sg g]:=by
 have:=(Lx.sign hg).appA LxA.blank yh rfl;rwa[List.append_nil]at this
theorem keys_are:∀k∈keyBytes,k.length<=8/\(∀b∈k,okb true (b.toNat:Int)=true)/\(match k with|[]=>false|c::_=>letterZ (c.toNat:Int))=true:=yh
theorem isKey_bs (k:List UInt8):isKey (bs k)=keyBytes.any (fun l=>l==k):=by
 unfold isKey;rw[z58]
theorem Lx.key (hk:k∈keyBytes):Lx k [kw k]:=by
 obtain⟨h1,h2,h3⟩:=keys_are k hk
 cases k with
 |nil=>cases h3
 | cons c r=>
   have:=Lx.word rfl h1 h3 h2;rwa[isKey_bs,if_pos (List.any_eq_true.2 ⟨_,hk,yn⟩)]at this
theorem LxA.keyB (hk:k∈keyBytes):LxA (k++ [32]) [kw k]:=by
 have:=(Lx.key hk).appA LxA.blank yh rfl;rwa[List.append_nil]at this
theorem Lx.name {a:ByteArray}(h:nameOk a=true):Lx a.data.toList [nmT a]:=by
 simp only[nameOk,Bool.and_eq_true,decide_eq_true_eq,List.all_eq_true,List.mem_range]at h;obtain⟨⟨⟨h1,h2⟩,h3⟩,h4⟩:=h;have hlen:a.data.toList.length=a.size:=nf;have hb:bs a.data.toList=a:=(bs_of (z67 a)).symm;have hat:∀i (hi:i<a.size),bz a i=((a.data.toList[i]'(yf)).toNat:Int):=fun i hi=>bz_at a hi
 cases hl:a.data.toList with
 |nil=>rw[hl]at hlen;simp at hlen;omega
 | cons c r=>
   have h0:=h3 0 yf;have e0:=hat 0 yf;simp only[hl,List.getElem_cons_zero]at e0;have hc:letterZ (c.toNat:Int)=true:=by
    unfold nameAt at h0;rw[e0]at h0;simpa using h0
   have hall:∀b∈c::r,okb true (b.toNat:Int)=true:=fun b hb'=> by
    rw[<-hl]at hb';obtain⟨i,hi,rfl⟩:=List.getElem_of_mem hb';have:=h3 i yf;unfold nameAt at this;rw[hat i yf]at this;unfold okb;simp only[Bool.or_eq_true,Bool.and_eq_true]at this ⊢;rcases this with h|h
    .exact Or.inr ⟨trivial,h⟩
    .exact Or.inl h.2
   have:=Lx.word (w:=c::r) rfl (by rw[<-hl];omega) hc hall;rw[<-hl,hb]at this;have hk:isKey a=false:=by simpa using h4
   rw[hk,if_neg yh]at this;rw[<-hl];exact this
theorem digits_lx:∀n:Nat,(∀b∈Lib.decDigits n,digitZ (b.toNat:Int)=true)/\ ∃c r,Lib.decDigits n=c::r/\(c=48->r= []/\n=0)
 | n=>by
   have hd:∀d:Nat,d<10->digitZ ((UInt8.ofNat (48+d)).toNat:Int)=true/\(UInt8.ofNat (48+d)=48->d=0):=yh;rw[Lib.decDigits];split
   .rename_i h;exact⟨fun b hb=>by rw[List.mem_singleton]at hb;rw[hb];exact(hd n h).1,_,_,rfl,fun e=>⟨rfl,(hd n h).2 e⟩⟩
   .obtain⟨i1,c,r,i2,i3⟩:=digits_lx (n/10);refine⟨fun b hb=>?_,c,r++ [UInt8.ofNat (48+n % 10)],by rw[i2];rfl,fun e=>?_⟩
    .rcases List.mem_append.1 hb with hb|hb
     .exact i1 b hb
     .rw[List.mem_singleton]at hb;rw[hb];exact(hd (n % 10) yf).1
    .have:=(i3 e).2;omega
termination_by n=>n
decreasing_by omega
theorem Lx.number {n:Int}(h0:0<=n) (h9:(Lib.itoa n).length<=9):Lx (Lib.itoa n) [nuT n]:=by
 have e:Lib.itoa n=Lib.decDigits n.toNat:=by
  unfold Lib.itoa;rw[if_neg yf]
 obtain⟨h1,c,r,h2,h3⟩:=digits_lx n.toNat;unfold nuT;rw[e]at h9 |-;exact Lx.num h2 h9 h1 (fun hc=>(h3 hc).1)
theorem Lx.br (h:Lx l ts):Lx ([40]++l++ [41]) (sg gOpen::(ts++ [sg gShut])):=by
 rw[List.append_assoc];exact LxA.opened.app (h.app (Lx.sign (g:= [41]) yh) rfl)
def NT:Nat->Nt Tr
 |0=> .expr
 |1=> .cons
 |2=> .comp
 |3=> .sum
 |4=> .prod
 |5=> .call
 |_=> .atom
def contT (L:Nat) (x:Tok):Bool:=(decide (L<=5) && beginsT x) || ((decide (L<=4) && x.2.toList==gStar) || ((decide (L<=3) && (x.2.toList==gPlus || x.2.toList==gMinus)) || ((decide (L<=2) && (x.2.toList==gEq || x.2.toList==gLt)) || (decide (L<=1) && x.2.toList==gCons))))
def stop (L:Nat):List Tok->Bool
 |[]=>true
 |x::_=>!contT L x
theorem stop_cons {x:Tok}(h:stop L (x::r)=true):(L<=5->beginsT x=false)/\(L<=4->(x.2.toList==gStar)=false)/\(L<=3->(x.2.toList==gPlus)=false/\(x.2.toList==gMinus)=false)/\(L<=2->(x.2.toList==gEq)=false/\(x.2.toList==gLt)=false)/\(L<=1->(x.2.toList==gCons)=false):=by
 simp only[stop,contT,Bool.not_eq_true',Bool.or_eq_false_iff]at h;obtain⟨h1,h2,h3,h4,h5⟩:=h;refine⟨fun l=>?_,fun l=>?_,fun l=>?_,fun l=>?_,fun l=>?_⟩
 .rwa[decide_eq_true l,Bool.true_and]at h1
 .rwa[decide_eq_true l,Bool.true_and]at h2
 .rw[decide_eq_true l,Bool.true_and,Bool.or_eq_false_iff]at h3;exact h3
 .rw[decide_eq_true l,Bool.true_and,Bool.or_eq_false_iff]at h4;exact h4
 .rwa[decide_eq_true l,Bool.true_and]at h5
theorem stop_mono {L':Nat}(h:L<=L') (hs:stop L r=true):stop L' r=true:=by
 cases r with
 |nil=>rfl
 | cons x r=>
   obtain⟨h1,h2,h3,h4,h5⟩:=stop_cons hs;simp only[stop,contT,Bool.not_eq_true',Bool.or_eq_false_iff,Bool.and_eq_false_imp,decide_eq_true_eq];exact⟨fun l=>h1 yf,fun l=>h2 yf,fun l=>h3 yf,fun l=>h4 yf,fun l=>h5 yf⟩
theorem stop_star (h:L<=4) (hs:stop L r=true):hd r gStar=false:=by
 cases r with
 |nil=>rfl
 |cons x r=>exact(stop_cons hs).2.1 h
theorem stop_plus (h:L<=3) (hs:stop L r=true):hd r gPlus=false/\hd r gMinus=false:=by
 cases r with
 |nil=>exact⟨rfl,rfl⟩
 |cons x r=>exact(stop_cons hs).2.2.1 h
theorem stop_eq (h:L<=2) (hs:stop L r=true):hd r gEq=false/\hd r gLt=false:=by
 cases r with
 |nil=>exact⟨rfl,rfl⟩
 |cons x r=>exact(stop_cons hs).2.2.2.1 h
theorem stop_cons' (h:L<=1) (hs:stop L r=true):hd r gCons=false:=by
 cases r with
 |nil=>rfl
 |cons x r=>exact(stop_cons hs).2.2.2.2 h
theorem stop_begins (h:L<=5) (hs:stop L r=true):hdB r=false:=by
 cases r with
 |nil=>rfl
 |cons x r=>exact(stop_cons hs).1 h
section
variable (ws:List Wd)
def RL (L:Nat) (T:List Tok) (x:Tr):Prop:= ∀i rest,X ws i (T++rest)->stop L rest=true->Ev (fun F=>ipz ws F (NT L)) i (x,i+T.length)
def AL (L:Nat) (lp:Tr->Nt Tr) (T:List Tok) (x:Tr):Prop:= ∀i rest r,X ws i (T++rest)->stop (L+1) rest=true->Ev (fun F=>ipz ws F (lp x)) (i+T.length) r->Ev (fun F=>ipz ws F (NT L)) i r
variable {ws}
theorem sumL_end (h:X ws i rest) (hs:stop 3 rest=true) (x:Tr):Ev (fun F=>ipz ws F (.sumL x)) i (x,i):=by
 refine Ev.step ?_;show Ev (fun F=>orI ws gPlus (bindI (ipz ws F .prod) fun b=>ipz ws F (.sumL (mkT (nd0 11) [x,b]))) (orI ws gMinus (bindI (ipz ws F .prod) fun b=>ipz ws F (.sumL (mkT (nd0 12) [x,b]))) (pureI x))) i (x,i);exact Ev.unseen h (stop_plus yh hs).1 (Ev.unseen h (stop_plus yh hs).2 (Ev.const rfl))
theorem prodL_end (h:X ws i rest) (hs:stop 4 rest=true) (x:Tr):Ev (fun F=>ipz ws F (.prodL x)) i (x,i):=by
 refine Ev.step ?_;show Ev (fun F=>orI ws gStar (bindI (ipz ws F .call) fun b=>ipz ws F (.prodL (mkT (nd0 13) [x,b]))) (pureI x)) i (x,i);exact Ev.unseen h (stop_star yh hs) (Ev.const rfl)
theorem callL_end (h:X ws i rest) (hs:stop 5 rest=true) (x:Tr):Ev (fun F=>ipz ws F (.callL x)) i (x,i):=by
 refine Ev.step ⟨0,fun F _=>?_⟩;show callLI ws (ipz ws F) x i=_;unfold callLI;rw[h.starts,stop_begins yh hs];rfl
theorem R3_of_A {T:List Tok}{x:Tr}(h:AL ws 3 .sumL T x):RL ws 3 T x:=fun i rest hX hs=>h i rest _ hX (stop_mono yh hs) (sumL_end hX.app hs x)
theorem R4_of_A {T:List Tok}{x:Tr}(h:AL ws 4 .prodL T x):RL ws 4 T x:=fun i rest hX hs=>h i rest _ hX (stop_mono yh hs) (prodL_end hX.app hs x)
theorem R5_of_A {T:List Tok}{x:Tr}(h:AL ws 5 .callL T x):RL ws 5 T x:=fun i rest hX hs=>h i rest _ hX (stop_mono yh hs) (callL_end hX.app hs x)
theorem A3_of_R {T:List Tok}{x:Tr}(h:RL ws 4 T x):AL ws 3 .sumL T x:=fun i rest r hX hs hr=>by
 refine Ev.step ?_;show Ev (fun F=>bindI (ipz ws F .prod) fun a=>ipz ws F (.sumL a)) i r;exact Ev.bind (h i rest hX hs) hr
theorem A4_of_R {T:List Tok}{x:Tr}(h:RL ws 5 T x):AL ws 4 .prodL T x:=fun i rest r hX hs hr=>by
 refine Ev.step ?_;show Ev (fun F=>bindI (ipz ws F .call) fun a=>ipz ws F (.prodL a)) i r;exact Ev.bind (h i rest hX hs) hr
def h6 (T:List Tok):Prop:=hdB T=true
def h1 (T:List Tok):Prop:=hdB T=true\/hd T kFst=true\/hd T kSnd=true\/hd T kPrint=true\/hd T kDo=true
theorem beg_not {x:Tok}{l:List Tok}(hw:WordsOk ws) (h:X ws i (x::l)) (hb:beginsT x=true) (hk:k∈keysZ) (hne:k≠gOpen/\k≠kTrue/\k≠kFalse/\k≠kNil/\k≠kHandle/\k≠kShallow):(x.2.toList==k)=false:=by
 unfold beginsT begins at hb;simp only[Bool.or_eq_true,decide_eq_true_eq]at hb;obtain⟨n1,n2,n3,n4,n5,n6⟩:=hne;have hp:x.1<3->(x.2.toList==k)=false:=fun h3=>h.plain hw h3 k hk
 rcases hb with hb|hb|hb|hb|hb|hb|hb|hb
 .exact hp (by rw[hb];decide)
 .exact hp (by rw[hb];decide)
 all_goals
  have e:=eq_of_beq hb;rw[e];refine beq_false_of_ne (fun e2=>?_);subst e2;first|exact n1 rfl|exact n2 rfl|exact n3 rfl|exact n4 rfl|exact n5 rfl|exact n6 rfl
theorem h1_ne {T:List Tok}(h:h1 T):T≠ []:=fun e=>by
 subst e;rcases h with h|h|h|h|h<;>cases h
theorem h6_ne {T:List Tok}(h:h6 T):T≠ []:=fun e=>by subst e;cases h
theorem h1_not {T:List Tok}(hw:WordsOk ws) (h:h1 T) (hX:X ws i (T++rest)) (hk:k∈keysZ) (hne:k≠gOpen/\k≠kTrue/\k≠kFalse/\k≠kNil/\k≠kHandle/\k≠kShallow) (hne2:k≠kFst/\k≠kSnd/\k≠kPrint/\k≠kDo):hd (T++rest) k=false:=by
 cases T with
 |nil=>exact absurd rfl (h1_ne h)
 | cons x T=>
   have hx:∀k',hd (x::T) k'= true->k≠k'->(x.2.toList==k)=false:=fun k' e n=>by
    have e1:x.2.toList=k':= eq_of_beq e;rw[e1];exact beq_false_of_ne (fun e2=>n e2.symm)
   rcases h with h|h|h|h|h
   .exact beg_not hw hX h hk hne
   .exact hx _ h hne2.1
   .exact hx _ h hne2.2.1
   .exact hx _ h hne2.2.2.1
   .exact hx _ h hne2.2.2.2
theorem h6_not {T:List Tok}(hw:WordsOk ws) (h:h6 T) (hX:X ws i (T++rest)) (hk:k∈keysZ) (hne:k≠gOpen/\k≠kTrue/\k≠kFalse/\k≠kNil/\k≠kHandle/\k≠kShallow):hd (T++rest) k=false:=by
 cases T with
 |nil=>exact absurd rfl (h6_ne h)
 |cons x T=>exact beg_not hw hX h hk hne
theorem R0_of {T:List Tok}{x:Tr}(hw:WordsOk ws) (hh:h1 T) (h:RL ws 1 T x):RL ws 0 T x:=fun i rest hX hs=>by
 have nt:=fun {k:List UInt8} (a:k∈keysZ) b c=>h1_not (k:=k) hw hh hX a b c
 refine Ev.step ?_;show Ev (fun F=>orI ws kLet (orI ws kRec (recI' ws (ipz ws F)) (letI' ws (ipz ws F))) (orI ws kIf (condI ws (ipz ws F)) (orI ws kFn (fnI ws (ipz ws F)) (orI ws kCase (caseI ws (ipz ws F)) (ipz ws F .cons))))) i _;refine Ev.unseen hX (nt yh yh yh) (Ev.unseen hX (nt yh yh yh) (Ev.unseen hX (nt yh yh yh) (Ev.unseen hX (nt yh yh yh) (h i rest hX (stop_mono yh hs)))))
theorem R1_of {T:List Tok}{x:Tr}(h:RL ws 2 T x):RL ws 1 T x:=fun i rest hX hs=>by
 refine Ev.step ?_;show Ev (fun F=>bindI (ipz ws F .comp) fun a=>orI ws gCons (bindI (ipz ws F .cons) fun b=>pureI (mkT (nd0 19) [a,b])) (pureI a)) i _;exact Ev.bind (h i rest hX (stop_mono yh hs)) (Ev.unseen hX.app (stop_cons' yh hs) (Ev.const rfl))
theorem R2_of {T:List Tok}{x:Tr}(h:RL ws 3 T x):RL ws 2 T x:=fun i rest hX hs=>by
 refine Ev.step ?_;show Ev (fun F=>bindI (ipz ws F .sum) fun a=>orI ws gEq (bindI (ipz ws F .sum) fun b=>pureI (mkT (nd0 14) [a,b])) (orI ws gLt (bindI (ipz ws F .sum) fun b=>pureI (mkT (nd0 15) [a,b])) (pureI a))) i _;exact Ev.bind (h i rest hX (stop_mono yh hs)) (Ev.unseen hX.app (stop_eq yh hs).1 (Ev.unseen hX.app (stop_eq yh hs).2 (Ev.const rfl)))
theorem A5_of_R {T:List Tok}{x:Tr}(hw:WordsOk ws) (hh:h6 T) (h:RL ws 6 T x):AL ws 5 .callL T x:=fun i rest r hX hs hr=>by
 have nt:=fun {k:List UInt8} (a:k∈keysZ) b=>h6_not (k:=k) hw hh hX a b
 refine Ev.step ?_;show Ev (fun F=>bindI (orI ws kFst (bindI (ipz ws F .atom) fun a=>pureI (mkT (nd0 17) [a])) (orI ws kSnd (bindI (ipz ws F .atom) fun a=>pureI (mkT (nd0 18) [a])) (orI ws kPrint (bindI (ipz ws F .atom) fun a=>pureI (mkT (nd0 21) [a])) (orI ws kDo (bindI (nameI ws) fun x=>bindI (ipz ws F .atom) fun a=>pureI (mkT (nd1 22 x) [a])) (ipz ws F .atom))))) fun a=>ipz ws F (.callL a)) i r;exact Ev.bind (Ev.unseen hX (nt yh yh) (Ev.unseen hX (nt yh yh) (Ev.unseen hX (nt yh yh) (Ev.unseen hX (nt yh yh) (h i rest hX hs))))) hr
end
def tkBr (k:Int) (L:Nat) (T:List Tok):List Tok:=if lvK k<(L:Int) then sg gOpen::(T++ [sg gShut]) else T
def tk3 (_go:Tp->Nat->List Tok) (_t:Tp):List Tok:=sg gOpen::(sg gShut:: [])
def tk4 (_go:Tp->Nat->List Tok) (_t:Tp):List Tok:=kw kNil:: []
def tk5 (_go:Tp->Nat->List Tok) (t:Tp):List Tok:=nmT t.n.a:: []
def tk6 (go:Tp->Nat->List Tok) (t:Tp):List Tok:=kw kFn::(nmT t.n.a::(sg gTo::(go (t.kid 0) 0)))
def tk7 (go:Tp->Nat->List Tok) (t:Tp):List Tok:=go (t.kid 0) 5++(go (t.kid 1) 6)
def tk8 (go:Tp->Nat->List Tok) (t:Tp):List Tok:=kw kLet::(nmT t.n.a::(sg gEq::(go (t.kid 0) 0++(kw kIn::(go (t.kid 1) 0)))))
def tk9 (go:Tp->Nat->List Tok) (t:Tp):List Tok:=kw kLet::(kw kRec::(nmT t.n.a::(nmT t.n.b::(sg gEq::(go (t.kid 0) 0++(kw kIn::(go (t.kid 1) 0)))))))
def tk10 (go:Tp->Nat->List Tok) (t:Tp):List Tok:=kw kIf::(go (t.kid 0) 0++(kw kThen::(go (t.kid 1) 0++(kw kElse::(go (t.kid 2) 0)))))
def tk11 (go:Tp->Nat->List Tok) (t:Tp):List Tok:=go (t.kid 0) 3++(sg gPlus::(go (t.kid 1) 4))
def tk12 (go:Tp->Nat->List Tok) (t:Tp):List Tok:=go (t.kid 0) 3++(sg gMinus::(go (t.kid 1) 4))
def tk13 (go:Tp->Nat->List Tok) (t:Tp):List Tok:=go (t.kid 0) 4++(sg gStar::(go (t.kid 1) 5))
def tk14 (go:Tp->Nat->List Tok) (t:Tp):List Tok:=go (t.kid 0) 3++(sg gEq::(go (t.kid 1) 3))
def tk15 (go:Tp->Nat->List Tok) (t:Tp):List Tok:=go (t.kid 0) 3++(sg gLt::(go (t.kid 1) 3))
def tk19 (go:Tp->Nat->List Tok) (t:Tp):List Tok:=go (t.kid 0) 2++(sg gCons::(go (t.kid 1) 1))
def tk16 (go:Tp->Nat->List Tok) (t:Tp):List Tok:=sg gOpen::(go (t.kid 0) 0++(sg gComma::(go (t.kid 1) 0++(sg gShut:: []))))
def tk17 (go:Tp->Nat->List Tok) (t:Tp):List Tok:=kw kFst::(go (t.kid 0) 6)
def tk18 (go:Tp->Nat->List Tok) (t:Tp):List Tok:=kw kSnd::(go (t.kid 0) 6)
def tk21 (go:Tp->Nat->List Tok) (t:Tp):List Tok:=kw kPrint::(go (t.kid 0) 6)
def tk22 (go:Tp->Nat->List Tok) (t:Tp):List Tok:=kw kDo::(nmT t.n.a::(go (t.kid 0) 6))
def tk20 (go:Tp->Nat->List Tok) (t:Tp):List Tok:=kw kCase::(go (t.kid 0) 0++(kw kOf::(kw kNil::(sg gTo::(go (t.kid 1) 0++(sg gBar::(nmT t.n.a::(sg gCons::(nmT t.n.b::(sg gTo::(go (t.kid 2) 0)))))))))))
def tkOp (go:Tp->Nat->List Tok) (c:Tp):List Tok:=sg gBar::nmT c.n.a::nmT c.n.b::nmT c.n.c::sg gTo::go (c.kid 0) 0
def tkH (go:Tp->Nat->List Tok) (t:Tp):List Tok:=
 kw (if t.n.kind=24 then kShallow else kHandle)::(go (t.kid 0) 0++(kw kWith::kw kRet::nmT (t.kid 1).n.a::sg gTo::(go ((t.kid 1).kid 0) 0++((t.kids.drop 2).flatMap (tkOp go)++ [kw kEnd]))))
def tkB:Nat->Tp->List Tok
 |0,_=> []
 | f+1,t=>
   if t.n.kind=1 then [nuT t.n.num] else
   if t.n.kind=2 then [kw (if t.n.num=0 then kFalse else kTrue)] else
   if t.n.kind=3 then tk3 (fun c L=>tkBr c.n.kind L (tkB f c)) t else
   if t.n.kind=4 then tk4 (fun c L=>tkBr c.n.kind L (tkB f c)) t else
   if t.n.kind=5 then tk5 (fun c L=>tkBr c.n.kind L (tkB f c)) t else
   if t.n.kind=6 then tk6 (fun c L=>tkBr c.n.kind L (tkB f c)) t else
   if t.n.kind=7 then tk7 (fun c L=>tkBr c.n.kind L (tkB f c)) t else
   if t.n.kind=8 then tk8 (fun c L=>tkBr c.n.kind L (tkB f c)) t else
   if t.n.kind=9 then tk9 (fun c L=>tkBr c.n.kind L (tkB f c)) t else
   if t.n.kind=10 then tk10 (fun c L=>tkBr c.n.kind L (tkB f c)) t else
   if t.n.kind=11 then tk11 (fun c L=>tkBr c.n.kind L (tkB f c)) t else
   if t.n.kind=12 then tk12 (fun c L=>tkBr c.n.kind L (tkB f c)) t else
   if t.n.kind=13 then tk13 (fun c L=>tkBr c.n.kind L (tkB f c)) t else
   if t.n.kind=14 then tk14 (fun c L=>tkBr c.n.kind L (tkB f c)) t else
   if t.n.kind=15 then tk15 (fun c L=>tkBr c.n.kind L (tkB f c)) t else
   if t.n.kind=19 then tk19 (fun c L=>tkBr c.n.kind L (tkB f c)) t else
   if t.n.kind=16 then tk16 (fun c L=>tkBr c.n.kind L (tkB f c)) t else
   if t.n.kind=17 then tk17 (fun c L=>tkBr c.n.kind L (tkB f c)) t else
   if t.n.kind=18 then tk18 (fun c L=>tkBr c.n.kind L (tkB f c)) t else
   if t.n.kind=21 then tk21 (fun c L=>tkBr c.n.kind L (tkB f c)) t else
   if t.n.kind=22 then tk22 (fun c L=>tkBr c.n.kind L (tkB f c)) t else
   if t.n.kind=20 then tk20 (fun c L=>tkBr c.n.kind L (tkB f c)) t else
   tkH (fun c L=>tkBr c.n.kind L (tkB f c)) t
def tkS (f:Nat) (t:Tp) (L:Nat):List Tok:=tkBr t.n.kind L (tkB f t)
theorem tkB1 (h:t.n.kind=1):tkB (f+1) t= [nuT t.n.num]:=by
 rw[tkB,if_pos h]
theorem tkB2 (h:t.n.kind=2):tkB (f+1) t= [kw (if t.n.num=0 then kFalse else kTrue)]:=by
 rw[tkB,if_neg yf,if_pos h]
theorem tkB3 (h:t.n.kind=3):tkB (f+1) t=tk3 (tkS f) t:=by
 rw[tkB,if_neg yf,if_neg yf,if_pos h];rfl
theorem tkB4 (h:t.n.kind=4):tkB (f+1) t=tk4 (tkS f) t:=by
 rw[tkB,if_neg yf,if_neg yf,if_neg yf,if_pos h];rfl
theorem tkB5 (h:t.n.kind=5):tkB (f+1) t=tk5 (tkS f) t:=by
 rw[tkB];(iterate 4 rw[if_neg yf]);rw[if_pos h];rfl
theorem tkB6 (h:t.n.kind=6):tkB (f+1) t=tk6 (tkS f) t:=by
 rw[tkB];(iterate 5 rw[if_neg yf]);rw[if_pos h];rfl
theorem tkB7 (h:t.n.kind=7):tkB (f+1) t=tk7 (tkS f) t:=by
 rw[tkB];(iterate 6 rw[if_neg yf]);rw[if_pos h];rfl
theorem tkB8 (h:t.n.kind=8):tkB (f+1) t=tk8 (tkS f) t:=by
 rw[tkB];(iterate 7 rw[if_neg yf]);rw[if_pos h];rfl
theorem tkB9 (h:t.n.kind=9):tkB (f+1) t=tk9 (tkS f) t:=by
 rw[tkB];(iterate 8 rw[if_neg yf]);rw[if_pos h];rfl
theorem tkB10 (h:t.n.kind=10):tkB (f+1) t=tk10 (tkS f) t:=by
 rw[tkB];(iterate 9 rw[if_neg yf]);rw[if_pos h];rfl
theorem tkB11 (h:t.n.kind=11):tkB (f+1) t=tk11 (tkS f) t:=by
 rw[tkB];(iterate 10 rw[if_neg yf]);rw[if_pos h];rfl
theorem tkB12 (h:t.n.kind=12):tkB (f+1) t=tk12 (tkS f) t:=by
 rw[tkB];(iterate 11 rw[if_neg yf]);rw[if_pos h];rfl
theorem tkB13 (h:t.n.kind=13):tkB (f+1) t=tk13 (tkS f) t:=by
 rw[tkB];(iterate 12 rw[if_neg yf]);rw[if_pos h];rfl
theorem tkB14 (h:t.n.kind=14):tkB (f+1) t=tk14 (tkS f) t:=by
 rw[tkB];(iterate 13 rw[if_neg yf]);rw[if_pos h];rfl
theorem tkB15 (h:t.n.kind=15):tkB (f+1) t=tk15 (tkS f) t:=by
 rw[tkB];(iterate 14 rw[if_neg yf]);rw[if_pos h];rfl
theorem tkB19 (h:t.n.kind=19):tkB (f+1) t=tk19 (tkS f) t:=by
 rw[tkB];(iterate 15 rw[if_neg yf]);rw[if_pos h];rfl
theorem tkB16 (h:t.n.kind=16):tkB (f+1) t=tk16 (tkS f) t:=by
 rw[tkB];(iterate 16 rw[if_neg yf]);rw[if_pos h];rfl
theorem tkB17 (h:t.n.kind=17):tkB (f+1) t=tk17 (tkS f) t:=by
 rw[tkB];(iterate 17 rw[if_neg yf]);rw[if_pos h];rfl
theorem tkB18 (h:t.n.kind=18):tkB (f+1) t=tk18 (tkS f) t:=by
 rw[tkB];(iterate 18 rw[if_neg yf]);rw[if_pos h];rfl
theorem tkB21 (h:t.n.kind=21):tkB (f+1) t=tk21 (tkS f) t:=by
 rw[tkB];(iterate 19 rw[if_neg yf]);rw[if_pos h];rfl
theorem tkB22 (h:t.n.kind=22):tkB (f+1) t=tk22 (tkS f) t:=by
 rw[tkB];(iterate 20 rw[if_neg yf]);rw[if_pos h];rfl
theorem tkB20 (h:t.n.kind=20):tkB (f+1) t=tk20 (tkS f) t:=by
 rw[tkB];(iterate 21 rw[if_neg yf]);rw[if_pos h];rfl
theorem tkBH (h:t.n.kind=23\/t.n.kind=24):tkB (f+1) t=tkH (tkS f) t:=by
 rw[tkB];(iterate 22 rw[if_neg yf]);rfl
structure Full (ws:List Wd) (F:Nat) (t:Tp):Prop where
 r:∀L,L<=6->RL ws L (tkS F t L) t.tr
 a3:AL ws 3 .sumL (tkS F t 3) t.tr
 a4:AL ws 4 .prodL (tkS F t 4) t.tr
 a5:AL ws 5 .callL (tkS F t 5) t.tr
 b1:∀L,1<=L->L<=6->h1 (tkS F t L)
 b6:h6 (tkS F t 6)
 nr:∀L,L<=6-> ∀i rest,X ws i (tkS F t L++rest)->hd (tkS F t L++rest) gShut=false
section
variable {ws:List Wd}{T:List Tok}{x:Tr}
theorem chain1 (hw:WordsOk ws) (hh:h1 T) (h:RL ws 1 T x):∀L,L<=1->RL ws L T x:=fun L hL=>by
 match L,hL with
 |0,_=>exact R0_of hw hh h
 |1,_=>exact h
theorem chain2 (hw:WordsOk ws) (hh:h1 T) (h:RL ws 2 T x):∀L,L<=2->RL ws L T x:=fun L hL=>by
 by_cases e:L=2
 .exact e ▸ h
 .exact chain1 hw hh (R1_of h) L yf
theorem chain3 (hw:WordsOk ws) (hh:h1 T) (h:AL ws 3 .sumL T x):∀L,L<=3->RL ws L T x:=fun L hL=>by
 by_cases e:L=3
 .exact e ▸ R3_of_A h
 .exact chain2 hw hh (R2_of (R3_of_A h)) L yf
theorem chain4 (hw:WordsOk ws) (hh:h1 T) (h:AL ws 4 .prodL T x):(∀L,L<=4->RL ws L T x)/\AL ws 3 .sumL T x:=by
 have h3:=A3_of_R (R4_of_A h);refine⟨fun L hL=>?_,h3⟩;by_cases e:L=4
 .exact e ▸ R4_of_A h
 .exact chain3 hw hh h3 L yf
theorem chain5 (hw:WordsOk ws) (hh:h1 T) (h:AL ws 5 .callL T x):(∀L,L<=5->RL ws L T x)/\AL ws 3 .sumL T x/\AL ws 4 .prodL T x:=by
 have h4:=A4_of_R (R5_of_A h);refine⟨fun L hL=>?_,(chain4 hw hh h4).2,h4⟩;by_cases e:L=5
 .exact e ▸ R5_of_A h
 .exact(chain4 hw hh h4).1 L yf
theorem chain6 (hw:WordsOk ws) (hh:h6 T) (h:RL ws 6 T x):(∀L,L<=6->RL ws L T x)/\AL ws 3 .sumL T x/\AL ws 4 .prodL T x/\AL ws 5 .callL T x:=by
 have h5:=A5_of_R hw hh h;obtain⟨c1,c2,c3⟩:=chain5 hw (Or.inl hh) h5;refine⟨fun L hL=>?_,c2,c3,h5⟩;by_cases e:L=6
 .exact e ▸ h
 .exact c1 L yf
theorem hd_is (c:Int) (l:List UInt8) (r:List Tok) (k:List UInt8):hd ((c,bs l)::r) k=(l==k):=by
 show((bs l).toList==k)=_;rw[z58]
theorem stop_key (c:Int) (h:c=3\/c=4) (hk:k∈ [kIn,kThen,kElse,kOf,gBar,gComma,gShut,kWith,kEnd]) (r:List Tok):stop 0 ((c,bs k)::r)=true:=by
 have key:∀k∈ [kIn,kThen,kElse,kOf,gBar,gComma,gShut,kWith,kEnd],((k==gOpen)=false/\(k==kTrue)=false/\(k==kFalse)=false/\(k==kNil)=false/\(k==kHandle)=false/\(k==kShallow)=false)/\(k==gStar)=false/\(k==gPlus)=false/\(k==gMinus)=false/\(k==gEq)=false/\(k==gLt)=false/\(k==gCons)=false:=yh;obtain⟨⟨k1,k2,k3,k4,k5,k6⟩,k7,k8,k9,k10,k11,k12⟩:=key k hk;simp only[stop,contT,beginsT,begins,z58];rw[k1,k2,k3,k4,k5,k6,k7,k8,k9,k10,k11,k12];rcases h with rfl|rfl<;>simp
theorem stop_op (L:Nat) (h:(k=gEq/\L=3)\/(k=gLt/\L=3)\/(k=gCons/\L=2)\/(k=gPlus/\L=4)\/(k=gMinus/\L=4)\/(k=gStar/\L=5)) (r:List Tok):stop L (sg k::r)=true:=by
 simp only[stop,contT,beginsT,begins,sg,z58];rcases h with ⟨rfl,rfl⟩|⟨rfl,rfl⟩|⟨rfl,rfl⟩|⟨rfl,rfl⟩|⟨rfl,rfl⟩|⟨rfl,rfl⟩<;>decide
theorem stop6 (r:List Tok):stop 6 r=true:=by
 cases r with
 |nil=>rfl
 |cons x r=>simp[stop,contT]
theorem begins_open:beginsT (sg gOpen)=true:=by
 simp[beginsT,begins,sg,z58]
theorem Ev.brack {l:List Tok}{r:Tr×Nat}(hX:X ws i (sg gOpen::l)) (h:Ev (fun F=>brackI ws (ipz ws F)) (i+1) r):Ev (fun F=>ipz ws F .atom) i r:=by
 obtain⟨F0,h0⟩:=h;refine Ev.step ⟨F0,fun F hF=>?_⟩;have e:=hX.is.1;have e1:(curW ws i).kind=4:=congrArg Prod.fst e;have e2:(curW ws i).text.toList=gOpen:=by rw[show(curW ws i).text=bs gOpen from congrArg Prod.snd e,z58]
 show atomI ws (ipz ws F) i=_;unfold atomI;rw[if_pos (by rw[hX.starts];exact begins_open)];unfold wordI;rw[e1,e2];(iterate 7 rw[if_neg yh]);exact h0 F hF
theorem bracket (h:RL ws 0 T x) (hn:∀i rest,X ws i (T++rest)->hd (T++rest) gShut=false):RL ws 6 (sg gOpen::(T++ [sg gShut])) x:=fun i rest hX _=>by
 simp only[List.cons_append,List.append_assoc,List.nil_append]at hX;refine Ev.brack hX ?_;have hX1:=hX.is.2;show Ev (fun F=>orI ws gShut (pureI (mkT (nd0 3) [])) (bindI (ipz ws F .expr) fun a=>orI ws gComma (bindI (ipz ws F .expr) fun b=>bindI (takeI ws gShut) fun _=>pureI (mkT (nd0 16) [a,b])) (bindI (takeI ws gShut) fun _=>pureI a))) (i+1) _;have hX2:=hX1.app
 refine Ev.unseen hX1 (hn _ _ hX1) (Ev.bind (h _ _ hX1 (stop_key 4 (Or.inr rfl) yh rest)) (Ev.unseen hX2 (by rw[show sg gShut::rest=(4,bs gShut)::rest from rfl,hd_is];decide) (Ev.take hX2 (by show((bs gShut).toList==gShut)=true;rw[z58];decide) (Ev.const ?_))));show Except.ok _=Except.ok _;congr 2
 simp only[List.length_cons,List.length_append,List.length_nil];omega
theorem full_of {ws:List Wd}{F:Nat}(hw:WordsOk ws) (lv:Nat) (hlv:lvK t.n.kind=(lv:Int)) (h6l:lv<=6) (hr:∀L,L<=lv->RL ws L (tkB F t) t.tr) (h3:3<=lv->AL ws 3 .sumL (tkB F t) t.tr) (h4:4<=lv->AL ws 4 .prodL (tkB F t) t.tr) (h5:5<=lv->AL ws 5 .callL (tkB F t) t.tr) (hb:1<=lv->h1 (tkB F t)) (hb6:lv=6->h6 (tkB F t)) (hn:∀i rest,X ws i (tkB F t++rest)->hd (tkB F t++rest) gShut=false):Full ws F t:=by
 have hB:=bracket (hr 0 (Li _)) hn;have hBb:h6 (sg gOpen::(tkB F t++ [sg gShut])):=begins_open;obtain⟨c1,c2,c3,c4⟩:=chain6 hw hBb hB;have e:∀L:Nat,L<=lv->tkS F t L=tkB F t:=fun L h=>by unfold tkS tkBr;rw[hlv,if_neg yf]
 have e':∀L:Nat,¬ L<=lv->tkS F t L=sg gOpen::(tkB F t++ [sg gShut]):=fun L h=>by unfold tkS tkBr;rw[hlv,if_pos yf]
 refine⟨fun L hL=>?_,?_,?_,?_,fun L h1L hL=>?_,?_,fun L hL i rest hX=>?_⟩
 .by_cases h:L<=lv
  .rw[e L h];exact hr L h
  .rw[e' L h];exact c1 L hL
 .by_cases h:3<=lv
  .rw[e 3 h];exact h3 h
  .rw[e' 3 h];exact c2
 .by_cases h:4<=lv
  .rw[e 4 h];exact h4 h
  .rw[e' 4 h];exact c3
 .by_cases h:5<=lv
  .rw[e 5 h];exact h5 h
  .rw[e' 5 h];exact c4
 .by_cases h:L<=lv
  .rw[e L h];exact hb yf
  .rw[e' L h];exact Or.inl hBb
 .by_cases h:6<=lv
  .rw[e 6 h];exact hb6 yf
  .rw[e' 6 h];exact hBb
 .by_cases h:L<=lv
  .rw[e L h]at hX |-;exact hn i rest hX
  .rw[e' L h,List.cons_append,show sg gOpen=((4:Int),bs gOpen) from rfl,hd_is];decide
end
end
end Go.Proofs.YtfbojelpdccjaaaGreatDoor
