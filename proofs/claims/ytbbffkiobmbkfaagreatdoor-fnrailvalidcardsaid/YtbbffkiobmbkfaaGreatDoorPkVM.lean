/- Rows of tactics that are asked for by name. -/
import Derived.WalkKit
import Derived.ProofKit
import Derived.Deep.Cut
namespace Go.Proofs.YtbbffkiobmbkfaaGreatDoor
open Go.RowKit
variable {n:Nat}
section
open Go.RowKit
theorem La:n<=n:=Nat.le_refl n
theorem Lb {w:World}:Below n w w:=Below.refl n w
theorem Lc {a b:Prop}(x:a) (y:b):a/\b:=⟨x,y⟩
theorem Ld (w:World) (o:Obj):(w.alloc o).heap[w.heap.size]?=some o/\ ∀r',r'<w.heap.size->(w.alloc o).heap[r']?=w.heap[r']? :=MapKept.heap_alloc w o
theorem Le {m k:Nat}(a:n<m) (b:m<=k):n<k:=Nat.lt_of_lt_of_le a b
theorem Lf {m k:Nat}(a:n<=m) (b:m<=k):n<=k:=Nat.le_trans a b
theorem Lg (w:World) (a:Addr) (u:Value) (k:Nat) (h:k≠a.block):(w.setCell a u).heap[k]?=w.heap[k]? :=Below.heap_setCell w a u k h
theorem Lh {α:Type}{l:List α}{i:Nat}{a:α}(h:l[i]?=some a):a∈l:=List.mem_of_getElem? h
theorem Li (n:Nat):0<=n:=Nat.zero_le n
theorem Lj {w w':World}{a:Addr}(h:w'.heap[a.block]?=w.heap[a.block]?):w'.cell? a=w.cell? a:=World.cell?_of_block h
theorem Lk {α:Type}{a b:List α}:(a++b).length=a.length+b.length:=List.length_append
theorem Ll {α:Type}{a:α}{l:List α}:(a::l).length=l.length+1:=List.length_cons
theorem Lm {α:Type}:([]:List α).length=0:=List.length_nil
theorem Ln {α:Type}{a:α}{l m:List α}:a::l++m=a::(l++m):=List.cons_append
theorem Lo {α:Type}(a b c:List α):a++b++c=a++(b++c):=List.append_assoc a b c
theorem Lp (n:Nat):(n:Int).toNat=n:=Int.toNat_natCast n
theorem Lq (a b:Bool):((a && b)=true)=(a=true/\b=true):=Bool.and_eq_true a b
theorem Lr {α:Type}{l:List α}{i:Nat}(h:i<l.length):l[i]?=some l[i]:=List.getElem?_eq_getElem h
theorem Ls {α:Type}{a b:α}:a∈ [b]↔a=b:=List.mem_singleton
theorem Lu {α:Type}{l:List α}(h:l.length=0):l= []:=List.eq_nil_of_length_eq_zero h
end
section
def O (p:Prop):Prop:=p
theorem O.o {p:Prop}(h:O p):p:=h
theorem U {p:Prop}(h:p):O p:=h
variable {p:Prop}
theorem yq (h:p:=by simp):p:=h
theorem ya (h:p:=by omega):p:=h
theorem yk (h:p:=by decide):p:=h
theorem ycb (h:p:=by cases h):p:=h
theorem qe (h:p:=by rw[h0]):p:=h
theorem yci (h:p:=by cases e):p:=h
theorem vy (h:p:=by simp at h):p:=h
theorem wb (h:p:=by rw[HE.o]):p:=h
theorem ycd (h:p:=by simp[hz]):p:=h
theorem ye (h:p:=by kernel_rfl):p:=h
theorem zy (h:p:=by assumption):p:=h
theorem gj (h:p:=by simp at hk):p:=h
theorem jd (h:p:=by simp;omega):p:=h
theorem zw (h:p:=by rw[e];rfl):p:=h
theorem jp (h:p:=by rw[h1];rfl):p:=h
theorem yf (h:p:=by simp[go_sem]):p:=h
theorem gd (h:p:=by simp[needsZ]):p:=h
theorem zx (h:p:=by simpa using h):p:=h
theorem mz (h:p:=by simp[exitsZ]):p:=h
theorem mg (h:p:=by simp[fgZ,h]):p:=h
theorem jw (h:p:=by simp[Cs.put]):p:=h
theorem jj (h:p:=by rw[HF.o];rfl):p:=h
theorem ji (h:p:=by rw[HO.o];rfl):p:=h
theorem yy (h:p:=by simpa using hr):p:=h
theorem yx (h:p:=by simpa using ho):p:=h
theorem zr (h:p:=by rw[HB.o];rfl):p:=h
theorem wv (h:p:=by rw[hei];simp):p:=h
theorem wy (h:p:=by rw[hO.o];rfl):p:=h
theorem ja (h:p:=by rw[hno.o];rfl):p:=h
theorem yt (h:p:=by simp[knownZ,e]):p:=h
theorem qw (h:p:=by dsimp only;omega):p:=h
theorem yp (h:p:=by show _<=_;omega):p:=h
theorem ut (h:p:=by simp[go_sem,hw]):p:=h
theorem zq (h:p:=by rw[hnd];exact h):p:=h
theorem js (h:p:=by rw[<-HT2.o];rfl):p:=h
theorem vh (h:p:=by show _/\_;omega):p:=h
theorem wq (h:p:=by simp at hk;omega):p:=h
theorem vn (h:p:=by rw[hnn];exact h):p:=h
theorem jg (h:p:=by rw[Hkc.o];omega):p:=h
theorem ws (h:p:=by rw[<-HR8.o];rfl):p:=h
theorem gg (h:p:=by rw[h.len];omega):p:=h
theorem qf (h:p:=by dsimp only;decide):p:=h
theorem yh (h:p:=by simp[go_sem,h.1]):p:=h
theorem jv (h:p:=by simp[Fo.flat,hm]):p:=h
theorem jt (h:p:=by rw[Hlen.o];omega):p:=h
theorem zf (h:p:=by rw[wrap64];omega):p:=h
theorem ju (h:p:=by simp[kidsAt]at h):p:=h
theorem nx (h:p:=by simp[go_sem,hwr]):p:=h
theorem uz (h:p:=by simp[go_sem,h.2]):p:=h
theorem ycx (h:p:=by first|rfl|simp):p:=h
theorem yba (h:p:=by simp[go_sem,hmk]):p:=h
theorem ww (h:p:=by rw[k22,k26];rfl):p:=h
theorem nw (h:p:=by have:=HD.o;omega):p:=h
theorem uw (h:p:=by have:=HB.o;omega):p:=h
theorem zi (h:p:=by have:=HC.o;omega):p:=h
theorem jf (h:p:=by have:=HP.o;omega):p:=h
theorem jc (h:p:=by have:=HL.o;omega):p:=h
theorem xj (h:p:=by simp[go_sem,hw.2]):p:=h
theorem yc (h:p:=by simp[go_sem,hw.1]):p:=h
theorem zu (h:p:=by simp[intOf];omega):p:=h
theorem yay (h:p:=by have:=hk.1;omega):p:=h
theorem ybf (h:p:=by have:=h.lo;omega):p:=h
theorem yce (h:p:=by have:=HS.o;omega):p:=h
theorem ycf (h:p:=by have:=HN.o;omega):p:=h
theorem mh (h:p:=by unfold Tp.dp;omega):p:=h
theorem ycq (h:p:=by simp[go_sem,put4]):p:=h
theorem gh (h:p:=by rw[z11 h.blk];rfl):p:=h
theorem yax (h:p:=by rw[hs];exact h4.1):p:=h
theorem zp (h:p:=by rw[hs];exact hq.1):p:=h
theorem jo (h:p:=by have:=HM.o;omega):p:=h
theorem qo (h:p:=by simp[World.setCell]):p:=h
theorem mu (h:p:=by simp[needsZ];omega):p:=h
theorem zz (h:p:=by unfold maxLen;omega):p:=h
theorem xh (h:p:=by simp[go_sem,h.2.1]):p:=h
theorem kf (h:p:=by have:=HLn.o;omega):p:=h
theorem qs (h:p:=by unfold wrap64;omega):p:=h
theorem un (h:p:=by simp[Fo.count]at h):p:=h
theorem ki (h:p:=by have:=HKl.o;omega):p:=h
theorem wd (h:p:=by have:=HKc.o;omega):p:=h
theorem mq (h:p:=by rw[<-hkl];exact hj):p:=h
theorem kj (h:p:=by have:=HSz.o;omega):p:=h
theorem yck (h:p:=by have:=HBk.o;omega):p:=h
theorem uc (h:p:=by unfold Brief;decide):p:=h
theorem yn (h:p:=by simp[go_sem,fourV]):p:=h
theorem yct (h:p:=by have:=HNe.o;omega):p:=h
theorem ud (h:p:=by have:=HL.o.1;omega):p:=h
theorem gz (h:p:=by have:=N3.o.2;omega):p:=h
theorem ybp (h:p:=by have:=HT.o.2;omega):p:=h
theorem yd (h:p:=by simp[go_sem,hw.2.1]):p:=h
theorem gv (h:p:=by first|rfl|trivial):p:=h
theorem ur (h:p:=by simp[go_sem,hw.2.2]):p:=h
theorem qq (h:p:=by rw[hs];exact h.size):p:=h
theorem yo (h:p:=by simp[go_sem,d1,w1]):p:=h
theorem qv (h:p:=by have:=hp _ e;omega):p:=h
theorem nc (h:p:=by have:=N4.o.2;omega):p:=h
theorem ng (h:p:=by have:=N2.o.2;omega):p:=h
theorem ny (h:p:=by have:=HL.o.2;omega):p:=h
theorem yaj (h:p:=by rw[Nat.div_one];rfl):p:=h
theorem nt (h:p:=by have:=h.room;omega):p:=h
theorem yar (h:p:=by have:=HOs.o.2;omega):p:=h
theorem gf (h:p:=by simp[exitsZ,Sq.more]):p:=h
theorem ue (h:p:=by rw[hs];exact hg.size):p:=h
theorem yw (h:p:=by first|decide|omega):p:=h
theorem yv (h:p:=by have:=H0.o.2.1;omega):p:=h
theorem gy (h:p:=by unfold Fit at hf;omega):p:=h
theorem yaa (h:p:=by simp[go_sem,hk0,hk1]):p:=h
theorem jh (h:p:=by have:=hnx.size;omega):p:=h
theorem yab (h:p:=by simp[go_sem,hm3,hM3]):p:=h
theorem vr (h:p:=by have:=hbx.size;omega):p:=h
theorem yad (h:p:=by simp[go_sem,hm2,hM2]):p:=h
theorem ybz (h:p:=by simp[go_sem,hm1,hM1]):p:=h
theorem ycp (h:p:=by rw[p3];exact hB2.size):p:=h
theorem zo (h:p:=by have:=E1.o.2.2;omega):p:=h
theorem wl (h:p:=by rw[<-HKc.o];exact hjk):p:=h
theorem yl (h:p:=by simp[go_sem,hf0,hf1]):p:=h
theorem ybb (h:p:=by simp[go_sem,cb1,fb0]):p:=h
theorem zh (h:p:=by have:=hL1.size;omega):p:=h
theorem yg (h:p:=by simp[go_sem];exact rfl):p:=h
theorem nu (h:p:=by have:=HE.o.room;omega):p:=h
theorem xi (h:p:=by unfold knownZ;simp[ek]):p:=h
theorem ybg (h:p:=by rw[hs];exact h.gr.size):p:=h
theorem jr (h:p:=by rw[h]at hil;cases hil):p:=h
theorem jk (h:p:=by simp at hx;subst hx;rfl):p:=h
theorem ycc (h:p:=by rw[HF.o (by omega)];rfl):p:=h
theorem yda (h:p:=by have:=HB1.o.size;omega):p:=h
theorem yas (h:p:=by have:=HB.o;simp;omega):p:=h
theorem uo (h:p:=by simpa[Fo.count]using hi):p:=h
theorem ycr (h:p:=by simp[go_sem,put4,put3]):p:=h
theorem yz (h:p:=by rw[S6.2];exact z13 hcur):p:=h
theorem ybk (h:p:=by have:=HA.o;simp;omega):p:=h
theorem kr (h:p:=by have:=HI.o.2.2.1;omega):p:=h
theorem ycl (h:p:=by simp[put4,World.setCell]):p:=h
theorem ycm (h:p:=by simp[put3,World.setCell]):p:=h
theorem mx (h:p:=by simp[exitsZ,Sq.more,hx]):p:=h
theorem km (h:p:=by have:=HSz.o;simp;omega):p:=h
theorem ybw (h:p:=by have:=HE.o.2;simp;omega):p:=h
theorem ym (h:p:=by rw[IntKind.wrap_i64];omega):p:=h
theorem je (h:p:=by rw[hp1,Lk]):p:=h
theorem ybh (h:p:=by rw[hG];have:=h.lo;omega):p:=h
theorem yaw (h:p:=by rw[List.length_take];omega):p:=h
theorem qr (h:p:=by rw[hs];exact La):p:=h
theorem yap (h:p:=by show _=_;simp[flatL,kdL]):p:=h
theorem jq (h:p:=by show _=_;rw[hO,hab];rfl):p:=h
theorem mw (h:p:=by simp[exitsZ,Sq.more];omega):p:=h
theorem zg (h:p:=by rw[H0.o.2.2];exact HB.o.lo.1):p:=h
theorem ybx (h:p:=by simp only[HA.o];simp[go_sem]):p:=h
theorem yal (h:p:=by show _<=_;have:=HC.o;omega):p:=h
theorem ycy (h:p:=by subst h;simp[exitsZ,Sq.more]):p:=h
theorem jn (h:p:=by rw[beq_eq_false_iff_ne];omega):p:=h
theorem qh (h:p:=by rintro (h|⟨h,-⟩)<;>cases h):p:=h
theorem gw (h:p:=by unfold Spent;dsimp only;omega):p:=h
theorem yj (h:p:=by have:=HM.o;rw[wrap64];omega):p:=h
theorem vu (h:p:=by rw[Hlen.o];have:=HL.o;omega):p:=h
theorem kg (h:p:=by have:=HO.o.2.size;simp;omega):p:=h
theorem vw (h:p:=by rcases hw with rfl|rfl<;>rfl):p:=h
theorem zj (h:p:=by have:=HZ.o;have:=HK.o;omega):p:=h
theorem qn (h:p:=by have:=HL.o;simp at this;omega):p:=h
theorem ycz (h:p:=by rcases hs' with h1|h1<;>omega):p:=h
theorem jm (h:p:=by have:=HL.o;unfold maxLen;omega):p:=h
theorem gp (h:p:=by have:=HO.o.2.1.size;simp;omega):p:=h
theorem uh (h:p:=by subst e2;rw[hb']at hc;cases hc):p:=h
theorem ke (h:p:=by have:=HLn.o;unfold maxLen;omega):p:=h
theorem yak (h:p:=by have:=HC.o;have:=HL.o.1;omega):p:=h
theorem ybu (h:p:=by rw[<-HY7.o];simp[go_sem,a5,fz]):p:=h
theorem ycv (h:p:=by unfold maxLen;have:=HEl.o;omega):p:=h
theorem jl (h:p:=by have:=hol.o;unfold maxLen;omega):p:=h
theorem jb (h:p:=by first|(simp;done)|(simp;omega)):p:=h
theorem qi (h:p:=by rintro (⟨h,-⟩|⟨h,-⟩)<;>cases h):p:=h
theorem ui (h:p:=by subst e2;rw[h.blk]at hc;cases hc):p:=h
theorem na (h:p:=by have:=N1.o.2;have:=HL1.o;omega):p:=h
theorem kz (h:p:=by rw[List.length_replicate];exact hk):p:=h
theorem zv (h:p:=by rw[List.length_drop,Hlen.o];omega):p:=h
theorem ybm (h:p:=by rw[H0.o.2.2];exact z13 B7.o.rd.blk):p:=h
theorem nn (h:p:=by have:=K4.o.2;have:=HKl.o;omega):p:=h
theorem ni (h:p:=by have:=K3.o.2;have:=HKl.o;omega):p:=h
theorem ko (h:p:=by have:=HSz.o;simp[Cs.rest];omega):p:=h
theorem yaz (h:p:=by have:=HP.o.2;have:=HPl.o;omega):p:=h
theorem wn (h:p:=by have:=HOut.o;have:=HC2.o;omega):p:=h
theorem yan (h:p:=by have:=HB.o;have:=HOs.o.2;omega):p:=h
theorem yby (h:p:=by have:=H0.o.2.1;have:=HP.o;omega):p:=h
theorem ybi (h:p:=by have:=H0.o.2.1;have:=HQ.o;omega):p:=h
theorem gq (h:p:=by show _<=_;have:=HA.o;simp;omega):p:=h
theorem ybl (h:p:=by show _=_;have:=HA.o;simp;omega):p:=h
theorem nr (h:p:=by have:=N6.o.2;have:=N5.o.2;omega):p:=h
theorem nk (h:p:=by have:=N5.o.2;have:=N4.o.2;omega):p:=h
theorem yi (h:p:=by simp[go_sem,h.2.1,h.2.2.1,h.2.2.2]):p:=h
theorem vv (h:p:=by rw[h1,Ll]at hm;omega):p:=h
theorem jy (h:p:=by rcases e with e|e<;>rw[e]<;>rfl):p:=h
theorem xw (h:p:=by have:=R0.o.cost;have:=HB.o;omega):p:=h
theorem ybt (h:p:=by have:=HNb.o;have:=HSa.o.lo;omega):p:=h
theorem uj (h:p:=by simp only[List.length_set,z78];omega):p:=h
theorem zd (h:p:=by have:=HS7.o.lo;have:=HQ.o.1;omega):p:=h
theorem wg (h:p:=by rcases ek with e|e<;>rw[e]<;>rfl):p:=h
theorem ybe (h:p:=by have:=FZ.o.cost;have:=HPl.o;omega):p:=h
theorem kt (h:p:=by show _<=_;have:=HI.o.2.2.2.1;omega):p:=h
theorem qk (h:p:=by rintro (h|h);exact k6 h;exact k25 h):p:=h
theorem gm (h:p:=by have:=HA.o;have:=HL.o;simp;omega):p:=h
theorem wm (h:p:=by rw[List.length_drop,t.kids_len];omega):p:=h
theorem my (h:p:=by unfold In.ok insOkZ;simp[manyZ];omega):p:=h
theorem mj (h:p:=by rcases e with e|e<;>simp[knownZ,e]):p:=h
theorem qy (h:p:=by have:=HM.o.made;dsimp only at *;omega):p:=h
theorem xq (h:p:=by rw[Lk];exact HB.o.2.2.1):p:=h
theorem yao (h:p:=by have:=HE.o.room;have:=K12.o.2;omega):p:=h
theorem ybv (h:p:=by simp only[HA.o];simp[go_sem];exact rfl):p:=h
theorem ug (h:p:=by rw[hs];exact Lf h.size hg.size):p:=h
theorem yu (h:p:=by simp only[intOf,Lp];omega):p:=h
theorem ybs (h:p:=by rw[List.length_set];have:=HT.o.2;omega):p:=h
theorem qm (h:p:=by rintro (h|⟨h,-⟩);exact k9 h;exact k20 h):p:=h
theorem jz (h:p:=by simp only[stepW,Lk];omega):p:=h
theorem wa (h:p:=by simp[results,results104,go_sem,insV]):p:=h
theorem xl (h:p:=by rw[List.length_reverse];have:=HB.o;omega):p:=h
theorem mr (h:p:=by unfold Tp.kid;rw[<-e];simp[List.getD,hj]):p:=h
theorem gx (h:p:=by have h3:=h.2.2;unfold Spent at h3 |-;omega):p:=h
theorem ybn (h:p:=by have:=BZ.o.lo;show W.heap.size≠bp;omega):p:=h
theorem yca (h:p:=by have:=hok X hX;rw[hP]at this;exact this):p:=h
theorem uv (h:p:=by show _=_;have:=HL.o;unfold wrap64;omega):p:=h
theorem qu (h:p:=by rw[h]at hr;exact(List.not_mem_nil hr).elim):p:=h
theorem uk (h:p:=by subst e2;rw[hc]at hq;cases hq;exact h1 rfl):p:=h
theorem yaq (h:p:=by show _<=_;have:=HB.o;have:=HOs.o.2;omega):p:=h
theorem ql (h:p:=by rintro (⟨h,-⟩|⟨h,-⟩);exact k8 h;exact k9 h):p:=h
theorem nv (h:p:=by show _=_;have:=HL.o.2;unfold wrap64;omega):p:=h
theorem ydb (h:p:=by have:=HNn.o;rw[hcs]at this;exact this.symm):p:=h
theorem xz (h:p:=by rw[Lk];exact HB.o.2.2.2.2.2.2.2):p:=h
theorem uf (h:p:=by subst e2;rw[h.blk]at hq;cases hq;exact h3 rfl):p:=h
theorem ycu (h:p:=by simp[go_sem];exact(IntWalk.i64_left _).trans w3):p:=h
theorem ycs (h:p:=by simp[go_sem];exact(IntWalk.i64_left _).trans w2):p:=h
theorem ycw (h:p:=by simp[go_sem];exact(IntWalk.i64_left _).trans w1):p:=h
theorem yav (h:p:=by show _=_;unfold Fit at hf;unfold wrap64;omega):p:=h
theorem uq (h:p:=by subst e;have:=h.blk;rw[hc]at this;cases this):p:=h
theorem qj (h:p:=by rintro (h|⟨-,h⟩);cases h;exact i2 ((h2 i).2 h)):p:=h
theorem ybj (h:p:=by have:=H0.o.2.1;have:=HQ.o;have:=HQ2.o;omega):p:=h
theorem qx (h:p:=by unfold lostZ;rw[if_neg (by rintro⟨h,-⟩;cases h)]):p:=h
theorem ycj (h:p:=by rw[Lk,List.length_singleton];omega):p:=h
theorem ml (h:p:=by have:=Tp.kid_dp (t:=t) (i:=0) (by omega);omega):p:=h
theorem yag (h:p:=by have:=N4.o.2;have:=N2.o.2;have:=N3.o.2;omega):p:=h
theorem yam (h:p:=by have:=N3.o.2;have:=N6.o.2;have:=N5.o.2;omega):p:=h
theorem yat (h:p:=by have:=AZ.o.bound HF.o (by omega) (by decide);omega):p:=h
theorem ze (h:p:=by rw[H0.o.2.2];have:=HS7.o.lo;have:=HQ.o.1;omega):p:=h
theorem ybd (h:p:=by have h:=prog_true hpz;have:=HR.o;rwa[h]at this):p:=h
theorem uu (h:p:=by have e':p4=Mb:=e;rw[e',hb3]at h43;cases h43):p:=h
theorem vg (h:p:=by rintro (h|h|h);exact k6 h;exact k8 h;exact k25 h):p:=h
theorem ybc (h:p:=by have:=congrArg Addr.block h;dsimp only at this;omega):p:=h
theorem qg (h:p:=by rintro (⟨-,h⟩|⟨h,-⟩);exact i1 ((h1 i).2 h);cases h):p:=h
theorem ycg (h:p:=by simp at hu;rcases hu with rfl|rfl|rfl|rfl<;>rfl):p:=h
theorem ybo (h:p:=by have:=H0.o.2.1;have:=HQ.o;(try have:=HQ2.o);omega):p:=h
theorem ul (h:p:=by unfold quad;simp[go_sem,f0,f1,f2,f3,k0,k1,k2,k3]):p:=h
theorem yau (h:p:=by have:=HE.o.room;have:=K12.o.2;have:=K13.o.2;omega):p:=h
theorem zm (h:p:=by have r:=R0.o.cost;have hb:=HB.o;have hz:=HZ.o;omega):p:=h
theorem xb (h:p:=by have r:=R1.o.cost;have hb:=HB.o;have hz:=HZ.o;omega):p:=h
theorem xc (h:p:=by have r:=R3.o.cost;have hb:=HB.o;have hz:=HZ.o;omega):p:=h
theorem xd (h:p:=by have r:=R2.o.cost;have hb:=HB.o;have hz:=HZ.o;omega):p:=h
theorem xg (h:p:=by have r:=R6.o.cost;have hb:=HB.o;have hz:=HZ.o;omega):p:=h
theorem xf (h:p:=by have r:=R5.o.cost;have hb:=HB.o;have hz:=HZ.o;omega):p:=h
theorem xe (h:p:=by have r:=R4.o.cost;have hb:=HB.o;have hz:=HZ.o;omega):p:=h
theorem wt (h:p:=by rw[decide_eq_false (show ¬ (1<=ar/\ar<=4) by omega)];rfl):p:=h
theorem ycn (h:p:=by simp[go_sem,h.2.2.1,h.2.2.2.1,h.2.2.2.2.1,h.2.2.2.2.2.1]):p:=h
theorem ybr (h:p:=by rw[e]at hcur;have:=hcur.symm.trans HS7.o.res;simp at this):p:=h
theorem ybq (h:p:=by rw[e]at hcur;have:=hcur.symm.trans HS7.o.box;simp at this):p:=h
theorem xu (h:p:=by rw[Ll,List.length_reverse];have:=HB.o;omega):p:=h
theorem mt (h:p:=by have:=sum_mem t.kids (t.kid 0) (Tp.kid_mem (by omega));omega):p:=h
theorem xm (h:p:=by have:=HB.o;have:=later_le s;show s.later.length<=_;omega):p:=h
theorem we (h:p:=by have:=HN.o.1;have:=HZ.o;have:=HK.o;rw[HG.o]at *;omega):p:=h
theorem gi (h:p:=by unfold Brief;rw[ByteArray.size_append,HY.o];have:=HX.o;omega):p:=h
theorem yco (h:p:=by simp[go_sem,h.2.2.2.2.2.2.1,h.2.2.2.2.2.2.2.1,h.2.2.2.2.2.2.2.2]):p:=h
theorem zn (h:p:=by have:=A5.o.bound HF.o (by omega) (by decide);have:=N5.o.2;omega):p:=h
theorem nj (h:p:=by have:=A4.o.bound HF.o (by omega) (by decide);have:=N4.o.2;omega):p:=h
theorem jx (h:p:=by simp only[Lk,Ll,Lm];omega):p:=h
theorem yac (h:p:=by have:=N10.o.2;have:=N4.o.2;have:=N6.o.2;simp[flatL]at *;omega):p:=h
theorem yah (h:p:=by have:=N11.o.2;have:=N5.o.2;have:=N7.o.2;simp[flatL]at *;omega):p:=h
theorem kh (h:p:=by have hq:=HAl.o;rw[Lk];simp[Bool.toNat]at hq |-;omega):p:=h
theorem wu (h:p:=by rw[decide_eq_false (show ¬ (1<=rs/\rs<=4) by omega),Bool.and_false];rfl):p:=h
theorem ux (h:p:=by have:=HK.o;have:=HZ.o;simp only[Ll,Lm];omega):p:=h
theorem yaf (h:p:=by have:=A3.o.bound HF.o (by omega) (by decide);have:=N2.o.2;have:=N3.o.2;omega):p:=h
theorem ku (h:p:=by unfold knownZ;(iterate 4 rw[if_neg (by omega)])):p:=h
theorem wz (h:p:=by show _<=_;have:=HA.o.2.2;have:=HL.o;have:pt.toNat<=1:=(by cases pt<;>decide);omega):p:=h
theorem kw (h:p:=by have h5:=H0.o.2.2.2.2;have h6:(s.lead l.fr l.wh).rest=s.rest:=rfl;rw[z67,h6];exact h5):p:=h
theorem yr (h:p:=by have:=A8.o.bound HF.o (by omega) (by decide);have:=N4.o.2;have:=N6.o.2;simp[flatL];omega):p:=h
theorem yai (h:p:=by have:=A7.o.bound HF.o (by omega) (by decide);have:=N4.o.2;have:=N5.o.2;simp[flatL];omega):p:=h
theorem yae (h:p:=by have:=A6.o.bound HF.o (by omega) (by decide);have:=N3.o.2;have:=N4.o.2;simp[flatL];omega):p:=h
theorem uy (h:p:=by have:=HK.o;have:=HZ.o;simp only[Lk,Ll,Lm];omega):p:=h
theorem zl (h:p:=by have:=HK.o;have:=HZ.o;(try simp only[Lk,Ll,Lm]);omega):p:=h
theorem ych (h:p:=by rw[Lg _ _ _ _ (by dsimp only;omega),Lg _ _ _ _ (by dsimp only;omega)];exact HD2.o):p:=h
theorem ky (h:p:=by have h1:=HR.o.cost;have h5:=H0.o.2.2.2.2;have h6:(s.lead l.fr l.wh).rest=s.rest:=rfl;rw[z67,h6]at h1;omega):p:=h
end
section
/-- A premise that nothing else is taken for. -/
structure Kz (q:Prop):Prop where
 o:q
variable {p q:Prop}
theorem zb0 (k:q) (h:Kz q->p:=by
 intro zk;have hV1:=(Ld W (.cells #[int i64 (k:Int),int i64 n,int i64 v,int i64 p] 155)).1;have hVb:=(Below.refl W.heap.size W).alloc La (.cells #[int i64 (k:Int),int i64 n,int i64 v,int i64 p] 155);obtain⟨V,hV⟩:∃V,W.alloc (.cells #[int i64 (k:Int),int i64 n,int i64 v,int i64 p] 155)=V:=⟨_,rfl⟩
 rw[hV]at hV1 hVb;have h1:=h.below hVb;have hEl:=z13 hV1;have hFl:=z13 h1.blk;obtain⟨Eb,hEb⟩:∃Eb,W.heap.size=Eb:=⟨_,rfl⟩
 rw[hEb]at hV1 hEl;have e0:=z11 hV1 0;have f0:=z11 h1.blk 0;simp at e0 f0;have pe0:∀y:Later V.heap.size V,y.w.cell? ⟨Eb,0,none⟩=_:=fun y=>y.cell hEl e0
 have pf0:∀y:Later V.heap.size V,y.w.cell? ⟨Fb,0,none⟩=_:=fun y=>y.cell hFl f0
 have HV:=U hV;have HEb:=U hEb;have HV1:=U hV1;have H1:=U h1;have HW:=U hVb;have q1:decide ((N:Int)<=(k:Int))=false:=decide_eq_false ya;have q1n:decide (N<=k)=false:=decide_eq_false ya;have q2:¬ 100<n:=ya;have q3:¬ 100<v:=ya;have k0:(0:Int)<=(k:Int):=ya;have k1:(k:Int)<(N:Int):=ya;have HKn:=U hk;have HT:=U ht;revert hV1 hVb V hV h1 hEl hFl Eb hEb e0 f0 pe0 pf0 HV HEb HV1 H1 HW q1 q1n q2 q3 k0 k1 HKn HT;exact zk.o):p:=h ⟨k⟩
theorem zb1 (k:q) (h:Kz q->p:=by
 intro zk;refine pick_o 0 (.pointer (some ⟨d.G,0,none⟩)) ⟨A7.o.1.c1,((G7.o.cell (p:=⟨go,i2,none⟩) ⟨HQ.o.2.2.1,HQ.o.2.2.2.1,HQ.o.2.2.2.2⟩).trans cj),((G7.o.cell (p:=⟨be,oe+j*3,none⟩) HQ.o.1).trans c0),((G7.o.cell (p:=⟨be,oe+j*3+1,none⟩) HQ.o.1).trans c1),((G7.o.cell (p:=⟨be,oe+j*3+2,none⟩) HQ.o.1).trans c2')⟩ ?_
 refine pick_o 1 (.pointer (some ⟨d.G,0,none⟩)) ⟨A7.o.1.c1,((G7.o.cell (p:=⟨go,i2,none⟩) ⟨HQ.o.2.2.1,HQ.o.2.2.2.1,HQ.o.2.2.2.2⟩).trans cj),((G7.o.cell (p:=⟨be,oe+j*3,none⟩) HQ.o.1).trans c0),((G7.o.cell (p:=⟨be,oe+j*3+1,none⟩) HQ.o.1).trans c1),((G7.o.cell (p:=⟨be,oe+j*3+2,none⟩) HQ.o.1).trans c2')⟩ ?_
 refine pick_o 2 (.pointer (some ⟨d.G,1,none⟩)) ⟨A7.o.1.c1,((G7.o.cell (p:=⟨go,i2,none⟩) ⟨HQ.o.2.2.1,HQ.o.2.2.2.1,HQ.o.2.2.2.2⟩).trans cj),((G7.o.cell (p:=⟨be,oe+j*3,none⟩) HQ.o.1).trans c0),((G7.o.cell (p:=⟨be,oe+j*3+1,none⟩) HQ.o.1).trans c1),((G7.o.cell (p:=⟨be,oe+j*3+2,none⟩) HQ.o.1).trans c2')⟩ ?_
 refine pick_o (hy:=fun w' hw=>yc) 3 (.slice (some ⟨be,oe,none⟩) es.length cpe) ⟨A7.o.1.c1,((G7.o.cell (p:=⟨go,i2,none⟩) ⟨HQ.o.2.2.1,HQ.o.2.2.2.1,HQ.o.2.2.2.2⟩).trans cj),((G7.o.cell (p:=⟨be,oe+j*3,none⟩) HQ.o.1).trans c0),((G7.o.cell (p:=⟨be,oe+j*3+1,none⟩) HQ.o.1).trans c1),((G7.o.cell (p:=⟨be,oe+j*3+2,none⟩) HQ.o.1).trans c2')⟩ ?_
 refine pick_o 4 ((.slice (some ⟨go,0,none⟩) os'.length cpo)) ⟨A7.o.1.c1,((G7.o.cell (p:=⟨go,i2,none⟩) ⟨HQ.o.2.2.1,HQ.o.2.2.2.1,HQ.o.2.2.2.2⟩).trans cj),((G7.o.cell (p:=⟨be,oe+j*3,none⟩) HQ.o.1).trans c0),((G7.o.cell (p:=⟨be,oe+j*3+1,none⟩) HQ.o.1).trans c1),((G7.o.cell (p:=⟨be,oe+j*3+2,none⟩) HQ.o.1).trans c2')⟩ ?_
 refine pick_o 5 (int i64 (i2:Int)) ⟨A7.o.1.c1,((G7.o.cell (p:=⟨go,i2,none⟩) ⟨HQ.o.2.2.1,HQ.o.2.2.2.1,HQ.o.2.2.2.2⟩).trans cj),((G7.o.cell (p:=⟨be,oe+j*3,none⟩) HQ.o.1).trans c0),((G7.o.cell (p:=⟨be,oe+j*3+1,none⟩) HQ.o.1).trans c1),((G7.o.cell (p:=⟨be,oe+j*3+2,none⟩) HQ.o.1).trans c2')⟩ ?_
 refine pick_o (hy:=fun w' hw=>by simp[go_sem,hi20,hj]) 6 (.pointer (some ⟨go,i2,none⟩)) ⟨A7.o.1.c1,((G7.o.cell (p:=⟨go,i2,none⟩) ⟨HQ.o.2.2.1,HQ.o.2.2.2.1,HQ.o.2.2.2.2⟩).trans cj),((G7.o.cell (p:=⟨be,oe+j*3,none⟩) HQ.o.1).trans c0),((G7.o.cell (p:=⟨be,oe+j*3+1,none⟩) HQ.o.1).trans c1),((G7.o.cell (p:=⟨be,oe+j*3+2,none⟩) HQ.o.1).trans c2')⟩ ?_
 refine pick_o (hy:=fun w' hw=>yd) 7 (int i64 (j:Int)) ⟨A7.o.1.c1,((G7.o.cell (p:=⟨go,i2,none⟩) ⟨HQ.o.2.2.1,HQ.o.2.2.2.1,HQ.o.2.2.2.2⟩).trans cj),((G7.o.cell (p:=⟨be,oe+j*3,none⟩) HQ.o.1).trans c0),((G7.o.cell (p:=⟨be,oe+j*3+1,none⟩) HQ.o.1).trans c1),((G7.o.cell (p:=⟨be,oe+j*3+2,none⟩) HQ.o.1).trans c2')⟩ ?_
 refine pick_o (hy:=fun w' hw=>by simp[go_sem,hj0,hj1]) 8 (.pointer (some ⟨be,oe+j*3,none⟩)) ⟨A7.o.1.c1,((G7.o.cell (p:=⟨go,i2,none⟩) ⟨HQ.o.2.2.1,HQ.o.2.2.2.1,HQ.o.2.2.2.2⟩).trans cj),((G7.o.cell (p:=⟨be,oe+j*3,none⟩) HQ.o.1).trans c0),((G7.o.cell (p:=⟨be,oe+j*3+1,none⟩) HQ.o.1).trans c1),((G7.o.cell (p:=⟨be,oe+j*3+2,none⟩) HQ.o.1).trans c2')⟩ ?_
 refine pick_o (hy:=fun w' hw=>by simp[go_sem,hw.2.2.1,hw.2.2.2.1,hw.2.2.2.2]) 9 (.agg #[.string xn,int i64 xa,int i64 xr]) ⟨A7.o.1.c1,((G7.o.cell (p:=⟨go,i2,none⟩) ⟨HQ.o.2.2.1,HQ.o.2.2.2.1,HQ.o.2.2.2.2⟩).trans cj),((G7.o.cell (p:=⟨be,oe+j*3,none⟩) HQ.o.1).trans c0),((G7.o.cell (p:=⟨be,oe+j*3+1,none⟩) HQ.o.1).trans c1),((G7.o.cell (p:=⟨be,oe+j*3+2,none⟩) HQ.o.1).trans c2')⟩ ?_;have A8:=U (A7.o.alloc (.cells #[.string ⟨#[]⟩,int i64 0,int i64 0] 64));have G8:=U ((Grew.refl d X7).alloc (.cells #[.string ⟨#[]⟩,int i64 0,int i64 0] 64))
 refine z27 (i:=10) (v:=.pointer (some ⟨X7.heap.size,0,none⟩)) (w1:=X7.alloc (.cells #[.string ⟨#[]⟩,int i64 0,int i64 0] 64)) rfl ye rfl rfl yf ⟨A8.o.1.c1,(((G7.o.trans G8.o).cell (p:=⟨go,i2,none⟩) ⟨HQ.o.2.2.1,HQ.o.2.2.2.1,HQ.o.2.2.2.2⟩).trans cj),(((G7.o.trans G8.o).cell (p:=⟨be,oe+j*3,none⟩) HQ.o.1).trans c0),(((G7.o.trans G8.o).cell (p:=⟨be,oe+j*3+1,none⟩) HQ.o.1).trans c1),(((G7.o.trans G8.o).cell (p:=⟨be,oe+j*3+2,none⟩) HQ.o.1).trans c2')⟩ yg ?_;have EB:=U (boxW_heap X7 xn xa xr);have A9:=U (A7.o.below (boxW_below X7 xn xa xr))
 have G9:O (Grew d X7 (boxW X7 xn xa xr)):=Grew.of_below (boxW_below X7 xn xa xr);have HQ2:=U (Lc A7.o.1.ltB A7.o.1.ltG);refine z38 (i:=11) (w1:=boxW X7 xn xa xr) rfl rfl ye rfl rfl (by simp[go_sem,boxW]) ⟨A9.o.1.c1,(((G7.o.trans G9.o).cell (p:=⟨go,i2,none⟩) ⟨HQ.o.2.2.1,HQ.o.2.2.2.1,HQ.o.2.2.2.2⟩).trans cj),(((G7.o.trans G9.o).cell (p:=⟨be,oe+j*3,none⟩) HQ.o.1).trans c0),(((G7.o.trans G9.o).cell (p:=⟨be,oe+j*3+1,none⟩) HQ.o.1).trans c1),(((G7.o.trans G9.o).cell (p:=⟨be,oe+j*3+2,none⟩) HQ.o.1).trans c2')⟩ ?_;refine z37 ye ?_;obtain⟨bq,hbq⟩:∃q,X7.heap.size=q:=⟨_,rfl⟩
 revert A8 G8 EB A9 G9 HQ2 bq hbq;exact zk.o):p:=h ⟨k⟩
theorem zb2 (k:q) (h:Kz q->p:=by
 intro zk;have hbx:=(Ld W (.cells #[int i64 op,int i64 a,int i64 b,int i64 c] 53)).1;have hb0:Below W.heap.size W (W.alloc (.cells #[int i64 op,int i64 a,int i64 b,int i64 c] 53)):=Lb.alloc La _;obtain⟨Y,hY⟩:∃Y,W.alloc (.cells #[int i64 op,int i64 a,int i64 b,int i64 c] 53)=Y:=⟨_,rfl⟩
 have HY:=U hY;rw[hY]at hbx hb0;have St0:=U (h.below hb0);have HB0:=U hb0;have HBx:=U hbx;have HL:=U hl;have hsz:W.heap.size+1=Y.heap.size:=by rw[<-hY];simp
 have d1:=z11 St0.o.blk 1;simp at d1;have hPl:Mb<Y.heap.size:=z13 St0.o.blk;have hxl:W.heap.size<Y.heap.size:=ya;have e0:=z11 HBx.o 0;have e1:=z11 HBx.o 1;have e2:=z11 HBx.o 2;have e3:=z11 HBx.o 3;simp at e0 e1 e2 e3;clear hY hb0 hbx;revert Y HY St0 HB0 HBx HL hsz d1 hPl hxl e0 e1 e2 e3;exact zk.o):p:=h ⟨k⟩
theorem zb3 (k:q) (h:Kz q->p:=by
 intro zk;have HCl:O (∀Z,Below X.heap.size X Z->(fun w':World=>w'.cell? ⟨b5,1,none⟩=some (int i64 a)/\w'.cell? ⟨b6,0,none⟩=some (int i64 n)/\w'.cell? ⟨b6,1,none⟩=some (int i64 v)/\w'.cell? ⟨b6,2,none⟩=some (int i64 p)) Z):=fun Z hZ=>⟨(hZ.cell (z29 i1)).trans i1,(hZ.cell (z29 s0)).trans s0,(hZ.cell (z29 s1)).trans s1,(hZ.cell (z29 s2)).trans s2⟩
 have HD:O (Below X.heap.size X X.drew):=Lb.drew;have hS:=HCl.o _ HD.o;refine z31 (S:=(fun w':World=>w'.cell? ⟨b5,1,none⟩=some (int i64 a)/\w'.cell? ⟨b6,0,none⟩=some (int i64 n)/\w'.cell? ⟨b6,1,none⟩=some (int i64 v)/\w'.cell? ⟨b6,2,none⟩=some (int i64 p))) ye rfl rfl ?_;refine pick_o 0 (.pointer (some ⟨b5,1,none⟩)) hS ?_;refine pick_o (hy:=fun w' h=>yh) 1 (int i64 a) hS ?_;refine pick_o (hy:=fun w' h=>yi) 2 (.agg #[int i64 n,int i64 v,int i64 p]) hS ?_;refine pick_o 5 (int i64 ((k:Int)+1)) hS ?_;refine pick_o (hy:=fun w' h=>yi) 6 (.agg #[int i64 n,int i64 v,int i64 p]) hS ?_
 refine z26 (i:=3) (f:=149) (args:= #[.agg #[int i64 n,int i64 v,int i64 p],int i64 0,int i64 (-1)]) rfl ye rfl rfl yf ?_;refine(z76 n v p (0) (-1) _ yj yj).mono ?_;rintro e X1 ⟨rfl,hbx⟩;have HX1:=U (HD.o.trans (hbx.mono HD.o.size));clear hbx hS;have hS:=HCl.o _ HX1.o;revert HCl HD X1 HX1 hS;exact zk.o):p:=h ⟨k⟩
theorem zb4 (k:q) (h:Kz q->p:=by
 intro zk;refine(HI.o (t.kid 0) _ kn ss _ _ HB.o.2.1 G0.o.2.1 G0.o.2.2 HB.o.2.2.2.2.2.1 (by skip;have:=HB.o;omega) G0.o.1 S1.o KA1.o).mono ?_;rintro e X2 ⟨⟨xp,rfl⟩,hst,fr⟩;have HA2:=U (fr.keep HA1.o yk yk yk);have S2:=U hst;have F2:=U (F1.o.trans fr);have KA2:=U (KnAt.frame fr _ _ KA1.o);clear hst fr;have R0:=U (part_r (es:=es) (K:=K) F (t.kid 0) ss s HB.o.2.1 G0.o.2.1 HB.o.2.2.2.2.2.1);obtain⟨r1,hr1⟩:∃x,partZ es F (t.kid 0) ss s=x:=⟨_,rfl⟩
 rw[hr1]at S2 R0;have Er1:=U hr1;clear hr1;revert X2 xp HA2 S2 F2 KA2 R0 r1 Er1;exact zk.o):p:=h ⟨k⟩
theorem zb5 (k:q) (h:Kz q->p:=by
 intro zk;have HX1:=U (H1.o.below HY1.o);have hBX1:=z13 HX1.o.blk;have hGX1:=HX1.o.row.lt;have hEX1:=z13 hf1;have cX1:=HX1.o.cells HKn.o;rw[HT.o]at cX1;obtain⟨c0,c1,c2,-,-,-⟩:=cX1;dsimp only at c0 c1 c2;have f1:=z11 HX1.o.blk 1;revert HX1 hBX1 hGX1 hEX1 c0 c1 c2 f1;exact zk.o):p:=h ⟨k⟩
theorem zb6 (k:q) (h:Kz q->p:=by
 intro zk;have e1:s1.p=s.p:=by rw[<-hs1]
 have e2:s1.next=s.next:=by rw[<-hs1]
 have e3:s1.left=s.left-1:=by rw[<-hs1]
 have HFF:=U (of_fit hf e1 e2 e3);have HP:=U (fun(c:Nat) (e:Ending) (Y:World) (h:NodesPost d ve X s1 c e Y) (hc:c<=9\/(0<s.left/\c<=300))=>of_post hl.2 e1 e2 e3 h hc);have A0:=U (At.start hl.1);have HE:=U (hE.grew hl.2);have g2:=hl.1.c2;have g0:=hl.1.c0;rw[e3]at g2;obtain⟨L,hL⟩:∃L:Int,s.left-1=L:=⟨_,rfl⟩
 have HLe:=U hL;rw[hL]at g2;revert e1 e2 e3 HFF HP A0 HE g2 g0 L hL HLe;exact zk.o):p:=h ⟨k⟩
theorem zb7 (k:q) (h:Kz q->p:=by
 intro zk;have F1:=U (St.o.2.trans (hL1.mono St.o.2.size));refine till_cut (v:=.pointer (some ⟨g,fr*4,none⟩)) (w1:=X1) rfl ye rfl yl yg ?_;refine any_stage (fun _=>True) ?_;have hg1:=z40 S1.o.orow (g:=g) rfl;have hd:∀j,j<4->X1.cell? ⟨g,fr*4+j,none⟩=some ((s.o.getD fr default).cell j):=fun j hj=>by
  rw[S1.o.orow.cellAt (fr*4+j) ya,z51 In.cell 4 yk s.o _ ya];rw[show(fr*4+j)/4=fr by omega,show(fr*4+j) % 4=j by omega]
 obtain⟨-,cur,hcur⟩:=hg1;have f0:=z15 hcur (fr*4);have f1:=z15 hcur (fr*4+1);have f2:=z15 hcur (fr*4+2);have f3:=z15 hcur (fr*4+3);have k0:=hd 0 ya;have k1:=hd 1 ya;revert F1 hd cur hcur f0 f1 f2 f3 k0 k1;exact zk.o):p:=h ⟨k⟩
theorem zb8 (k:q) (h:Kz q->p:=by
 intro zk;have rz0:=z11 FZ.o.res 0;have rz1:=z11 FZ.o.res 1;have rz0':Z2.cell? ⟨rb,0,none⟩=some (.slice none 0 0):=rz0;have rz1':Z2.cell? ⟨rb,1,none⟩=some (.slice none 0 0):=rz1;obtain⟨fz0,fz1⟩:=ffz2 FZ.o.res;have qz0:=z11 FZ.o.box 0;have qz1:=z11 FZ.o.box 1;have qz0':Z2.cell? ⟨X2.heap.size+1,0,none⟩=some (.slice (some ⟨be,0,none⟩) es.length cpe):=qz0;have qz1':Z2.cell? ⟨X2.heap.size+1,1,none⟩=some (.slice (some ⟨bt,0,none⟩) n24.length cp24):=qz1;clear rz0 rz1 qz0 qz1;go_wp2_with fail
 have HFi:=U (FZ.o.stored (.slice (some ⟨be,0,none⟩) es.length cpe) (.slice (some ⟨bt,0,none⟩) n24.length cp24));revert rz0' rz1' fz0 fz1 qz0' qz1' HFi;exact zk.o):p:=h ⟨k⟩
theorem zb9 (k:q) (h:Kz q->p:=by
 intro zk;have hPl:Mb<Z.heap.size:=z13 St.o.1.blk;have hxl:W.heap.size<Z.heap.size:=z13 HBx.o;have q0:∀y:Later Z.heap.size Z,y.w.cell? ⟨Mb,2,none⟩=_:=fun y=>y.cell hPl b2
 have p0:∀y:Later Z.heap.size Z,y.w.cell? ⟨W.heap.size,0,none⟩=_:=fun y=>y.cell hxl e0
 have p1:∀y:Later Z.heap.size Z,y.w.cell? ⟨W.heap.size,1,none⟩=_:=fun y=>y.cell hxl e1
 have p2:∀y:Later Z.heap.size Z,y.w.cell? ⟨W.heap.size,2,none⟩=_:=fun y=>y.cell hxl e2
 have p3:∀y:Later Z.heap.size Z,y.w.cell? ⟨W.heap.size,3,none⟩=_:=fun y=>y.cell hxl e3
 refine till_begin (c:=6) (S:=fun w'=> ∃x:Later Z.heap.size Z,w'= x.w) ye ?_;refine till_walk ye 6 0 _ _ ye ye ⟨⟨Z.drew,Lb.drew⟩,rfl⟩ ?_;simp only[List.drop_zero,List.take_succ_cons,List.take_zero];revert hPl hxl q0 p0 p1 p2 p3;exact zk.o):p:=h ⟨k⟩
theorem zb10 (k:q) (h:Kz q->p:=by
 intro zk;rw[HY.o];have q0:∀y:Later Y.heap.size Y,y.w.cell? ⟨Mb,1,none⟩=_:=fun y=>y.cell hPl d1
 have p0:∀y:Later Y.heap.size Y,y.w.cell? ⟨W.heap.size,0,none⟩=_:=fun y=>y.cell hxl e0
 have p1:∀y:Later Y.heap.size Y,y.w.cell? ⟨W.heap.size,1,none⟩=_:=fun y=>y.cell hxl e1
 have p2:∀y:Later Y.heap.size Y,y.w.cell? ⟨W.heap.size,2,none⟩=_:=fun y=>y.cell hxl e2
 have p3:∀y:Later Y.heap.size Y,y.w.cell? ⟨W.heap.size,3,none⟩=_:=fun y=>y.cell hxl e3
 refine till_begin (c:=7) (S:=fun w'=> ∃x:Later Y.heap.size Y,w'= x.w) ye ?_;refine till_walk ye 6 0 _ _ ye ye ⟨⟨Y.drew,Lb.drew⟩,rfl⟩ ?_;simp only[List.drop_zero,List.take_succ_cons,List.take_zero];revert q0 p0 p1 p2 p3;exact zk.o):p:=h ⟨k⟩
theorem zb11 (k:q) (h:Kz q->p:=by
 intro zk;have hqd:=fr.keep hq0 yk yk yk;have hPd:=fr.keep hPa yk yk yk;have hHd:=fr.keep hHa yk yk yk;have hfd:=hfa.trans fr;have hSd:Xd.cell? ⟨p4,0,none⟩=some (.pointer (some ⟨Mb,0,none⟩))/\Xd.cell? ⟨b9,0,none⟩=some (.string a)/\Xd.cell? ⟨Mb,0,none⟩=some (.slice ae es.length ce):=⟨z11 hPd 0,z11 hHd 0,km_effs ⟨ls,vo2,vl,hkd⟩⟩
 refine⟨_,rfl,hSd,?_⟩;refine z25 yg ?_;obtain⟨hkz,hfz⟩:=km_box hkm hkd hfd hqle hqd (int i64 (s.o.length:Int));have hqz:=box_set1 hqd (int i64 (s.o.length:Int));have z0:=z11 hqd 0;have z1:=z15 hqd 0;revert hqd hPd hHd hfd hSd hkz hfz hqz z0 z1;exact zk.o):p:=h ⟨k⟩
theorem zb12 (k:q) (h:Kz q->p:=by
 intro zk;have HT:=U h;have hb1:Below W.heap.size W (W.alloc (.cells #[.slice ae le ce,.slice at_ L ct] 26)):=Lb.alloc La _;have HB1:=U hb1;clear hb1;have hA1:=(Ld W (.cells #[.slice ae le ce,.slice at_ L ct] 26)).1;obtain⟨Y,hY⟩:∃Y,W.alloc (.cells #[.slice ae le ce,.slice at_ L ct] 26)=Y:=⟨_,rfl⟩
 rw[hY]at HT HB1 hA1;have HY:=U hY;have HA:=U hA1;obtain⟨e0,e1⟩:=fcl2 HA.o;clear hA1 hY;revert HT HB1 Y HY HA e0 e1;exact zk.o):p:=h ⟨k⟩
theorem zb13 (k:q) (h:Kz q->p:=by
 intro zk;have hinW:=hin.below h.bel hbc;have hok:=all_ok hall hk;have f0:=z11 h.blk 0;have f1:=z11 h.blk 1;simp at f0 f1;have f2:=hinW k hk 0 ya;have f3:=hinW k hk 1 ya;have f4:=hinW k hk 2 ya;have f5:=hinW k hk 3 ya;obtain⟨f6,f7,f8,-,-,-⟩:=h.cells hk;have hs:=h.sane _ (tgF_mem (show k<T.length by rw[h.len];exact hk));revert hinW hok f0 f1 f2 f3 f4 f5 f6 f7 f8 hs;exact zk.o):p:=h ⟨k⟩
theorem zb14 (k:q) (h:Kz q->p:=by
 intro zk;refine HK.o.mono ?_;rintro e X1 ⟨v1,n1,s1,t1,rfl,hn1,hl1,ha1,hg1⟩;have A1:=U ha1;have N1:=U (Lc hn1 hl1);have G1:=U hg1;obtain⟨ad1,cp1,rfl⟩:=hn1.is;obtain⟨l1,hl1e⟩:∃l,n1.length=l:=⟨_,rfl⟩
 have HL1:=U hl1e;rw[hl1e]at N1 |-;clear hn1 hl1 ha1 hg1 hl1e;try revert HL1
 try revert l1
 try revert cp1
 try revert ad1
 try revert G1
 try revert N1
 try revert A1
 try revert t1
 try revert s1
 try revert n1
 try revert v1
 try revert X1
 exact zk.o):p:=h ⟨k⟩
theorem zb15 (k:q) (h:Kz q->p:=by
 intro zk;refine z26 (i:=11) (f:=35) (args:= #[.pointer (some ⟨d.B,0,none⟩),int i64 6]) rfl ye rfl rfl yf ?_;refine(A22.o.pick HF.o ya 6 yk).mono ?_;rintro e X23 ⟨m23,s23,rfl,hm23,hM23,ha,(G23:O _)⟩;have A23:=U ha;clear ha;refine⟨_,rfl,(A23.o.1.c1),?_⟩;refine z25 yg ?_;have hwr23:IntKind.i64.wrap (4+m23)=4+m23:=ym;refine pick_o (hy:=fun w' hw=>by simp[go_sem,hwr23]) 12 (int i64 (4+m23)) (A23.o.1.c1) ?_;clear hwr23;revert X23 m23 s23 hm23 hM23 G23 A23;exact zk.o):p:=h ⟨k⟩
theorem zb16 (k:q) (h:Kz q->p:=by
 intro zk;have e0:=z11 hV1 0;have f0:=z11 h1.blk 0;simp at e0 f0;have pe0:∀y:Later V.heap.size V,y.w.cell? ⟨Eb,0,none⟩=_:=fun y=>y.cell hEl e0
 have pf0:∀y:Later V.heap.size V,y.w.cell? ⟨Fb,0,none⟩=_:=fun y=>y.cell hFl f0
 have HV:=U hV;have HEb:=U hEb;have HV1:=U hV1;have H1:=U h1;have HW:=U hVb;revert e0 f0 pe0 pf0 HV HEb HV1 H1 HW;exact zk.o):p:=h ⟨k⟩
theorem zb17 (k:q) (h:Kz q->p:=by
 intro zk;have sz:=HB.o.gr.size;have OA:=U (OA.o.alloc (.cells fourV 9));have RC:=U (Ld X (.cells fourV 9)).1;have HQc:=U sz;have HB:=U (bx_low HB.o bl);clear sz;refine Or.inl ⟨_,.slice (some ⟨X.heap.size,0,none⟩) 4 4,X.alloc (.cells fourV 9),rfl,rfl,yn,trivial,?_⟩;refine z25 yg ?_;obtain⟨qc,hq⟩:∃q,X.heap.size=q:=⟨_,rfl⟩
 revert OA RC HQc HB qc hq;exact zk.o):p:=h ⟨k⟩
theorem zb18 (k:q) (h:Kz q->p:=by
 intro zk;refine stage_make (k:=8) (v:=.pointer (some ⟨Mb,0,none⟩)) (w1:=X3) rfl ye rfl yf trivial yg ?_;refine stage_make (k:=9) (v:=.pointer (some ⟨Mb,1,none⟩)) (w1:=X3) rfl ye rfl yf trivial yg ?_;refine stage_skip (k:=10) rfl (w1:=X3.setCell ⟨Mb,1,none⟩ (.slice ad2 (s.o.length+1) cp2)) rfl ye rfl yo trivial ?_;refine stage_end ye ?_;have HNx:=U hnx.1;have HFr:=U (((Kf.of_below HB0.o).trans (Kf.of_below hKx)).trans hnx.2);have hfin:=z11 (comp_set1 hb3 (.slice ad2 (s.o.length+1) cp2)) 1;simp at hfin;revert HNx HFr hfin;exact zk.o):p:=h ⟨k⟩
theorem zb19 (k:q) (h:Kz q->p:=by
 intro zk;have bl:=(Below.refl W.heap.size W).alloc La (.cells #[.iface Tu pu,.iface Tx px,.string a,.string c,.iface Ty py] 117);have hA:=(Ld W (.cells #[.iface Tu pu,.iface Tx px,.string a,.string c,.iface Ty py] 117)).1;obtain⟨Y,hY⟩:∃Y,W.alloc (.cells #[.iface Tu pu,.iface Tx px,.string a,.string c,.iface Ty py] 117)=Y:=⟨_,rfl⟩
 rw[hY]at bl hA;have HY:=U hY;have HA1:=U hA;have S1:=U (h.below bl);have F1:=U (Kf.of_below bl);have KA1:=U (KnAt.frame (Kf.of_below bl) _ _ hk);revert bl hA Y hY HY HA1 S1 F1 KA1;exact zk.o):p:=h ⟨k⟩
theorem zb20 (k:q) (h:Kz q->p:=by
 intro zk;obtain⟨len,hlen⟩:∃len,es.length=len:=⟨_,rfl⟩
 have Hlen:O (es.length=len):=hlen;have HM:O (len<=1000000):=yp;obtain⟨R,hR⟩:∃R,effPlace es s 0=R:=⟨_,rfl⟩
 have HR:O (effPlace es s 0=R):=hR;have HN:O (es≠ []-> ∃b off,a0=some ⟨b,off,none⟩/\b<w.heap.size/\EffsAt w b off es):=hn;have HP:O (w.cell? ⟨P,0,none⟩=some (.string s)/\P<w.heap.size):=⟨hP,hPl⟩
 rw[hlen,hR];clear hlen hR;revert len Hlen HM R HR HN HP;exact zk.o):p:=h ⟨k⟩
theorem zb21 (k:q) (h:Kz q->p:=by
 intro zk;have bl:=(Below.refl W.heap.size W).alloc La (.cells #[.iface Tu pu,.iface Tx px,.iface Ty py] 114);have hA:=(Ld W (.cells #[.iface Tu pu,.iface Tx px,.iface Ty py] 114)).1;obtain⟨Y,hY⟩:∃Y,W.alloc (.cells #[.iface Tu pu,.iface Tx px,.iface Ty py] 114)=Y:=⟨_,rfl⟩
 rw[hY]at bl hA;have HY:=U hY;have HA1:=U hA;have S1:=U (h.below bl);have F1:=U (Kf.of_below bl);have KA1:=U (KnAt.frame (Kf.of_below bl) _ _ hk);revert bl hA Y hY HY HA1 S1 F1 KA1;exact zk.o):p:=h ⟨k⟩
theorem zb22 (k:q) (h:Kz q->p:=by
 intro zk;have hgood:=hs.toGood;have HC:O (t.k.count=3):=z43 hgood ek (c:=3) rfl;have HZ:O ((t.kid 0).size+(t.kid 1).size+(t.kid 2).size+1=t.size/\1<=(t.kid 0).size/\1<=(t.kid 1).size/\1<=(t.kid 2).size):=⟨(kids3 HC.o).2,(t.kid 0).size_pos,(t.kid 1).size_pos,(t.kid 2).size_pos⟩
 have HX:=U cx;have HIH:=U ih;have HS:=U hs;have HK:=U (Lc hK (Lc hF hk1));have HB:=U hB;clear hgood;revert HC HZ HX HIH HS HK HB;exact zk.o):p:=h ⟨k⟩
theorem zb23 (k:q) (h:Kz q->p:=by
 intro zk;rw[HZ.o];have HBx:=U hbox;have St:=U hst;have b2:=z11 St.o.1.blk 2;have e0:=z11 HBx.o 0;have e1:=z11 HBx.o 1;have e2:=z11 HBx.o 2;have e3:=z11 HBx.o 3;revert HBx St b2 e0 e1 e2 e3;exact zk.o):p:=h ⟨k⟩
theorem zb24 (k:q) (h:Kz q->p:=by
 intro zk;have hgood:=hs.toGood;have HC:O (t.k.count=2):=z43 hgood ek (c:=2) rfl;have HZ:O ((t.kid 0).size+(t.kid 1).size+1=t.size/\1<=(t.kid 0).size/\1<=(t.kid 1).size):=⟨(kids2 HC.o).2,(t.kid 0).size_pos,(t.kid 1).size_pos⟩
 have HX:=U cx;have HIH:=U ih;have HS:=U hs;have HK:=U (Lc hK (Lc hF hk1));have HB:=U hB;clear hgood;revert HC HZ HX HIH HS HK HB;exact zk.o):p:=h ⟨k⟩
theorem zb25 (k:q) (h:Kz q->p:=by
 intro zk;have hb:Below Y.heap.size Y Y.drew:=Lb.drew;have PA2:=U ((hb.block _ (z13 PA1.o)).trans PA1.o);have HA2:=U ((hb.block _ (z13 HA1.o)).trans HA1.o);have S2:=U (S1.o.below hb);have F2:=U (F1.o.trans (Kf.of_below hb));have KA2:=U (KnAt.frame (Kf.of_below hb) _ _ KA1.o);clear hb;revert PA2 HA2 S2 F2 KA2;exact zk.o):p:=h ⟨k⟩
theorem zb26 (k:q) (h:Kz q->p:=by
 intro zk;rintro e X5 ⟨rfl,h5,-⟩;obtain⟨n5,hn5⟩:∃m,s4.o.length=m:=⟨_,rfl⟩
 rw[hn5];have S5:=U h5;clear h5 hn5;obtain⟨FIN,hFIN⟩:∃x,codeZ es n k=x:=⟨_,rfl⟩
 have HFIN:O ((restZ es 400 0 (s4.put ⟨0,0,0,0⟩)).o=FIN):=by
  show _=_;rw[<-hFIN,<-HS4.o];rfl
 have HFQ:=U hFIN;clear hFIN;revert X5 n5 S5 FIN HFIN HFQ;exact zk.o):p:=h ⟨k⟩
theorem zb27 (k:q) (h:Kz q->p:=by
 intro zk;refine⟨_,rfl,(A24.o.1.c1),?_⟩;refine z25 yg ?_;refine pick_o 14 (.pointer (some ⟨X2.heap.size+1,1,none⟩)) (A24.o.1.c1) ?_;have BP2:=U (((G1.o.trans (G21.o.trans (G22.o.trans (G23.o.trans G24.o)))).block _ HQp.o).trans BP.o);have cb0:=z11 BP2.o 1;have fb0:=z15 BP2.o 1;have cb1:X24.cell? ⟨X2.heap.size+1,1,none⟩=some (.slice none 0 0):=cb0;have CG:=A24.o.1.c1;revert BP2 cb0 fb0 cb1 CG;exact zk.o):p:=h ⟨k⟩
theorem zb28 (k:q) (h:Kz q->p:=by
 intro zk;have cz0:=z11 FIN.o.box 0;have cz1:=z11 FIN.o.box 1;have cz0':Z.cell? ⟨X2.heap.size+1,0,none⟩=some (.slice ade es.length cpe):=cz0;have cz1':Z.cell? ⟨X2.heap.size+1,1,none⟩=some (.slice ad24 n24.length cp24):=cz1;clear cz0 cz1;obtain⟨R,hR,-⟩:=answers n24;have hcap:es.length<=cpe:=by rcases FIN.o.effs.1 with ⟨h,h0⟩|⟨_,_,_,h,h0,-⟩;have:=E1.o.2.1;omega;cases h;exact h0
 obtain⟨be,ce,bt,ct,heE,heT,hbe,hbt,hEA,hNA,hl5⟩:=FIN.o.lies;revert cz0' cz1' R hR hcap be ce bt ct heE heT hbe hbt hEA hNA hl5;exact zk.o):p:=h ⟨k⟩
theorem zb29 (k:q) (h:Kz q->p:=by
 intro zk;obtain⟨q0,q1,q2,q3,q4,q5⟩:=fsx hcl;obtain⟨hrf,hrc,cur,hcur⟩:=row_fz HS7.o.row;have z0:=hrf (k*6+0);have z1:=hrf (k*6+1);have z2:=hrf (k*6+2);have z3:=hrf (k*6+3);have z4:=hrf (k*6+4);have z5:=hrf (k*6+5);revert q0 q1 q2 q3 q4 q5 hrf hrc cur hcur z0 z1 z2 z3 z4 z5;exact zk.o):p:=h ⟨k⟩
theorem zb30 (k:q) (h:Kz q->p:=by
 intro zk;have hgood:=hs.toGood;have HC:O (True):=trivial;have HZ:O (1<=t.size):=t.size_pos;have HX:=U cx;have HS:=U hs;have HK:=U (Lc hK (Lc hF hk1));have HB:=U hB;clear hgood;revert HC HZ HX HS HK HB;exact zk.o):p:=h ⟨k⟩
theorem zb31 (k:q) (h:Kz q->p:=by
 intro zk;have sz:=HB.o.gr.size;have RC:=U (Ld X (.cells fourV 9)).1;have HQc:=U sz;have HB:=U (bx_low HB.o bl);clear sz;refine Or.inl ⟨_,.slice (some ⟨X.heap.size,0,none⟩) 4 4,X.alloc (.cells fourV 9),rfl,rfl,yn,trivial,?_⟩;refine z25 yg ?_;obtain⟨qc,hq⟩:∃q,X.heap.size=q:=⟨_,rfl⟩
 revert RC HQc HB qc hq;exact zk.o):p:=h ⟨k⟩
theorem zb32 (k:q) (h:Kz q->p:=by
 intro zk;rw[hz];have b6:(kd==6)=false:=beq_eq_false_iff_ne.2 k6;have b25:(kd==25)=false:=beq_eq_false_iff_ne.2 k25;have b8:(kd==8)=false:=beq_eq_false_iff_ne.2 k8;have b9:(kd==9)=false:=beq_eq_false_iff_ne.2 k9;have b20:(kd==20)=false:=beq_eq_false_iff_ne.2 k20;have b26:(kd==26)=false:=beq_eq_false_iff_ne.2 k26;revert b6 b25 b8 b9 b20 b26;exact zk.o):p:=h ⟨k⟩
theorem zb33 (k:q) (h:Kz q->p:=by
 intro zk;have hO:ownOk ⟨k,num,a,b,c,kids⟩=(!(k==20 && a.toList==b.toList) && numOk k num):=by simp[ownOk,hK,hnames,unlike]
 have a1:=z11 eA 1;have a2:=z11 eA 2;have a3:=z11 eA 3;simp at a1 a2 a3;have hnc:= @names_case k;have hm0:= @most_other k;revert hO a1 a2 a3 hnc hm0;exact zk.o):p:=h ⟨k⟩
theorem zb34 (k:q) (h:Kz q->p:=by
 intro zk;rintro e X1 ⟨rfl,h1,g1⟩;obtain⟨n1,hn1⟩:∃n,s.o.length=n:=⟨_,rfl⟩
 rw[hn1];have S1:=U h1;have G1:=U g1;clear h1 g1 hn1;go_wp2_with fail
 revert X1 n1 S1 G1;exact zk.o):p:=h ⟨k⟩
theorem zb35 (k:q) (h:Kz q->p:=by
 intro zk;refine z27 (i:=7) (v:=.slice ad2 (ls.length+1) cp2) (w1:=X3) rfl ye rfl rfl (z45 (s:=.tmp 12) (x:=.tmp 14) (t:=44) rfl rfl rfl hrun) hS3 yg ?_;refine pick_o 8 (.pointer (some ⟨Mb,0,none⟩)) hS3 ?_;refine pick_o 9 (.pointer (some ⟨Mb,2,none⟩)) hS3 ?_;have d2:X3.cell? ⟨Mb,2,none⟩=some (.slice adp ls.length cpp):=z11 hb3 2;have w2:=z15 hb3 2;have HNx:=U hnx.1;have HFr:=U (((Kf.of_below HB2.o)).trans hnx.2);revert d2 w2 HNx HFr;exact zk.o):p:=h ⟨k⟩
theorem zb36 (k:q) (h:Kz q->p:=by
 intro zk;refine z26 (i:=20) (f:=120) (args:= #[.agg #[int i64 kv,int i64 0,.string ⟨#[]⟩,.string ⟨#[]⟩,.string ⟨#[]⟩,int i64 0],.slice (some ⟨X6.heap.size,0,none⟩) 2 2]) rfl ye rfl rfl yf ?_;refine(A8.o.put_kids kv 0 0 ⟨#[]⟩ ⟨#[]⟩ ⟨#[]⟩ KV.o ⟨z14,z14,z14⟩ yq yr).mono ?_;rintro e X10 ⟨v10,n10,rfl,hn10,hl10,ha,(G10:O _)⟩;have A10:=U ha;clear ha;have N10:=U (Lc hn10 hl10);clear hn10 hl10;revert X10 v10 n10 G10 A10 N10;exact zk.o):p:=h ⟨k⟩
theorem zb37 (k:q) (h:Kz q->p:=by
 intro zk;refine z26 (i:=22) (f:=120) (args:= #[.agg #[int i64 kv,int i64 0,.string ⟨#[]⟩,.string ⟨#[]⟩,.string ⟨#[]⟩,int i64 0],.slice (some ⟨X7.heap.size,0,none⟩) 2 2]) rfl ye rfl rfl yf ?_;refine(A9.o.put_kids kv 0 0 ⟨#[]⟩ ⟨#[]⟩ ⟨#[]⟩ KV.o ⟨z14,z14,z14⟩ yq (by have:=A9.o.bound HF.o ya yk;have:=N5.o.2;have:=N7.o.2;simp[flatL];omega)).mono ?_;rintro e X11 ⟨v11,n11,rfl,hn11,hl11,ha,(G11:O _)⟩;have A11:=U ha;clear ha;have N11:=U (Lc hn11 hl11);clear hn11 hl11;revert X11 v11 n11 G11 A11 N11;exact zk.o):p:=h ⟨k⟩
theorem zb38 (k:q) (h:Kz q->p:=by
 intro zk;have HQ:=U (Lc hqe (Lc hbr (Lc hgl (Lc (show go≠d.B by have:=H0.o.ltB;omega) (show go≠d.G by have:=H0.o.ltG;omega)))));have HE:=HEr;have hj0:(0:Int)<=(j:Int):=ya;have hj1:(j:Int)<(es.length:Int):=ya;have hi20:(0:Int)<=(i2:Int):=ya;have hstep:os'.length-(intOf (int i64 ((i2+1:Nat):Int))).toNat<os'.length-(intOf (int i64 (i2:Int))).toNat:=z55 hj;revert HQ HE hj0 hj1 hi20 hstep;exact zk.o):p:=h ⟨k⟩
theorem zb39 (k:q) (h:Kz q->p:=by
 intro zk;have HX2:=U (HX1.o.below HYX2.o);have hBX2:=z13 HX2.o.blk;have hGX2:=HX2.o.row.lt;have hEX2:=z13 hfX2;have cX2:=HX2.o.cells HKn.o;rw[HT.o]at cX2;revert HX2 hBX2 hGX2 hEX2 cX2;exact zk.o):p:=h ⟨k⟩
theorem zb40 (k:q) (h:Kz q->p:=by
 intro zk;refine(A10.o.name HF.o ya).mono ?_;rintro e X11 ⟨x11,s11,rfl,hb11,ha,(G11:O _)⟩;have A11:=U ha;clear ha;have B11:=U hb11;clear hb11;have ec:=(((G10.o.trans G11.o)).cell (p:=⟨bq,1,none⟩) ⟨z13 EB.o,(show bq≠d.B by have:=HQ2.o.1;omega),(show bq≠d.G by have:=HQ2.o.2;omega)⟩).trans (z11 EB.o 1);revert X11 x11 s11 G11 A11 B11 ec;exact zk.o):p:=h ⟨k⟩
theorem zb41 (k:q) (h:Kz q->p:=by
 intro zk;have sz:=HB.o.gr.size;have OA:=U (effs_made (X:=X) (B:=W.heap.size) sz);have HB:=U (bx_low HB.o bl);clear sz;refine Or.inl ⟨_,.slice (some ⟨X.heap.size,0,none⟩) 0 0,X.alloc (.cells #[] 64),rfl,rfl,yf,trivial,?_⟩;refine z25 yg ?_;obtain⟨qa,hq⟩:∃q,X.heap.size=q:=⟨_,rfl⟩
 revert OA HB qa hq;exact zk.o):p:=h ⟨k⟩
theorem zb42 (k:q) (h:Kz q->p:=by
 intro zk;unfold wpOp;rw[ho'];dsimp only;rw[if_pos hw];refine Or.inl ?_;unfold Oper.wp;rw[hrun];exact zk.o):p:=h ⟨k⟩
theorem zb43 (k:q) (h:Kz q->p:=by
 intro zk;have hc:=z43 hg e (c:=3) rfl;obtain⟨-,e1⟩:=kids3 hc;have hd0:=Tp.kid_dp (t:=t) (i:=0) ya;have hd1:=Tp.kid_dp (t:=t) (i:=1) ya;have hd2:=Tp.kid_dp (t:=t) (i:=2) ya;have b0:=hb.kid0 (i:=0) ya yt;have b1:=hb.kid0 (i:=1) ya yt;revert hc e1 hd0 hd1 hd2 b0 b1;exact zk.o):p:=h ⟨k⟩
theorem zb44 (k:q) (h:Kz q->p:=by
 intro zk;refine calls_of_wpN func79 rfl ?_;simp only[ntmps79,List.size_toArray,Ll,Lm,Nat.reduceAdd,Nat.reduceSub,Array.replicate_succ,Array.replicate_zero,List.push_toArray,List.append_toArray,List.nil_append,Ln];refine z57 fun K hK=>?_;revert K hK;exact zk.o):p:=h ⟨k⟩
theorem zb45 (k:q) (h:Kz q->p:=by
 intro zk;refine(A2.o.name HF.o ya).mono ?_;rintro e X3 ⟨x3,s3,rfl,hb3,ha,(G3:O _)⟩;have A3:=U ha;clear ha;have B3:=U hb3;clear hb3;revert X3 x3 s3 G3 A3 B3;exact zk.o):p:=h ⟨k⟩
theorem zb47 (k:q) (h:Kz q->p:=by
 intro zk;have eA':O (wr.heap[w.heap.size]?=some (.cells #[int i64 k,int i64 num,.string a,.string b,.string c,int i64 kids] 68)):=eA;have eN':O (wr.heap[w.heap.size+1]?=some (.cells #[.string a,.string b,.string c] 9)):=eN;have hi3:(j:Int)<3:=ya;have htf:(true !=false)=true:=rfl;have hft:(false !=true)=true:=rfl;revert eA' eN' hi3 htf hft;exact zk.o):p:=h ⟨k⟩
theorem zb48 (k:q) (h:Kz q->p:=by
 intro zk;refine(z52 HSd.o.rd yv 3 yw).mono ?_;rintro e X4 ⟨m20,rfl,hm20,hM20,hr,hg,-,ho⟩;have HS5:=U (HSd.o.pick hr hg ho);have NB5:=U ((ho nb (by have:=HNb.o;have:=HSd.o.lo;omega)).trans NBd.o);clear hr hg ho;have a5:X4.cell? ⟨nb,5,none⟩=some (int i64 kc):=z11 NB5.o 5;revert X4 m20 hm20 hM20 HS5 NB5 a5;exact zk.o):p:=h ⟨k⟩
theorem zb50 (k:q) (h:Kz q->p:=by
 intro zk;have hk:k<l0.length:=(List.getElem?_eq_some_iff.1 ho).1;have e:l0.length-k=l0.length-(k+1)+1:=ya;have ho':l0.toArray[k]?=some o:=yx;rw[e];refine wpAnyH_all (rs:= [k]) yy yq (fun i hi=>?_);rw[Ls]at hi;revert hk e ho' i hi;exact zk.o):p:=h ⟨k⟩
theorem zb51 (k:q) (h:Kz q->p:=by
 intro zk;refine(A1.o.pick HF.o ya 3 yk).mono ?_;rintro e X2 ⟨m2,s2,rfl,hm2,hM2,ha,(G2:O _)⟩;have A2:=U ha;clear ha;revert X2 m2 s2 hm2 hM2 G2 A2;exact zk.o):p:=h ⟨k⟩
theorem zb52 (k:q) (h:Kz q->p:=by
 intro zk;refine⟨_,rfl,⟨A6.o.1.c0,cq7⟩,?_⟩;refine z25 yg ?_;have KV:O (KidsV d (X6.alloc (.cells #[.slice ad4 n4.length cp4,.slice ad6 n6.length cp6] 24)) (.slice (some ⟨X6.heap.size,0,none⟩) 2 2) [(.slice ad4 n4.length cp4,n4),(.slice ad6 n6.length cp6,n6)]):=(z70 [(.slice ad4 n4.length cp4,n4),(.slice ad6 n6.length cp6,n6)] _ rfl A6.o.1.ltB A6.o.1.ltG (fun x hx=>by simp at hx;rcases hx with rfl|rfl;exact(N4.o.1.grew G6.o);exact N6.o.1))
 have A8:=U (A6.o.alloc (.cells #[.slice ad4 n4.length cp4,.slice ad6 n6.length cp6] 24));have G8:=U ((Grew.refl d X6).alloc (.cells #[.slice ad4 n4.length cp4,.slice ad6 n6.length cp6] 24));revert KV A8 G8;exact zk.o):p:=h ⟨k⟩
theorem zb53 (k:q) (h:Kz q->p:=by
 intro zk;refine⟨_,rfl,⟨A7.o.1.c0,cq8⟩,?_⟩;refine z25 yg ?_;have KV:O (KidsV d (X7.alloc (.cells #[.slice ad5 n5.length cp5,.slice ad7 n7.length cp7] 24)) (.slice (some ⟨X7.heap.size,0,none⟩) 2 2) [(.slice ad5 n5.length cp5,n5),(.slice ad7 n7.length cp7,n7)]):=(z70 [(.slice ad5 n5.length cp5,n5),(.slice ad7 n7.length cp7,n7)] _ rfl A7.o.1.ltB A7.o.1.ltG (fun x hx=>by simp at hx;rcases hx with rfl|rfl;exact(N5.o.1.grew G7.o);exact N7.o.1))
 have A9:=U (A7.o.alloc (.cells #[.slice ad5 n5.length cp5,.slice ad7 n7.length cp7] 24));have G9:=U ((Grew.refl d X7).alloc (.cells #[.slice ad5 n5.length cp5,.slice ad7 n7.length cp7] 24));revert KV A9 G9;exact zk.o):p:=h ⟨k⟩
theorem zb54 (k:q) (h:Kz q->p:=by
 intro zk;obtain⟨-,cur,hc⟩:=z40 h.orow (g:=g) rfl;have hb:Below W.heap.size W W.drew:=Lb.drew;have hS:W.drew.cell? ⟨q2,0,none⟩=some (.pointer (some ⟨Mb,0,none⟩))/\W.drew.cell? ⟨q3,0,none⟩=some (int i64 (fr:Int))/\W.drew.cell? ⟨Mb,1,none⟩=some (.slice (some ⟨g,0,none⟩) s.o.length cap):=⟨z11 (w:=W.drew) h2 0,z11 (w:=W.drew) h3 0,z11 (w:=W.drew) h.blk 1⟩
 have hf0:(0:Int)<=(fr:Int):=ya;have hf1:(fr:Int)<(s.o.length:Int):=ya;revert cur hc hb hS hf0 hf1;exact zk.o):p:=h ⟨k⟩
theorem zb55 (k:q) (h:Kz q->p:=by
 intro zk;have HCl:O (∀Z,Below X.heap.size X Z->(fun w':World=>w'.cell? ⟨b5,1,none⟩=some (int i64 a)/\w'.cell? ⟨b6,0,none⟩=some (int i64 n)/\w'.cell? ⟨b6,1,none⟩=some (int i64 v)/\w'.cell? ⟨b6,2,none⟩=some (int i64 p)) Z):=fun Z hZ=>⟨(hZ.cell (z29 i1)).trans i1,(hZ.cell (z29 s0)).trans s0,(hZ.cell (z29 s1)).trans s1,(hZ.cell (z29 s2)).trans s2⟩
 have HD:O (Below X.heap.size X X.drew):=Lb.drew;have hS:=HCl.o _ HD.o;revert HCl HD hS;exact zk.o):p:=h ⟨k⟩
theorem zb56 (k:q) (h:Kz q->p:=by
 intro zk;have S6:=six_other Y7 q k ⟨kd,nm,sa,sb,sc,kc'⟩;have B6:=U (HS7.o.bx.other H0.o.1 (nb:=q) S6.1 S6.2 (six_os _ _ _ _) HQ.o.1 hqb hqr);have N6:=U (six_row (k:=k) HS7.o.row ya ⟨kd,nm,sa,sb,sc,kc'⟩ d ⟨yz,zd,ze⟩ hrc HS7.o.sml HBm.o);clear S6;obtain⟨Y6,hY6⟩:∃Y6,six Y7 q k ⟨kd,nm,sa,sb,sc,kc'⟩=Y6:=⟨_,rfl⟩
 revert B6 N6 Y6 hY6;exact zk.o):p:=h ⟨k⟩
theorem zb57 (k:q) (h:Kz q->p:=by
 intro zk;have HA4:=U ((hb.block _ (z13 HA3.o)).trans HA3.o);have S4:=U (S3.o.below hb);have F4:=U (F3.o.trans (Kf.of_below hb));have KA4:=U (KnAt.frame (Kf.of_below hb) _ _ KA3.o);revert HA4 S4 F4 KA4;exact zk.o):p:=h ⟨k⟩
theorem zb58 (k:q) (h:Kz q->p:=by
 intro zk;rintro e X2 ⟨x2,s2,rfl,hb2,ha,(G2:O _)⟩;have A2:=U ha;clear ha;have B2:=U hb2;clear hb2;revert X2 x2 s2 G2 A2 B2;exact zk.o):p:=h ⟨k⟩
theorem zb59 (k:q) (h:Kz q->p:=by
 intro zk;obtain⟨kv,hkv⟩:=two_get 14 15 m2 hm2 hM2;have cq:=(z11 RB.o m2.toNat).trans hkv;have RBn:=U RB.o;clear hkv;revert kv cq RBn;exact zk.o):p:=h ⟨k⟩
theorem zb60 (k:q) (h:Kz q->p:=by
 intro zk;obtain⟨kv,hkv⟩:=two_get 11 12 m3 hm3 hM3;have cq:=(z11 RB.o m3.toNat).trans hkv;have RBn:=U RB.o;clear hkv;revert kv cq RBn;exact zk.o):p:=h ⟨k⟩
theorem zb61 (k:q) (h:Kz q->p:=by
 intro zk;have hV1:=(Ld W (.cells #[int i64 (k:Int),int i64 n,int i64 v,int i64 p] 155)).1;have hVb:=(Below.refl W.heap.size W).alloc La (.cells #[int i64 (k:Int),int i64 n,int i64 v,int i64 p] 155);obtain⟨V,hV⟩:∃V,W.alloc (.cells #[int i64 (k:Int),int i64 n,int i64 v,int i64 p] 155)=V:=⟨_,rfl⟩
 rw[hV]at hV1 hVb;have h1:=h.below hVb;revert hV1 hVb V hV h1;exact zk.o):p:=h ⟨k⟩
theorem zb62 (k:q) (h:Kz q->p:=by
 intro zk;have hnx:=km_wait St2.o l HLate2.o hown hgrow;have hb3:=(hgrow.block Mb (z13 St2.o.blk) (row_ne St2.o.lrow St2.o.blk yk)).trans St2.o.blk;have h43:=(hgrow.block p4 (z13 H42.o) (row_ne St2.o.lrow H42.o yk)).trans H42.o;have hS3:X3.cell? ⟨p4,0,none⟩=some (.pointer (some ⟨Mb,0,none⟩)):=z11 h43 0;obtain⟨ad2,cp2,hv2⟩:=z46 hown;revert hnx hb3 h43 hS3 ad2 cp2 hv2;exact zk.o):p:=h ⟨k⟩
theorem zb63 (k:q) (h:Kz q->p:=by
 intro zk;refine z26 (i:=9) (f:=149) (args:= #[.agg #[int i64 n,int i64 v,int i64 p],int i64 0,int i64 1]) rfl ye rfl rfl yf ?_;refine(z76 n v p (0) (1) _ yj yj).mono ?_;rintro e X2 ⟨rfl,hbx⟩;have HX2:=U (HX1.o.trans (hbx.mono HX1.o.size));clear hbx;revert X2 HX2;exact zk.o):p:=h ⟨k⟩
theorem zb64 (k:q) (h:Kz q->p:=by
 intro zk;refine till_cut (v:=vp2) (w1:=X3) rfl ye rfl (z45 (s:=.tmp 9) (x:=.tmp 11) (t:=28) rfl rfl rfl hrun) yg ?_;refine any_stage (fun _=>True) ?_;have hb3:=(hgrow.block Mb (z13 St2.o.blk) (row_ne St2.o.orow St2.o.blk yk)).trans St2.o.blk;have d1:=z11 hb3 1;have w1:=z15 hb3 1;revert hb3 d1 w1;exact zk.o):p:=h ⟨k⟩
theorem zb65 (k:q) (h:Kz q->p:=by
 intro zk;refine⟨_,rfl,⟨A10.o.1.c0,cq11⟩,?_⟩;refine z25 yg ?_;refine pick_o 21 v10 ⟨A10.o.1.c0,cq11⟩ ?_;refine z37 ye ?_;go_wp2_with fail
 exact zk.o):p:=h ⟨k⟩
theorem zb66 (k:q) (h:Kz q->p:=by
 intro zk;refine⟨_,rfl,⟨A11.o.1.c0,cq12⟩,?_⟩;refine z25 yg ?_;refine pick_o 23 v11 ⟨A11.o.1.c0,cq12⟩ ?_;refine z37 ye ?_;go_wp2_with fail
 exact zk.o):p:=h ⟨k⟩
theorem zb67 (k:q) (h:Kz q->p:=by
 intro zk;have w1:wrap64 ((k:Int)+1)=(k:Int)+1:=zf;have w2:wrap64 (n+1)=n+1:=zf;have w3:wrap64 (n+2)=n+2:=zf;have HM:O (0<=n/\n<=100/\0<=v/\v<=100):=⟨hn0,hn1,hv0,hv1⟩
 revert w1 w2 w3 HM;exact zk.o):p:=h ⟨k⟩
theorem zb68 (k:q) (h:Kz q->p:=by
 intro zk;dsimp only;rw[ih (t.kid 0) ss s v p s.o.length ya (hs.kid ya) rfl];obtain⟨g0,hg0⟩:∃g,fgZ es F (t.kid 0) ss s.o.length v p=g:=⟨_,rfl⟩
 rw[hg0];have l0:(s.more g0).o.length=s.o.length+g0.c.length:=more_len _ _;revert g0 hg0 l0;exact zk.o):p:=h ⟨k⟩
theorem zb69 (k:q) (h:Kz q->p:=by
 intro zk;have OA:=U (g_grew OA.o HB.o.lo.1 zg hg);have RC:=U ((hg.block qc ⟨z13 RC.o,by have:=HQc.o;have:=HB.o.lo;omega,by rw[H0.o.2.2];have:=HQc.o;have:=HB.o.lo;omega⟩).trans RC.o);have HB:=U (bx_pick HB.o hr hg H0.o.2.2);revert OA RC HB;exact zk.o):p:=h ⟨k⟩
theorem zb70 (k:q) (h:Kz q->p:=by
 intro zk;refine(callsIn_wide (n:=0)).1 ?_;refine callsIn_of_wp_marks func11 rfl trivial ?_ rfl;simp only[ntmps11,List.size_toArray,Ll,Lm,Nat.reduceAdd,Nat.reduceSub,Array.replicate_succ,Array.replicate_zero,List.push_toArray,List.append_toArray,List.nil_append,Ln];have hcv:=Joins.run_convert_bytes_const_at (P:=prog) ((w.alloc (.cells #[.slice none 0 0] 28)).alloc (.cells #[.bool false] 4)) 22 5 #[.int .u8 104,.int .u8 114,.int .u8 49] 3 3 (w.heap.size+1+1) yq underlying22 underlying5;revert hcv;exact zk.o):p:=h ⟨k⟩
theorem zb71 (k:q) (h:Kz q->p:=by
 intro zk;refine(A2.o.pick HF.o ya 2 yk).mono ?_;rintro e X3 ⟨m3,s3,rfl,hm3,hM3,ha,(G3:O _)⟩;have A3:=U ha;clear ha;revert X3 m3 s3 hm3 hM3 G3 A3;exact zk.o):p:=h ⟨k⟩
theorem zb72 (k:q) (h:Kz q->p:=by
 intro zk;have hA:=(Ld W (.cells #[.slice ae es.length ce,.slice (some ⟨bt,0,none⟩) ns.length cn] 26)).1;have hB1:=(Below.refl W.heap.size W).alloc La (.cells #[.slice ae es.length ce,.slice (some ⟨bt,0,none⟩) ns.length cn] 26);obtain⟨Y,hY⟩:∃Y,W.alloc (.cells #[.slice ae es.length ce,.slice (some ⟨bt,0,none⟩) ns.length cn] 26)=Y:=⟨_,rfl⟩
 rw[hY]at hA hB1;revert hA hB1 Y hY;exact zk.o):p:=h ⟨k⟩
theorem zb73 (k:q) (h:Kz q->p:=by
 intro zk;refine HLF.o.mono ?_;rintro e Xl ⟨vl,nl,sl,tl,rfl,hnl,hll,hgl,hgrl,hspl⟩;have NL:=U (Lc hnl (Lc hll (Lc hgl (Lc hgrl hspl))));clear hnl hll hgl hgrl hspl;revert Xl vl nl sl tl NL;exact zk.o):p:=h ⟨k⟩
theorem zb74 (k:q) (h:Kz q->p:=by
 intro zk;have S4:=U h4;have HS4:=U hs4;have HR0:O (s4.o.length+10*s4.rest<=3000/\s4.rest<=299/\LOk ns 1000 s4):=by
  have h1:=R0.o.cost;have h2:=R0.o.rest;have h3:=HSz.o;have h4:(⟨[],[]⟩:Cs).rest=0:=rfl;have h5:(⟨[],[]⟩:Cs).o.length=0:=rfl;exact⟨ya,ya,R0.o.ok (fun l hl=>by cases hl)⟩
 revert S4 HS4 HR0;exact zk.o):p:=h ⟨k⟩
theorem zb75 (k:q) (h:Kz q->p:=by
 intro zk;obtain⟨nb,hnb⟩:∃n,X.heap.size=n:=⟨_,rfl⟩
 obtain⟨fu,hfu⟩:∃v:Value,.func (.func 100) #[] #[.pointer (some ⟨p7,0,none⟩),.pointer (some ⟨p4,0,none⟩),.pointer (some ⟨p5,0,none⟩),.pointer (some ⟨p6,0,none⟩)]=v:=⟨_,rfl⟩
 have hone:fu.oneCell'= true:=by rw[<-hfu];rfl
 revert nb hnb fu hfu hone;exact zk.o):p:=h ⟨k⟩
theorem zb76 (k:q) (h:Kz q->p:=by
 intro zk;have H1:O (ns.drop (p+1)=k.flat++suf):=hp1;have Hk:O k.wf:=hk;obtain⟨len,hlen⟩:∃len,ns.length=len:=⟨_,rfl⟩
 have Hlen:O (ns.length=len):=hlen;revert H1 Hk len hlen Hlen;exact zk.o):p:=h ⟨k⟩
theorem zb77 (k:q) (h:Kz q->p:=by
 intro zk;refine⟨_,rfl,hS,?_⟩;refine z25 yg ?_;refine z37 ye ?_;exact zk.o):p:=h ⟨k⟩
theorem zb78 (k:q) (h:Kz q->p:=by
 intro zk;have hc:=z43 hg e (c:=2) rfl;obtain⟨-,e1⟩:=kids2 hc;have hd0:=Tp.kid_dp (t:=t) (i:=0) ya;have hd1:=Tp.kid_dp (t:=t) (i:=1) ya;revert hc e1 hd0 hd1;exact zk.o):p:=h ⟨k⟩
theorem zb79 (k:q) (h:Kz q->p:=by
 intro zk;have fz:=z15 NB5.o 5;have HS7:=U (HS5.o.set H0.o.1 nb 5 (int i64 kc') HNb.o.1 HNb.o.2.1 HNb.o.2.2.1 HNb.o.2.2.2);have NB7:=U (z68 (i:=5) (v:=int i64 kc') NB5.o);obtain⟨Y7,hY7⟩:∃Y7,X4.setCell ⟨nb,5,none⟩ (int i64 kc')=Y7:=⟨_,rfl⟩
 revert fz HS7 NB7 Y7 hY7;exact zk.o):p:=h ⟨k⟩
theorem zb80 (k:q) (h:Kz q->p:=by
 intro zk;refine till_make (k:=6) (v:=.slice (some ⟨X1.heap.size,0,none⟩) 1 1) (w1:=X1.alloc (.cells #[int i64 op,int i64 a,int i64 b,int i64 c] 53)) yk rfl ye rfl yf ⟨⟨_,hL1.alloc zh _⟩,rfl⟩ yg ?_;have hE:=(Ld X1 (.cells #[int i64 op,int i64 a,int i64 b,int i64 c] 53)).1;have hKx:=hL1.trans (((Below.refl X1.heap.size X1).alloc La (.cells #[int i64 op,int i64 a,int i64 b,int i64 c] 53)).mono hL1.size);revert hE hKx;exact zk.o):p:=h ⟨k⟩
theorem zb81 (k:q) (h:Kz q->p:=by
 intro zk;rw[HP1.o zi];refine part_ev HIH.o (t.kid 0) (ss) zj (HS.o.kid zi) zl S0.o G0.o R0.o zm (N0.o.frame G0.o) fun X1 x1 S1 G1 R1 C1 O1=>?_
 obtain⟨e0,e1,e2,e3,e4,e5,d0,d1⟩:=z32 S1.o G1.o HA.o;revert X1 x1 S1 G1 R1 C1 O1 e0 e1 e2 e3 e4 e5 d0 d1;exact zk.o):p:=h ⟨k⟩
theorem zb82 (k:q) (h:Kz q->p:=by
 intro zk;refine vE (A5.o.put1 25 0 0 x2 ByteArray.empty ByteArray.empty N5.o.1 ⟨B2.o,z14,z14⟩ zn) fun X6 ad6 cp6 n6 N6 A6 G6=>?_
 have HS:O (Hn d (.slice ade es.length cpe) W s (X6.alloc (.cells #[.slice ad3 n3.length cp3,.slice ad6 n6.length cp6] 24)) _ _ _ (.slice (some ⟨X6.heap.size,0,none⟩) 2 2) [⟨ad3,cp3,n3⟩,⟨ad6,cp6,n6⟩] (.slice ado os'.length cpo) os'):=hn_start A6.o (g_grew OR.o H0.o.ltB H0.o.ltG (G2.o.trans (G3.o.trans (G4.o.trans (G5.o.trans G6.o))))) ⟨ad3,cp3,n3⟩ ⟨ad6,cp6,n6⟩ (N3.o.1.grew (G4.o.trans (G5.o.trans G6.o))) N6.o.1;have hfl:(flatL (kdL [⟨ad3,cp3,n3⟩,⟨ad6,cp6,n6⟩])).length<=n3.length+n6.length:=by simp[flatL,kdL]
 revert X6 ad6 cp6 n6 N6 A6 G6 HS hfl;exact zk.o):p:=h ⟨k⟩
theorem zb83 (k:q) (h:Kz q->p:=by
 intro zk;go_wp2_with fail
 have hs:len-(intOf (int i64 ((k+1:Nat):Int))).toNat<len-(intOf (int i64 (k:Int))).toNat:=yu;try rw[show wrap64 ((k:Int)+1)=((k+1:Nat):Int) by have:=HM.o;unfold wrap64;omega]
 revert hs;exact zk.o):p:=h ⟨k⟩
theorem zb84 (k:q) (h:Kz q->p:=by
 intro zk;refine z37 ye ?_;have FIN:=U (prog_rest HG.o HP.o.1 HP.o.2 R1.o.2 R2.o.2 E1.o.1 E1.o.2.1 HB2.o rfl (by show 30+m2<=89;omega) ya A24.o BP2.o N24.o.1 N24.o.2);revert FIN;exact zk.o):p:=h ⟨k⟩
theorem zb85 (k:q) (h:Kz q->p:=by
 intro zk;refine z31 (S:=fun w'=> w'.cell? ⟨d.G,1,none⟩=some (.slice (some ⟨be,oe,none⟩) es.length cpe)/\w'.cell? ⟨go,i2,none⟩=some (int i64 (j:Int))/\w'.cell? ⟨be,oe+j*3,none⟩=some (.string xn)/\w'.cell? ⟨be,oe+j*3+1,none⟩=some (int i64 xa)/\w'.cell? ⟨be,oe+j*3+2,none⟩=some (int i64 xr)) ye rfl rfl ?_;have A7:=U AR.o.drew;have G7:=U (Grew.refl d Y1).drew;revert A7 G7;exact zk.o):p:=h ⟨k⟩
theorem zb86 (k:q) (h:Kz q->p:=by
 intro zk;have HPK:=U (specProgC_calls be bt cpe cp24 es n24 R Z hcap hbe hbt hEA hNA zo hl5 (fun w' hb hn=>specTree_calls bt 0 cp24 n24 w' R hl5 hb hn hR));have HR:=U hR;revert HPK HR;exact zk.o):p:=h ⟨k⟩
theorem zb87 (k:q) (h:Kz q->p:=by
 intro zk;have hbl:=bytes_low h0 b off ea hl;refine⟨b,off,ea,⟨zp,hq.2⟩,fun i hi=>?_⟩;obtain⟨z,hz,h5⟩:=hz i hi;revert hbl i hi z hz h5;exact zk.o):p:=h ⟨k⟩
theorem zb88 (k:q) (h:Kz q->p:=by
 intro zk;have ho':l0.toArray[i]?=some o:=yx;refine wpAnyH_all (rs:= [i]) yy yq (fun j hj=>?_);rw[Ls]at hj;revert ho' j hj;exact zk.o):p:=h ⟨k⟩
theorem zb89 (k:q) (h:Kz q->p:=by
 intro zk;obtain⟨e,a',w2,q,ar⟩:=h b hb k cs;refine⟨e,a',w2,q,.of_steps (.one ?_) ar⟩;have hd:(ops[i]?).bind (·.dst)=o.dst:=by rw[ho];rfl
 revert e a' w2 q ar hd;exact zk.o):p:=h ⟨k⟩
theorem zb90 (k:q) (h:Kz q->p:=by
 intro zk;refine Or.inl ⟨_,.slice ad n cp,X,rfl,rfl,by simp[go_sem,hb0],trivial,?_⟩;refine z25 yg ?_;exact zk.o):p:=h ⟨k⟩
theorem zb91 (k:q) (h:Kz q->p:=by
 intro zk;have hs:ln-(intOf (int i64 ((k+1:Nat):Int))).toNat<ln-(intOf (int i64 (k:Int))).toNat:=yu;try rw[show wrap64 ((k:Int)+1)=((k+1:Nat):Int) by have:=HM.o;unfold wrap64;omega]
 revert hs;exact zk.o):p:=h ⟨k⟩
theorem zb92 (k:q) (h:Kz q->p:=by
 intro zk;refine z37 ye ?_;go_wp2_with fail
 exact zk.o):p:=h ⟨k⟩
theorem zb93 (k:q) (h:Kz q->p:=by
 intro zk;obtain⟨n0,n1,n2,n3,n4,n5⟩:=fcl6 NB8.o;obtain⟨q',hqa',-,-,hcl⟩:=row_at HS7.o.row (k:=k) ya;revert n0 n1 n2 n3 n4 n5 q' hqa' hcl;exact zk.o):p:=h ⟨k⟩
theorem zb94 (k:q) (h:Kz q->p:=by
 intro zk;refine wpAnyH_all (rs:= [i,j]) yy yq (fun k hk=>?_);simp only[List.mem_cons,List.not_mem_nil,or_false]at hk;revert k hk;exact zk.o):p:=h ⟨k⟩
theorem zb95 (k:q) (h:Kz q->p:=by
 intro zk;obtain⟨Y,HY,HA,S0,F0,N0,G0,R0,HP1,⟨c0,c1,c2,c3,c4,c5,d1⟩,hp0,hpl⟩:=z73 (K:=K) cx hs h hv (kd:=t.n.kind) rfl;have hgood:=hs.toGood;revert Y HY HA S0 F0 N0 G0 R0 HP1 c0 c1 c2 c3 c4 c5 d1 hp0 hpl hgood;exact zk.o):p:=h ⟨k⟩
theorem zb96 (k:q) (h:Kz q->p:=by
 intro zk;have HS:=U (Lc (show d.B<wr.heap.size by have:=HO.o.2.1.size;have:=z13 B7.o.rd.blk;omega) (show d.G<wr.heap.size by rw[H0.o.2.2];have:=HO.o.2.1.size;have:=z13 B7.o.rd.blk;omega));obtain⟨i0,hinf,hz0,hz1,hz2⟩:=info_parts info_node;revert HS i0 hinf hz0 hz1 hz2;exact zk.o):p:=h ⟨k⟩
end
end Go.Proofs.YtbbffkiobmbkfaaGreatDoor
