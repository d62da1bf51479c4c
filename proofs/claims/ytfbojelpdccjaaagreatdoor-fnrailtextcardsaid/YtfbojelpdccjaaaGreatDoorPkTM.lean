/- Rows of tactics that are asked for by name. -/
import Derived.WalkKit
import Derived.ProofKit
import Derived.Deep.Cut
namespace Go.Proofs.YtfbojelpdccjaaaGreatDoor
open Go.RowKit
variable {n:Nat}
section
open Go.RowKit
theorem La:n<=n:=Nat.le_refl n
theorem Lb {w:World}:Below n w w:=Below.refl n w
theorem Lc {a b:Prop}(x:a) (y:b):a/\b:=⟨x,y⟩
theorem Ld (w:World) (o:Obj):(w.alloc o).heap[w.heap.size]?=some o/\ ∀r',r'<w.heap.size->(w.alloc o).heap[r']?=w.heap[r']? :=MapKept.heap_alloc w o
theorem Le {m k:Nat}(a:n<m) (b:m<=k):n<k:=Nat.lt_of_lt_of_le a b
theorem Lf {m k:Nat}(a:n<=m) (b:m<=k):n<=k:=Nat.le_trans a b
theorem Lg (w:World) (a:Addr) (u:Value) (k:Nat) (h:k≠a.block):(w.setCell a u).heap[k]?=w.heap[k]? :=Below.heap_setCell w a u k h
theorem Lh {α:Type}{l:List α}{i:Nat}{a:α}(h:l[i]?=some a):a∈l:=List.mem_of_getElem? h
theorem Li (n:Nat):0<=n:=Nat.zero_le n
theorem Lj {w w':World}{a:Addr}(h:w'.heap[a.block]?=w.heap[a.block]?):w'.cell? a=w.cell? a:=World.cell?_of_block h
theorem Lk {α:Type}{l:List α}(h:l.length=0):l= []:=List.eq_nil_of_length_eq_zero h
end
section
def I (p:Prop):Prop:=p
theorem I.o {p:Prop}(h:I p):p:=h
theorem J {p:Prop}(h:p):I p:=h
variable {p:Prop}
theorem yn (h:p:=by simp):p:=h
theorem yf (h:p:=by omega):p:=h
theorem yh (h:p:=by decide):p:=h
theorem qk (h:p:=by cases h):p:=h
theorem nj (h:p:=by cases e):p:=h
theorem mt (h:p:=by cases hx):p:=h
theorem gw (h:p:=by simp[wN]):p:=h
theorem yb (h:p:=by kernel_rfl):p:=h
theorem zo (h:p:=by assumption):p:=h
theorem vu (h:p:=by simp at hk):p:=h
theorem yk (h:p:=by simp;omega):p:=h
theorem ybv (h:p:=by rw[hr];rfl):p:=h
theorem yc (h:p:=by simp[go_sem]):p:=h
theorem yax (h:p:=by simpa using z):p:=h
theorem zn (h:p:=by simpa using h):p:=h
theorem yba (h:p:=by simp[begins]):p:=h
theorem jf (h:p:=by rw[HF.o];rfl):p:=h
theorem jd (h:p:=by rw[HO.o];rfl):p:=h
theorem zg (h:p:=by simpa using hr):p:=h
theorem zf (h:p:=by simpa using ho):p:=h
theorem zj (h:p:=by rw[HB.o];rfl):p:=h
theorem mr (h:p:=by simpa using k2):p:=h
theorem mq (h:p:=by simpa using k1):p:=h
theorem zx (h:p:=by rw[s1];omega):p:=h
theorem qr (h:p:=by rw[hei];simp):p:=h
theorem qt (h:p:=by rw[hO.o];rfl):p:=h
theorem yy (h:p:=by rw[hk];decide):p:=h
theorem zq (h:p:=by rw[hno.o];rfl):p:=h
theorem yag (h:p:=by rw[k9];decide):p:=h
theorem yaf (h:p:=by rw[k8];decide):p:=h
theorem yae (h:p:=by rw[k7];decide):p:=h
theorem yad (h:p:=by rw[k6];decide):p:=h
theorem yac (h:p:=by rw[k5];decide):p:=h
theorem yab (h:p:=by rw[k4];decide):p:=h
theorem yaa (h:p:=by rw[k3];decide):p:=h
theorem ybf (h:p:=by unfold mi;omega):p:=h
theorem ju (h:p:=by simp[go_sem,h]):p:=h
theorem yas (h:p:=by rw[k22];decide):p:=h
theorem yar (h:p:=by rw[k21];decide):p:=h
theorem yat (h:p:=by rw[k20];decide):p:=h
theorem yan (h:p:=by rw[k19];decide):p:=h
theorem yaq (h:p:=by rw[k18];decide):p:=h
theorem yap (h:p:=by rw[k17];decide):p:=h
theorem yao (h:p:=by rw[k16];decide):p:=h
theorem yam (h:p:=by rw[k15];decide):p:=h
theorem yal (h:p:=by rw[k14];decide):p:=h
theorem yak (h:p:=by rw[k13];decide):p:=h
theorem yaj (h:p:=by rw[k12];decide):p:=h
theorem yai (h:p:=by rw[k11];decide):p:=h
theorem yah (h:p:=by rw[k10];decide):p:=h
theorem zb (h:p:=by dsimp only;omega):p:=h
theorem je (h:p:=by show _<=_;omega):p:=h
theorem ym (h:p:=by simp[go_sem,hw]):p:=h
theorem zi (h:p:=by rw[hnd];exact h):p:=h
theorem gv (h:p:=by rw[HLn.o];omega):p:=h
theorem ql (h:p:=by show _/\_;omega):p:=h
theorem jj (h:p:=by rw[<-HT2.o];rfl):p:=h
theorem ng (h:p:=by simp at hf;omega):p:=h
theorem qu (h:p:=by rw[hnn];exact h):p:=h
theorem jb (h:p:=by rw[Hkc.o];omega):p:=h
theorem qm (h:p:=by rw[<-HR8.o];rfl):p:=h
theorem yz (h:p:=by rw[hT];exact hb):p:=h
theorem za (h:p:=by simp at hct;omega):p:=h
theorem jw (h:p:=by simp[go_sem,h.1]):p:=h
theorem jl (h:p:=by simp[kidsAt]at h):p:=h
theorem uz (h:p:=by simp[go_sem,hwr]):p:=h
theorem jm (h:p:=by simp[Fo.flat,hm]):p:=h
theorem vj (h:p:=by rw[z8 h.blk];rfl):p:=h
theorem wq (h:p:=by simp[go_sem,hmk]):p:=h
theorem ybt (h:p:=by simp[go_sem,ftV]):p:=h
theorem qs (h:p:=by rw[k22,k26];rfl):p:=h
theorem jk (h:p:=by rw[Hlen.o];omega):p:=h
theorem uy (h:p:=by have:=HD.o;omega):p:=h
theorem ja (h:p:=by have:=HP.o;omega):p:=h
theorem zl (h:p:=by simp[intOf];omega):p:=h
theorem zy (h:p:=by have:=HL.o;omega):p:=h
theorem vn (h:p:=by simp[go_sem,hw.2]):p:=h
theorem gc (h:p:=by have:=HG.o;omega):p:=h
theorem wm (h:p:=by have:=hk.1;omega):p:=h
theorem wc (h:p:=by have:=HB.o;omega):p:=h
theorem ybu (h:p:=by have:=QZ.o;omega):p:=h
theorem ybs (h:p:=by have:=Q1.o;omega):p:=h
theorem wz (h:p:=by have:=h.lo;omega):p:=h
theorem ya (h:p:=by simp[go_sem,hw.1]):p:=h
theorem jq (h:p:=by have:=HZ.o;omega):p:=h
theorem uf (h:p:=by simp[flatL];omega):p:=h
theorem wl (h:p:=by rw[hs];exact h4.1):p:=h
theorem ze (h:p:=by rw[hs];exact hq.1):p:=h
theorem xl (h:p:=by have:=hq.1;omega):p:=h
theorem jv (h:p:=by simp[go_sem];omega):p:=h
theorem vh (h:p:=by simp[World.setCell]):p:=h
theorem zp (h:p:=by unfold maxLen;omega):p:=h
theorem zv (h:p:=by simp[digitZ];omega):p:=h
theorem vf (h:p:=by unfold Brief;decide):p:=h
theorem qy (h:p:=by simp[go_sem,h.2.1]):p:=h
theorem ybn (h:p:=by have:=HNe.o;omega):p:=h
theorem un (h:p:=by have:=HKl.o;omega):p:=h
theorem my (h:p:=by unfold wrap64;omega):p:=h
theorem yj (h:p:=by simp[go_sem,fourV]):p:=h
theorem js (h:p:=by have:=HKc.o;omega):p:=h
theorem ui (h:p:=by have:=N3.o.2;omega):p:=h
theorem ko (h:p:=by have:=HT.o.2;omega):p:=h
theorem vg (h:p:=by have:=HL.o.1;omega):p:=h
theorem ua (h:p:=by first|rfl|trivial):p:=h
theorem ybl (h:p:=by rw[rest_size];omega):p:=h
theorem zu (h:p:=by simp[letterZ];omega):p:=h
theorem qf (h:p:=by simp[Value.ownBlock]):p:=h
theorem qi (h:p:=by have:=this.2;omega):p:=h
theorem qh (h:p:=by have:=this.1;omega):p:=h
theorem uk (h:p:=by have:=N4.o.2;omega):p:=h
theorem ul (h:p:=by have:=N2.o.2;omega):p:=h
theorem xb (h:p:=by have:=HL.o.2;omega):p:=h
theorem mm (h:p:=by rw[<-hL];exact h.lt):p:=h
theorem nh (h:p:=by simpa[sepB]using hr):p:=h
theorem xm (h:p:=by rw[Nat.div_one];rfl):p:=h
theorem uv (h:p:=by have:=h.room;omega):p:=h
theorem wb (h:p:=by have:=HOs.o.2;omega):p:=h
theorem yay (h:p:=by unfold mi at hm;omega):p:=h
theorem ybq (h:p:=by rw[HL.o.1];exact hkl):p:=h
theorem yr (h:p:=by first|decide|omega):p:=h
theorem yq (h:p:=by have:=H0.o.2.1;omega):p:=h
theorem uh (h:p:=by unfold Fit at hf;omega):p:=h
theorem jc (h:p:=by have:=hnx.size;omega):p:=h
theorem xc (h:p:=by simp[go_sem,hm3,hM3]):p:=h
theorem qn (h:p:=by have:=hbx.size;omega):p:=h
theorem xe (h:p:=by simp[go_sem,hm2,hM2]):p:=h
theorem mj (h:p:=by simp[go_sem,hm1,hM1]):p:=h
theorem ybr (h:p:=by simp[go_sem,hk0,hlt]):p:=h
theorem zd (h:p:=by have:=E1.o.2.2;omega):p:=h
theorem wu (h:p:=by simp[go_sem,cb1,fb0]):p:=h
theorem yd (h:p:=by simp[go_sem];exact rfl):p:=h
theorem uw (h:p:=by have:=HE.o.room;omega):p:=h
theorem ka (h:p:=by rw[hs];exact h.gr.size):p:=h
theorem we (h:p:=by have:=HB.o;simp;omega):p:=h
theorem jn (h:p:=by have:=t.size_pos;omega):p:=h
theorem yt (h:p:=by rw[S6.2];exact z12 hcur):p:=h
theorem kg (h:p:=by have:=HA.o;simp;omega):p:=h
theorem xo (h:p:=by have:=HL.o;simp;omega):p:=h
theorem mf (h:p:=by have:=HE.o.2;simp;omega):p:=h
theorem yi (h:p:=by rw[IntKind.wrap_i64];omega):p:=h
theorem zz (h:p:=by rw[hp1,List.length_append]):p:=h
theorem kb (h:p:=by rw[hG];have:=h.lo;omega):p:=h
theorem gy (h:p:=by rw[List.map_append,e2,g2]):p:=h
theorem wk (h:p:=by rw[List.length_take];omega):p:=h
theorem xk (h:p:=by have:=(h.lt k hk).1;omega):p:=h
theorem mu (h:p:=by rw[h0.eq];exact z12 h0.blk):p:=h
theorem xy (h:p:=by show _=_;simp[flatL,kdL]):p:=h
theorem ji (h:p:=by show _=_;rw[hO,hab];rfl):p:=h
theorem nf (h:p:=by rw[Array.length_toList];rfl):p:=h
theorem gz (h:p:=by rw[List.length_append];omega):p:=h
theorem yx (h:p:=by rw[H0.o.2.2];exact HB.o.lo.1):p:=h
theorem ml (h:p:=by simpa using brief_two hb hb'.2):p:=h
theorem ud (h:p:=by simp at hx;subst hx;exact h1):p:=h
theorem mg (h:p:=by simp only[HA.o];simp[go_sem]):p:=h
theorem gi (h:p:=by simp only[ms,lvN]at h;omega):p:=h
theorem jh (h:p:=by rw[beq_eq_false_iff_ne];omega):p:=h
theorem xq (h:p:=by show _<=_;have:=HC.o;omega):p:=h
theorem ybg (h:p:=by rw[HG0.o];exact La):p:=h
theorem ub (h:p:=by unfold Spent;dsimp only;omega):p:=h
theorem ny (h:p:=by simp[beginsT,begins,kw,z58]):p:=h
theorem qv (h:p:=by rw[Hlen.o];have:=HL.o;omega):p:=h
theorem vd (h:p:=by rcases hw with rfl|rfl<;>rfl):p:=h
theorem ybo (h:p:=by have:=(HOw.o.lt g hg).1;omega):p:=h
theorem ga (h:p:=by simp only[ms,lvN]at hmr;omega):p:=h
theorem jp (h:p:=by rw[List.length_drop,t.kids_len]):p:=h
theorem vw (h:p:=by have:=HO.o.2.1.size;simp;omega):p:=h
theorem yg (h:p:=by have:=HTt.o;have:=HYs.o;omega):p:=h
theorem xp (h:p:=by have:=HC.o;have:=HL.o.1;omega):p:=h
theorem ybp (h:p:=by show _<=_;have:=HL.o.2.2;omega):p:=h
theorem kz (h:p:=by rw[<-HY7.o];simp[go_sem,a5,fz]):p:=h
theorem jg (h:p:=by have:=hol.o;unfold maxLen;omega):p:=h
theorem ybh (h:p:=by have:=(HO.o.lt q e.symm).1;omega):p:=h
theorem zw (h:p:=by first|(simp;done)|(simp;omega)):p:=h
theorem uj (h:p:=by have:=N1.o.2;have:=HL1.o;omega):p:=h
theorem gq (h:p:=by have:=(hown1.lt _ h.symm).1;omega):p:=h
theorem zm (h:p:=by rw[List.length_drop,Hlen.o];omega):p:=h
theorem ki (h:p:=by rw[H0.o.2.2];exact z12 B7.o.rd.blk):p:=h
theorem ut (h:p:=by have:=K4.o.2;have:=HKl.o;omega):p:=h
theorem uo (h:p:=by have:=K3.o.2;have:=HKl.o;omega):p:=h
theorem wn (h:p:=by have:=HP.o.2;have:=HPl.o;omega):p:=h
theorem xw (h:p:=by have:=HB.o;have:=HOs.o.2;omega):p:=h
theorem mh (h:p:=by have:=H0.o.2.1;have:=HP.o;omega):p:=h
theorem ke (h:p:=by have:=H0.o.2.1;have:=HQ.o;omega):p:=h
theorem vy (h:p:=by show _<=_;have:=HA.o;simp;omega):p:=h
theorem kh (h:p:=by show _=_;have:=HA.o;simp;omega):p:=h
theorem uu (h:p:=by have:=N6.o.2;have:=N5.o.2;omega):p:=h
theorem ur (h:p:=by have:=N5.o.2;have:=N4.o.2;omega):p:=h
theorem gd (h:p:=by have h1:=ON.o;have h2:=G.o;omega):p:=h
theorem gn (h:p:=by rcases hc with rfl|rfl|rfl<;>rfl):p:=h
theorem ku (h:p:=by have:=HNb.o;have:=HSa.o.lo;omega):p:=h
theorem yu (h:p:=by have:=HS7.o.lo;have:=HQ.o.1;omega):p:=h
theorem jo (h:p:=by rcases hh with e|e<;>rw[e]<;>rfl):p:=h
theorem wy (h:p:=by have:=FZ.o.cost;have:=HPl.o;omega):p:=h
theorem vv (h:p:=by have:=HA.o;have:=HL.o;simp;omega):p:=h
theorem jr (h:p:=by rw[List.length_drop,t.kids_len];omega):p:=h
theorem yaz (h:p:=by simp;intro e;subst e;revert hb;decide):p:=h
theorem qw (h:p:=by have:=hst.lt.2.2;have:=HL.o.2;omega):p:=h
theorem xx (h:p:=by have:=HE.o.room;have:=K12.o.2;omega):p:=h
theorem mc (h:p:=by simp only[HA.o];simp[go_sem];exact rfl):p:=h
theorem yau (h:p:=by rcases hh with e|e<;>rw[e]<;>decide):p:=h
theorem yaw (h:p:=by unfold seesI at hz;simp at hz;exact hz.1):p:=h
theorem yl (h:p:=by simp only[intOf,Int.toNat_natCast];omega):p:=h
theorem kt (h:p:=by rw[List.length_set];have:=HT.o.2;omega):p:=h
theorem ybd (h:p:=by rw[HS.o kNil (by decide),FkNil.o];decide):p:=h
theorem ye (h:p:=by rw[IntKind.wrap_i64];have:=HTt.o;omega):p:=h
theorem ybb (h:p:=by rw[HS.o kTrue (by decide),FkTrue.o];decide):p:=h
theorem uc (h:p:=by have h3:=h.2.2;unfold Spent at h3 |-;omega):p:=h
theorem kj (h:p:=by have:=BZ.o.lo;show W.heap.size≠bp;omega):p:=h
theorem jt (h:p:=by rw[z32];have:=HBl.o;have:=HKc.o;omega):p:=h
theorem gl (h:p:=by simp[wordVal,results,results61,go_sem]):p:=h
theorem ybc (h:p:=by rw[HS.o kFalse (by decide),FkFalse.o];decide):p:=h
theorem xz (h:p:=by show _<=_;have:=HB.o;have:=HOs.o.2;omega):p:=h
theorem ux (h:p:=by show _=_;have:=HL.o.2;unfold wrap64;omega):p:=h
theorem gp (h:p:=by simp at hx;rcases hx with rfl|rfl|rfl<;>rfl):p:=h
theorem wj (h:p:=by show _=_;unfold Fit at hf;unfold wrap64;omega):p:=h
theorem qj (h:p:=by simp[oS_mk,oF_cons,oF_nil,nd0,needZ,lvK,ownB]):p:=h
theorem kf (h:p:=by have:=H0.o.2.1;have:=HQ.o;have:=HQ2.o;omega):p:=h
theorem ybm (h:p:=by simp[results,results26,go_sem,q0,q1,hBlt1]):p:=h
theorem xh (h:p:=by have:=N4.o.2;have:=N2.o.2;have:=N3.o.2;omega):p:=h
theorem xu (h:p:=by have:=N3.o.2;have:=N6.o.2;have:=N5.o.2;omega):p:=h
theorem wg (h:p:=by have:=AZ.o.bound HF.o (by omega) (by decide);omega):p:=h
theorem yv (h:p:=by rw[H0.o.2.2];have:=HS7.o.lo;have:=HQ.o.1;omega):p:=h
theorem ww (h:p:=by have h:=prog_true hpz;have:=HR.o;rwa[h]at this):p:=h
theorem nk (h:p:=by rw[hT];exact h1_app (f0.b1 3 (by decide) (by decide))):p:=h
theorem qz (h:p:=by show _<_;simp only[intOf,Int.toNat_natCast];omega):p:=h
theorem mv (h:p:=by simp at ht;rcases ht with rfl|rfl;exact h;exact h'):p:=h
theorem yav (h:p:=by simp[results,results94,go_sem,wdV,k0,k1,k2]):p:=h
theorem ue (h:p:=by simp at hx;rcases hx with rfl|rfl;exact h1;exact h2):p:=h
theorem wv (h:p:=by have:=congrArg Addr.block h;dsimp only at this;omega):p:=h
theorem jy (h:p:=by rw[z8 ((y.h.block w.heap.size (z12 hA)).trans hA) 1];rfl):p:=h
theorem jx (h:p:=by rw[z8 ((y.h.block w.heap.size (z12 hA)).trans hA) 0];rfl):p:=h
theorem zh (h:p:=by simp[results,results12,go_sem,k20,k21,k30,k31]):p:=h
theorem jz (h:p:=by rw[z8 ((y.h.block w.heap.size (z12 hA)).trans hA) 2];rfl):p:=h
theorem km (h:p:=by have:=H0.o.2.1;have:=HQ.o;(try have:=HQ2.o);omega):p:=h
theorem qe (h:p:=by rw[z8 ((y.h.block w.heap.size (z12 hA)).trans hA) 3];rfl):p:=h
theorem qx (h:p:=by show _=_;unfold progT effsT;rw[hTS,List.take_length]):p:=h
theorem wh (h:p:=by have:=HE.o.room;have:=K12.o.2;have:=K13.o.2;omega):p:=h
theorem ybk (h:p:=by simp[restVal,results,results53,go_sem,a0,a1,a2]):p:=h
theorem ybi (h:p:=by simp[restVal,results,results90,go_sem,a0,a1,a2]):p:=h
theorem gm (h:p:=by simp[wordVal,results,results61,go_sem,a0,a1,a2]):p:=h
theorem ybj (h:p:=by simp[restVal,results,results91,go_sem,a0,a1,a2]):p:=h
theorem qo (h:p:=by rw[decide_eq_false (show ¬ (1<=ar/\ar<=4) by omega)];rfl):p:=h
theorem kr (h:p:=by rw[e]at hcur;have:=hcur.symm.trans HS7.o.res;simp at this):p:=h
theorem kq (h:p:=by rw[e]at hcur;have:=hcur.symm.trans HS7.o.box;simp at this):p:=h
theorem ni (h:p:=by rw[cut_list,hd,Nat.add_sub_cancel_left,List.take_left' rfl]):p:=h
theorem gx (h:p:=by rw[e1,g1,List.append_assoc,List.length_append,Nat.add_assoc]):p:=h
theorem yp (h:p:=by have h1:=G.o;have h2:=HM.o;simp only[ms,lvN]at h2 |-;omega):p:=h
theorem gb (h:p:=by have h1:=HM.o;have h2:=G.o;simp only[ms,lvN]at h1 |-;omega):p:=h
theorem qg (h:p:=by first|exact Or.inl ⟨rfl,rfl,rfl⟩|exact Or.inr ⟨rfl,rfl,rfl⟩):p:=h
theorem vr (h:p:=by unfold Brief;rw[ByteArray.size_append,HY.o];have:=HX.o;omega):p:=h
theorem gu (h:p:=by intro e;have h1:=HQ.o.2.2.2;have h2:=Option.some.inj e;omega):p:=h
theorem zc (h:p:=by have:=A5.o.bound HF.o (by omega) (by decide);have:=N5.o.2;omega):p:=h
theorem uq (h:p:=by have:=A4.o.bound HF.o (by omega) (by decide);have:=N4.o.2;omega):p:=h
theorem gg (h:p:=by have h1:=HM.o;have h2:=LH.o.1;simp only[ms,lvN]at h1 |-;omega):p:=h
theorem mz (h:p:=by have h1:=HM.o;have h2:=T1.o.1;simp only[ms,lvN]at h1 |-;omega):p:=h
theorem gh (h:p:=by have h1:=ON.o;have h2:=G1.o;have h3:=T41.o;rw[put_len2];omega):p:=h
theorem ug (h:p:=by simp at hx;rcases hx with rfl|rfl|rfl;exact h1;exact h2;exact h3):p:=h
theorem mw (h:p:=by simp at ht;rcases ht with rfl|rfl|rfl;exact h;exact h';exact h''):p:=h
theorem xd (h:p:=by have:=N10.o.2;have:=N4.o.2;have:=N6.o.2;simp[flatL]at *;omega):p:=h
theorem xi (h:p:=by have:=N11.o.2;have:=N5.o.2;have:=N7.o.2;simp[flatL]at *;omega):p:=h
theorem qq (h:p:=by rw[decide_eq_false (show ¬ (1<=rs/\rs<=4) by omega),Bool.and_false];rfl):p:=h
theorem yw (h:p:=by have h1:=G.o;have h2:=M.o;have h3:=S.o.rd.lt;unfold mi at h2 |-;omega):p:=h
theorem np (h:p:=by rw[show ∀l,kw kDo::l=(3,bs kDo)::l from fun _=>rfl,hd_is];decide):p:=h
theorem nu (h:p:=by rw[show ∀l,kw kFn::l=(3,bs kFn)::l from fun _=>rfl,hd_is];decide):p:=h
theorem nw (h:p:=by rw[show ∀l,kw kCase::l=(3,bs kCase)::l from fun _=>rfl,hd_is];decide):p:=h
theorem nn (h:p:=by rw[show ∀l,kw kPrint::l=(3,bs kPrint)::l from fun _=>rfl,hd_is];decide):p:=h
theorem xg (h:p:=by have:=A3.o.bound HF.o (by omega) (by decide);have:=N2.o.2;have:=N3.o.2;omega):p:=h
theorem yo (h:p:=by have:=A8.o.bound HF.o (by omega) (by decide);have:=N4.o.2;have:=N6.o.2;simp[flatL];omega):p:=h
theorem xj (h:p:=by have:=A7.o.bound HF.o (by omega) (by decide);have:=N4.o.2;have:=N5.o.2;simp[flatL];omega):p:=h
theorem xf (h:p:=by have:=A6.o.bound HF.o (by omega) (by decide);have:=N3.o.2;have:=N4.o.2;simp[flatL];omega):p:=h
theorem ybe (h:p:=by have e1:=beq_iff_eq.1 ((HS.o gOpen (by decide)).trans z);rw[e1]at e;exact absurd e (by decide)):p:=h
end
section
/-- A premise that nothing else is taken for. -/
structure Kz (q:Prop):Prop where
 o:q
variable {p q:Prop}
theorem zb0 (k:q) (h:Kz q->p:=by
 intro zk;refine pick_o 0 (.pointer (some ⟨d.G,0,none⟩)) ⟨A7.o.1.c1,((G7.o.cell (p:=⟨go,i2,none⟩) ⟨HQ.o.2.2.1,HQ.o.2.2.2.1,HQ.o.2.2.2.2⟩).trans cj),((G7.o.cell (p:=⟨be,oe+j*3,none⟩) HQ.o.1).trans c0),((G7.o.cell (p:=⟨be,oe+j*3+1,none⟩) HQ.o.1).trans c1),((G7.o.cell (p:=⟨be,oe+j*3+2,none⟩) HQ.o.1).trans c2')⟩ ?_
 refine pick_o 1 (.pointer (some ⟨d.G,0,none⟩)) ⟨A7.o.1.c1,((G7.o.cell (p:=⟨go,i2,none⟩) ⟨HQ.o.2.2.1,HQ.o.2.2.2.1,HQ.o.2.2.2.2⟩).trans cj),((G7.o.cell (p:=⟨be,oe+j*3,none⟩) HQ.o.1).trans c0),((G7.o.cell (p:=⟨be,oe+j*3+1,none⟩) HQ.o.1).trans c1),((G7.o.cell (p:=⟨be,oe+j*3+2,none⟩) HQ.o.1).trans c2')⟩ ?_
 refine pick_o 2 (.pointer (some ⟨d.G,1,none⟩)) ⟨A7.o.1.c1,((G7.o.cell (p:=⟨go,i2,none⟩) ⟨HQ.o.2.2.1,HQ.o.2.2.2.1,HQ.o.2.2.2.2⟩).trans cj),((G7.o.cell (p:=⟨be,oe+j*3,none⟩) HQ.o.1).trans c0),((G7.o.cell (p:=⟨be,oe+j*3+1,none⟩) HQ.o.1).trans c1),((G7.o.cell (p:=⟨be,oe+j*3+2,none⟩) HQ.o.1).trans c2')⟩ ?_
 refine pick_o (hy:=fun w' hw=>ya) 3 (.slice (some ⟨be,oe,none⟩) es.length cpe) ⟨A7.o.1.c1,((G7.o.cell (p:=⟨go,i2,none⟩) ⟨HQ.o.2.2.1,HQ.o.2.2.2.1,HQ.o.2.2.2.2⟩).trans cj),((G7.o.cell (p:=⟨be,oe+j*3,none⟩) HQ.o.1).trans c0),((G7.o.cell (p:=⟨be,oe+j*3+1,none⟩) HQ.o.1).trans c1),((G7.o.cell (p:=⟨be,oe+j*3+2,none⟩) HQ.o.1).trans c2')⟩ ?_
 refine pick_o 4 ((.slice (some ⟨go,0,none⟩) os'.length cpo)) ⟨A7.o.1.c1,((G7.o.cell (p:=⟨go,i2,none⟩) ⟨HQ.o.2.2.1,HQ.o.2.2.2.1,HQ.o.2.2.2.2⟩).trans cj),((G7.o.cell (p:=⟨be,oe+j*3,none⟩) HQ.o.1).trans c0),((G7.o.cell (p:=⟨be,oe+j*3+1,none⟩) HQ.o.1).trans c1),((G7.o.cell (p:=⟨be,oe+j*3+2,none⟩) HQ.o.1).trans c2')⟩ ?_
 refine pick_o 5 (.int .i64 (i2:Int)) ⟨A7.o.1.c1,((G7.o.cell (p:=⟨go,i2,none⟩) ⟨HQ.o.2.2.1,HQ.o.2.2.2.1,HQ.o.2.2.2.2⟩).trans cj),((G7.o.cell (p:=⟨be,oe+j*3,none⟩) HQ.o.1).trans c0),((G7.o.cell (p:=⟨be,oe+j*3+1,none⟩) HQ.o.1).trans c1),((G7.o.cell (p:=⟨be,oe+j*3+2,none⟩) HQ.o.1).trans c2')⟩ ?_
 refine pick_o (hy:=fun w' hw=>by simp[go_sem,hi20,hj]) 6 (.pointer (some ⟨go,i2,none⟩)) ⟨A7.o.1.c1,((G7.o.cell (p:=⟨go,i2,none⟩) ⟨HQ.o.2.2.1,HQ.o.2.2.2.1,HQ.o.2.2.2.2⟩).trans cj),((G7.o.cell (p:=⟨be,oe+j*3,none⟩) HQ.o.1).trans c0),((G7.o.cell (p:=⟨be,oe+j*3+1,none⟩) HQ.o.1).trans c1),((G7.o.cell (p:=⟨be,oe+j*3+2,none⟩) HQ.o.1).trans c2')⟩ ?_
 refine pick_o (hy:=fun w' hw=>by simp[go_sem,hw.2.1]) 7 (.int .i64 (j:Int)) ⟨A7.o.1.c1,((G7.o.cell (p:=⟨go,i2,none⟩) ⟨HQ.o.2.2.1,HQ.o.2.2.2.1,HQ.o.2.2.2.2⟩).trans cj),((G7.o.cell (p:=⟨be,oe+j*3,none⟩) HQ.o.1).trans c0),((G7.o.cell (p:=⟨be,oe+j*3+1,none⟩) HQ.o.1).trans c1),((G7.o.cell (p:=⟨be,oe+j*3+2,none⟩) HQ.o.1).trans c2')⟩ ?_
 refine pick_o (hy:=fun w' hw=>by simp[go_sem,hj0,hj1]) 8 (.pointer (some ⟨be,oe+j*3,none⟩)) ⟨A7.o.1.c1,((G7.o.cell (p:=⟨go,i2,none⟩) ⟨HQ.o.2.2.1,HQ.o.2.2.2.1,HQ.o.2.2.2.2⟩).trans cj),((G7.o.cell (p:=⟨be,oe+j*3,none⟩) HQ.o.1).trans c0),((G7.o.cell (p:=⟨be,oe+j*3+1,none⟩) HQ.o.1).trans c1),((G7.o.cell (p:=⟨be,oe+j*3+2,none⟩) HQ.o.1).trans c2')⟩ ?_
 refine pick_o (hy:=fun w' hw=>by simp[go_sem,hw.2.2.1,hw.2.2.2.1,hw.2.2.2.2]) 9 (.agg #[.string xn,.int .i64 xa,.int .i64 xr]) ⟨A7.o.1.c1,((G7.o.cell (p:=⟨go,i2,none⟩) ⟨HQ.o.2.2.1,HQ.o.2.2.2.1,HQ.o.2.2.2.2⟩).trans cj),((G7.o.cell (p:=⟨be,oe+j*3,none⟩) HQ.o.1).trans c0),((G7.o.cell (p:=⟨be,oe+j*3+1,none⟩) HQ.o.1).trans c1),((G7.o.cell (p:=⟨be,oe+j*3+2,none⟩) HQ.o.1).trans c2')⟩ ?_;have A8:=J (A7.o.alloc (.cells #[.string ⟨#[]⟩,.int .i64 0,.int .i64 0] 45));have G8:=J ((Grew.refl d X7).alloc (.cells #[.string ⟨#[]⟩,.int .i64 0,.int .i64 0] 45))
 refine z23 (i:=10) (v:=.pointer (some ⟨X7.heap.size,0,none⟩)) (w1:=X7.alloc (.cells #[.string ⟨#[]⟩,.int .i64 0,.int .i64 0] 45)) rfl yb rfl rfl yc ⟨A8.o.1.c1,(((G7.o.trans G8.o).cell (p:=⟨go,i2,none⟩) ⟨HQ.o.2.2.1,HQ.o.2.2.2.1,HQ.o.2.2.2.2⟩).trans cj),(((G7.o.trans G8.o).cell (p:=⟨be,oe+j*3,none⟩) HQ.o.1).trans c0),(((G7.o.trans G8.o).cell (p:=⟨be,oe+j*3+1,none⟩) HQ.o.1).trans c1),(((G7.o.trans G8.o).cell (p:=⟨be,oe+j*3+2,none⟩) HQ.o.1).trans c2')⟩ yd ?_;have EB:=J (boxW_heap X7 xn xa xr);have A9:=J (A7.o.below (boxW_below X7 xn xa xr))
 have G9:I (Grew d X7 (boxW X7 xn xa xr)):=Grew.of_below (boxW_below X7 xn xa xr);have HQ2:=J (Lc A7.o.1.ltB A7.o.1.ltG);refine pick_skip (i:=11) (w1:=boxW X7 xn xa xr) rfl rfl yb rfl rfl (by simp[go_sem,boxW]) ⟨A9.o.1.c1,(((G7.o.trans G9.o).cell (p:=⟨go,i2,none⟩) ⟨HQ.o.2.2.1,HQ.o.2.2.2.1,HQ.o.2.2.2.2⟩).trans cj),(((G7.o.trans G9.o).cell (p:=⟨be,oe+j*3,none⟩) HQ.o.1).trans c0),(((G7.o.trans G9.o).cell (p:=⟨be,oe+j*3+1,none⟩) HQ.o.1).trans c1),(((G7.o.trans G9.o).cell (p:=⟨be,oe+j*3+2,none⟩) HQ.o.1).trans c2')⟩ ?_;refine z34 yb ?_;obtain⟨bq,hbq⟩:∃q,X7.heap.size=q:=⟨_,rfl⟩
 revert A8 G8 EB A9 G9 HQ2 bq hbq;exact zk.o):p:=h ⟨k⟩
theorem zb1 (k:q) (h:Kz q->p:=by
 intro zk;have RB:=J ((ho nb NB.o).trans RB.o);have hyc:Y3.cell? ⟨nb,ma.toNat,none⟩=some (.string y):=(z8 RB.o ma.toNat).trans hy;refine⟨_,rfl,hyc,?_⟩;refine z15 yd ?_;have hw2:IntKind.i64.wrap ((k:Int)+mb)=(k:Int)+mb:=ye;refine pick_o (hy:=fun w' hw=>by simp[go_sem,hw2]) 13 (.int .i64 ((k:Int)+mb)) hyc ?_;have hs0:0<=(k:Int)+mb:=yf;have hs1:(k:Int)+mb<=(t.size:Int):=yf;refine pick_o (hy:=fun w' hw=>by simp[go_sem,hs0,hs1]) 14 (.string (t.extract ((k:Int)+mb).toNat t.size)) hyc ?_;clear hw2 hs0 hs1
 have hc2:min k t.size+y.size+(t.size-((k:Int)+mb).toNat)<=9223372036854775807:=yg;refine pick_o (hy:=fun w' hw=>by simp[go_sem,hc2]) 15 (.string (t.extract 0 k++y++t.extract ((k:Int)+mb).toNat t.size)) hyc ?_;refine pick_o 16 (.string (t.extract 0 k++y++t.extract ((k:Int)+mb).toNat t.size)) hyc ?_;have HTt:=J (show(t.extract 0 k++y++t.extract ((k:Int)+mb).toNat t.size).size<=40005 by rw[ByteArray.size_append,ByteArray.size_append];have:=cut_le t 0 k;have:=cut_le t ((k:Int)+mb).toNat t.size;have:=HTt.o;have:=HYs.o;omega);revert RB hyc hc2 HTt;exact zk.o):p:=h ⟨k⟩
theorem zb2 (k:q) (h:Kz q->p:=by
 intro zk;go_wp2_with fail
 refine(HR.o _).mono ?_;rintro e w2 ⟨rfl,hb⟩;obtain⟨eA,hbw⟩:=one_kept hb;clear hb;have a0:=z8 eA 0;have a1:=z8 eA 1;have a2:=z8 eA 2;have z0:=z11 eA 0;have z1:=z11 eA 1;have z2:=z11 eA 2;simp at a0 a1 a2;clear eA;go_wp2_with fail
 revert w2 hbw a0 a1 a2 z0 z1 z2;exact zk.o):p:=h ⟨k⟩
theorem zb3 (k:q) (h:Kz q->p:=by
 intro zk;have e1:s1.p=s.p:=by rw[<-hs1]
 have e2:s1.next=s.next:=by rw[<-hs1]
 have e3:s1.left=s.left-1:=by rw[<-hs1]
 have HFF:=J (of_fit hf e1 e2 e3);have HP:=J (fun(c:Nat) (e:Ending) (Y:World) (h:NodesPost d ve X s1 c e Y) (hc:c<=9\/(0<s.left/\c<=300))=>of_post hl.2 e1 e2 e3 h hc);have A0:=J (At.start hl.1);have HE:=J (hE.grew hl.2);have g2:=hl.1.c2;have g0:=hl.1.c0;rw[e3]at g2;obtain⟨L,hL⟩:∃L:Int,s.left-1=L:=⟨_,rfl⟩
 have HLe:=J hL;rw[hL]at g2;revert e1 e2 e3 HFF HP A0 HE g2 g0 L hL HLe;exact zk.o):p:=h ⟨k⟩
theorem zb4 (k:q) (h:Kz q->p:=by
 intro zk;have rz0:=z8 FZ.o.res 0;have rz1:=z8 FZ.o.res 1;have rz0':Z2.cell? ⟨rb,0,none⟩=some (.slice none 0 0):=rz0;have rz1':Z2.cell? ⟨rb,1,none⟩=some (.slice none 0 0):=rz1;obtain⟨fz0,fz1⟩:=ffz2 FZ.o.res;have qz0:=z8 FZ.o.box 0;have qz1:=z8 FZ.o.box 1;have qz0':Z2.cell? ⟨X2.heap.size+1,0,none⟩=some (.slice (some ⟨be,0,none⟩) es.length cpe):=qz0;have qz1':Z2.cell? ⟨X2.heap.size+1,1,none⟩=some (.slice (some ⟨bt,0,none⟩) n24.length cp24):=qz1;clear rz0 rz1 qz0 qz1;go_wp2_with fail
 have HFi:=J (FZ.o.stored (.slice (some ⟨be,0,none⟩) es.length cpe) (.slice (some ⟨bt,0,none⟩) n24.length cp24));revert rz0' rz1' fz0 fz1 qz0' qz1' HFi;exact zk.o):p:=h ⟨k⟩
theorem zb5 (k:q) (h:Kz q->p:=by
 intro zk;have c0:=hEr j hjl 0 yf;have c1:=hEr j hjl 1 yf;have c2:=hEr j hjl 2 yf;obtain⟨r1,r2,r3,r4,r5⟩:=HEf.o j hjl;have hnx:=effs_next hjl;obtain⟨⟨nm,ag,rs⟩,hee⟩:∃x,es.getD j default=x:=⟨_,rfl⟩
 rw[hee]at c0 c1 c2 r1 r2 r3 r4 r5 hnx;simp only[Ef.cell,Nat.add_zero,Nat.zero_add]at c0 c1 c2;dsimp only at r1 r2 r3 r4 r5;have HNx:=J hnx;have HRg:=J (Lc r2 (Lc r3 (Lc r4 r5)));have hj0:(0:Int)<=(j:Int):=yf;revert c0 c1 c2 r1 r2 r3 r4 r5 hnx nm ag rs hee HNx HRg hj0;exact zk.o):p:=h ⟨k⟩
theorem zb6 (k:q) (h:Kz q->p:=by
 intro zk;have g20:=z8 b2 0;have g21:=z8 b2 1;have g30:=z8 b3 0;have g31:=z8 b3 1;have g50:=z8 hy 0;have g51:=z8 hy 1;obtain⟨f20,f21⟩:=ffz2 b2;obtain⟨f30,f31⟩:=ffz2 b3;simp at g20 g21 g30 g31 g50 g51;have e1:W.heap.size≠g5:=yf;have e2:W.heap.size+1≠g5:=yf;revert g20 g21 g30 g31 g50 g51 f20 f21 f30 f31 e1 e2;exact zk.o):p:=h ⟨k⟩
theorem zb7 (k:q) (h:Kz q->p:=by
 intro zk;have SP:=J hSP;have SP0:=J hSP;have NA:=J hN;have HFr:=J hFr;have HM:=J hmr;have HG:=J hgr;have HC:=J (HA.o g yf);have ON:=J (Lc hon hlen);have G:=J (show sr.at_+0<=sr.at_/\sr.at_<=ws.length from⟨La,hSP.1.lt⟩);have LA:=J (show acc.length<=20000 by have h1:=hSP.1.few;have h2:=hSP.1.lt;omega);revert SP SP0 NA HFr HM HG HC ON G LA;exact zk.o):p:=h ⟨k⟩
theorem zb8 (k:q) (h:Kz q->p:=by
 intro zk;obtain⟨Y,HY,R⟩:=P.start ek;obtain⟨⟨c0,c1,c2,c3,c4,c5⟩,hp0,hpl,na,nb⟩:=P.cells ek;have hc:=z19 P.hs.toGood ek (c:=3) rfl;have HP:=P.first yf;obtain⟨T0,HT0,hl0,K0⟩:=R.o.kid (cap:=cap) ih 0 0 yf yf;obtain⟨T1,HT1,hl1,K1⟩:=R.o.kid (cap:=cap) ih 1 0 yf yf;have D1:=R.o.place (cap:=cap) 1 yf;obtain⟨T2,HT2,hl2,K2⟩:=R.o.kid (cap:=cap) ih 2 0 yf yf;have D2:=R.o.place (cap:=cap) 2 yf;have B0:=J (Below.refl Y.heap.size Y);clear hc;revert Y HY R c0 c1 c2 c3 c4 c5 hp0 hpl na nb HP T0 HT0 hl0 K0 T1 HT1 hl1 K1 D1 T2 HT2 hl2 K2 D2 B0;exact zk.o):p:=h ⟨k⟩
theorem zb9 (k:q) (h:Kz q->p:=by
 intro zk;refine HK.o.mono ?_;rintro e X1 ⟨v1,n1,s1,t1,rfl,hn1,hl1,ha1,hg1⟩;have A1:=J ha1;have N1:=J (Lc hn1 hl1);have G1:=J hg1;obtain⟨ad1,cp1,rfl⟩:=hn1.is;obtain⟨l1,hl1e⟩:∃l,n1.length=l:=⟨_,rfl⟩
 have HL1:=J hl1e;rw[hl1e]at N1 |-;clear hn1 hl1 ha1 hg1 hl1e;try revert HL1
 try revert l1
 try revert cp1
 try revert ad1
 try revert G1
 try revert N1
 try revert A1
 try revert t1
 try revert s1
 try revert n1
 try revert v1
 try revert X1
 exact zk.o):p:=h ⟨k⟩
theorem zb10 (k:q) (h:Kz q->p:=by
 intro zk;refine z16 (i:=11) (f:=37) (args:= #[.pointer (some ⟨d.B,0,none⟩),.int .i64 6]) rfl yb rfl rfl yc ?_;refine(A22.o.pick HF.o yf 6 yh).mono ?_;rintro e X23 ⟨m23,s23,rfl,hm23,hM23,ha,(G23:I _)⟩;have A23:=J ha;clear ha;refine⟨_,rfl,(A23.o.1.c1),?_⟩;refine z15 yd ?_;have hwr23:IntKind.i64.wrap (4+m23)=4+m23:=yi;refine pick_o (hy:=fun w' hw=>by simp[go_sem,hwr23]) 12 (.int .i64 (4+m23)) (A23.o.1.c1) ?_;clear hwr23;revert X23 m23 s23 hm23 hM23 G23 A23;exact zk.o):p:=h ⟨k⟩
theorem zb11 (k:q) (h:Kz q->p:=by
 intro zk;refine(HR.o _).mono ?_;rintro e w2 ⟨rfl,hb⟩;obtain⟨eA,hbw⟩:=one_kept hb;clear hb;have a0:=z8 eA 0;have a1:=z8 eA 1;have a2:=z8 eA 2;have z0:=z11 eA 0;have z1:=z11 eA 1;have z2:=z11 eA 2;revert w2 eA hbw a0 a1 a2 z0 z1 z2;exact zk.o):p:=h ⟨k⟩
theorem zb12 (k:q) (h:Kz q->p:=by
 intro zk;have sz:=HB.o.gr.size;have OA:=J (OA.o.alloc (.cells fourV 9));have RC:=J (Ld X (.cells fourV 9)).1;have HQc:=J sz;have HB:=J (bx_low HB.o bl);clear sz;refine Or.inl ⟨_,.slice (some ⟨X.heap.size,0,none⟩) 4 4,X.alloc (.cells fourV 9),rfl,rfl,yj,trivial,?_⟩;refine z15 yd ?_;obtain⟨qc,hq⟩:∃q,X.heap.size=q:=⟨_,rfl⟩
 revert OA RC HQc HB qc hq;exact zk.o):p:=h ⟨k⟩
theorem zb13 (k:q) (h:Kz q->p:=by
 intro zk;obtain⟨Y,HY,R⟩:=P.start ek;obtain⟨⟨c0,c1,c2,c3,c4,c5⟩,hp0,hpl,na,nb⟩:=P.cells ek;have hc:=z19 P.hs.toGood ek (c:=2) rfl;have HP:=P.first yf;obtain⟨T0,HT0,hl0,K0⟩:=R.o.kid (cap:=cap) ih 0 0 yf yf;obtain⟨T1,HT1,hl1,K1⟩:=R.o.kid (cap:=cap) ih 1 0 yf yf;have D1:=R.o.place (cap:=cap) 1 yf;have B0:=J (Below.refl Y.heap.size Y);clear hc;revert Y HY R c0 c1 c2 c3 c4 c5 hp0 hpl na nb HP T0 HT0 hl0 K0 T1 HT1 hl1 K1 D1 B0;exact zk.o):p:=h ⟨k⟩
theorem zb14 (k:q) (h:Kz q->p:=by
 intro zk;go_wp2_with fail
 refine(HP.o _ yk (HEx.o.below (Lb.alloc La _) hbeR)).mono ?_;rintro e w6 ⟨rfl,hb6⟩;have hx6:=(hbx.alloc hszx _).trans (hb6.mono yk);have kp6:=(hb6.block w.heap.size yk).trans ((Below.heap_alloc _ _ _ hAlt).trans kp);clear hb6;go_wp2_with fail
 have hs:ln-(intOf (.int .i64 ((k+1:Nat):Int))).toNat<ln-(intOf (.int .i64 (k:Int))).toNat:=yl;try rw[show wrap64 ((k:Int)+1)=((k+1:Nat):Int) by have:=HM.o;unfold wrap64;omega]
 revert w6 hx6 kp6 hs;exact zk.o):p:=h ⟨k⟩
theorem zb15 (k:q) (h:Kz q->p:=by
 intro zk;refine⟨_,rfl,(A24.o.1.c1),?_⟩;refine z15 yd ?_;refine pick_o 14 (.pointer (some ⟨X2.heap.size+1,1,none⟩)) (A24.o.1.c1) ?_;have BP2:=J (((G1.o.trans (G21.o.trans (G22.o.trans (G23.o.trans G24.o)))).block _ HQp.o).trans BP.o);have cb0:=z8 BP2.o 1;have fb0:=z11 BP2.o 1;have cb1:X24.cell? ⟨X2.heap.size+1,1,none⟩=some (.slice none 0 0):=cb0;have CG:=A24.o.1.c1;revert BP2 cb0 fb0 cb1 CG;exact zk.o):p:=h ⟨k⟩
theorem zb16 (k:q) (h:Kz q->p:=by
 intro zk;have cz0:=z8 FIN.o.box 0;have cz1:=z8 FIN.o.box 1;have cz0':Z.cell? ⟨X2.heap.size+1,0,none⟩=some (.slice ade es.length cpe):=cz0;have cz1':Z.cell? ⟨X2.heap.size+1,1,none⟩=some (.slice ad24 n24.length cp24):=cz1;clear cz0 cz1;obtain⟨R,hR,-⟩:=answers n24;have hcap:es.length<=cpe:=by rcases FIN.o.effs.1 with ⟨h,h0⟩|⟨_,_,_,h,h0,-⟩;have:=E1.o.2.1;omega;cases h;exact h0
 obtain⟨be,ce,bt,ct,heE,heT,hbe,hbt,hEA,hNA,hl5⟩:=FIN.o.lies;revert cz0' cz1' R hR hcap be ce bt ct heE heT hbe hbt hEA hNA hl5;exact zk.o):p:=h ⟨k⟩
theorem zb17 (k:q) (h:Kz q->p:=by
 intro zk;obtain⟨q0,q1,q2,q3,q4,q5⟩:=fsx hcl;obtain⟨hrf,hrc,cur,hcur⟩:=row_fz HS7.o.row;have z0:=hrf (k*6+0);have z1:=hrf (k*6+1);have z2:=hrf (k*6+2);have z3:=hrf (k*6+3);have z4:=hrf (k*6+4);have z5:=hrf (k*6+5);revert q0 q1 q2 q3 q4 q5 hrf hrc cur hcur z0 z1 z2 z3 z4 z5;exact zk.o):p:=h ⟨k⟩
theorem zb18 (k:q) (h:Kz q->p:=by
 intro zk;have c0:=z8 PB.o 0;have c1:=z8 PB.o 1;have g20:=z8 K2.o 0;have g21:=z8 K2.o 1;have g30:=z8 K3.o 0;have g31:=z8 K3.o 1;obtain⟨f20,f21⟩:=ffz2 K2.o;obtain⟨f30,f31⟩:=ffz2 K3.o;revert c0 c1 g20 g21 g30 g31 f20 f21 f30 f31;exact zk.o):p:=h ⟨k⟩
theorem zb19 (k:q) (h:Kz q->p:=by
 intro zk;have sz:=HB.o.gr.size;have RC:=J (Ld X (.cells fourV 9)).1;have HQc:=J sz;have HB:=J (bx_low HB.o bl);clear sz;refine Or.inl ⟨_,.slice (some ⟨X.heap.size,0,none⟩) 4 4,X.alloc (.cells fourV 9),rfl,rfl,yj,trivial,?_⟩;refine z15 yd ?_;obtain⟨qc,hq⟩:∃q,X.heap.size=q:=⟨_,rfl⟩
 revert RC HQc HB qc hq;exact zk.o):p:=h ⟨k⟩
theorem zb20 (k:q) (h:Kz q->p:=by
 intro zk;rw[hR];have HR:=J hR;have S:=J (St.start h);have H:=J (Lc hw (Lc ho hc));have M:=J hm;have G:=J (show i+0<=i from La);revert HR S H M G;exact zk.o):p:=h ⟨k⟩
theorem zb21 (k:q) (h:Kz q->p:=by
 intro zk;refine pick_o (hy:=fun w' hw=>by simp[go_sem,hma0,hma1]) 6 (.pointer (some ⟨nb,ma.toNat,none⟩)) trivial ?_;refine z43 (fun w=>w.cell? ⟨nb,ma.toNat,none⟩=some (.string y)) (fun w _=>trivial) ?_;have hyc:Y2.cell? ⟨nb,ma.toNat,none⟩=some (.string y):=(z8 RB.o ma.toNat).trans hy;refine pick_o (hy:=fun w' hw=>ym) 7 (.string y) hyc ?_;have hc1:min k t.size+y.size<=9223372036854775807:=yg;refine pick_o (hy:=fun w' hw=>by simp[go_sem,hc1]) 8 (.string (t.extract 0 k++y)) hyc ?_;clear hc1;revert hyc;exact zk.o):p:=h ⟨k⟩
theorem zb22 (k:q) (h:Kz q->p:=by
 intro zk;refine z16 (i:=20) (f:=67) (args:= #[.agg #[.int .i64 kv,.int .i64 0,.string ⟨#[]⟩,.string ⟨#[]⟩,.string ⟨#[]⟩,.int .i64 0],.slice (some ⟨X6.heap.size,0,none⟩) 2 2]) rfl yb rfl rfl yc ?_;refine(A8.o.put_kids kv 0 0 ⟨#[]⟩ ⟨#[]⟩ ⟨#[]⟩ KV.o ⟨z13,z13,z13⟩ yn yo).mono ?_;rintro e X10 ⟨v10,n10,rfl,hn10,hl10,ha,(G10:I _)⟩;have A10:=J ha;clear ha;have N10:=J (Lc hn10 hl10);clear hn10 hl10;revert X10 v10 n10 G10 A10 N10;exact zk.o):p:=h ⟨k⟩
theorem zb23 (k:q) (h:Kz q->p:=by
 intro zk;refine z16 (i:=22) (f:=67) (args:= #[.agg #[.int .i64 kv,.int .i64 0,.string ⟨#[]⟩,.string ⟨#[]⟩,.string ⟨#[]⟩,.int .i64 0],.slice (some ⟨X7.heap.size,0,none⟩) 2 2]) rfl yb rfl rfl yc ?_;refine(A9.o.put_kids kv 0 0 ⟨#[]⟩ ⟨#[]⟩ ⟨#[]⟩ KV.o ⟨z13,z13,z13⟩ yn (by have:=A9.o.bound HF.o yf yh;have:=N5.o.2;have:=N7.o.2;simp[flatL];omega)).mono ?_;rintro e X11 ⟨v11,n11,rfl,hn11,hl11,ha,(G11:I _)⟩;have A11:=J ha;clear ha;have N11:=J (Lc hn11 hl11);clear hn11 hl11;revert X11 v11 n11 G11 A11 N11;exact zk.o):p:=h ⟨k⟩
theorem zb24 (k:q) (h:Kz q->p:=by
 intro zk;unfold wpOp;rw[ho'];dsimp only;rw[if_pos hw];refine Or.inl ?_;unfold Oper.wp;rw[hrun];exact zk.o):p:=h ⟨k⟩
theorem zb25 (k:q) (h:Kz q->p:=by
 intro zk;have HQ:=J (Lc hqe (Lc hbr (Lc hgl (Lc (show go≠d.B by have:=H0.o.ltB;omega) (show go≠d.G by have:=H0.o.ltG;omega)))));have HE:=HEr;have hj0:(0:Int)<=(j:Int):=yf;have hj1:(j:Int)<(es.length:Int):=yf;have hi20:(0:Int)<=(i2:Int):=yf;have hstep:os'.length-(intOf (.int .i64 ((i2+1:Nat):Int))).toNat<os'.length-(intOf (.int .i64 (i2:Int))).toNat:=z47 hj;revert HQ HE hj0 hj1 hi20 hstep;exact zk.o):p:=h ⟨k⟩
theorem zb26 (k:q) (h:Kz q->p:=by
 intro zk;have SP:=J (StepP.start h);have HC:=J (ha f La);have HA:=J ha;have HM:=J hm;have BW:=J hw;have G:=J (show s.at_+0<=s.at_/\s.at_<=ws.length from⟨La,h.lt⟩);revert SP HC HA HM BW G;exact zk.o):p:=h ⟨k⟩
theorem zb27 (k:q) (h:Kz q->p:=by
 intro zk;refine(A10.o.name HF.o yf).mono ?_;rintro e X11 ⟨x11,s11,rfl,hb11,ha,(G11:I _)⟩;have A11:=J ha;clear ha;have B11:=J hb11;clear hb11;have ec:=(((G10.o.trans G11.o)).cell (p:=⟨bq,1,none⟩) ⟨z12 EB.o,(show bq≠d.B by have:=HQ2.o.1;omega),(show bq≠d.G by have:=HQ2.o.2;omega)⟩).trans (z8 EB.o 1);revert X11 x11 s11 G11 A11 B11 ec;exact zk.o):p:=h ⟨k⟩
theorem zb28 (k:q) (h:Kz q->p:=by
 intro zk;have a0:=z8 eA 0;have a1:=z8 eA 1;have a2:=z8 eA 2;have z0:=z11 eA 0;have z1:=z11 eA 1;have z2:=z11 eA 2;revert a0 a1 a2 z0 z1 z2;exact zk.o):p:=h ⟨k⟩
theorem zb29 (k:q) (h:Kz q->p:=by
 intro zk;have sz:=HB.o.gr.size;have OA:=J (effs_made (X:=X) (B:=W.heap.size) sz);have HB:=J (bx_low HB.o bl);clear sz;refine Or.inl ⟨_,.slice (some ⟨X.heap.size,0,none⟩) 0 0,X.alloc (.cells #[] 45),rfl,rfl,yc,trivial,?_⟩;refine z15 yd ?_;obtain⟨qa,hq⟩:∃q,X.heap.size=q:=⟨_,rfl⟩
 revert OA HB qa hq;exact zk.o):p:=h ⟨k⟩
theorem zb30 (k:q) (h:Kz q->p:=by
 intro zk;refine(go_ev (HC.o.atom sr X40 SP.o.1 yp) BW.o trivial SP.o).mono ?_;rintro e X41 ⟨va41,vc41,l41,s41,rfl,N41,SP,Q41,S41,L41,GR⟩;have T41:=J (show sr.at_+1<=s41.at_/\l41.length+1<=3*(s41.at_-sr.at_) by have h1:=atom_goes (ws:=ws) BW.o (f:=g) (by have h2:=HM.o;simp only[ms,lvN]at h2;omega) SP0.o.1.lt HST.o;rw[Q41.o]at h1;exact h1);have G1:=T41;have NA:=J (NA.o.grew GR.o);have G:=J (show sr.at_+0<=s41.at_/\s41.at_<=ws.length by have h1:=G.o;have h2:=S41.o.on;have h3:=S41.o.lt;dsimp only at h2 h3;omega);revert X41 va41 vc41 l41 s41 N41 SP Q41 S41 L41 GR T41 G1 NA G
 exact zk.o):p:=h ⟨k⟩
theorem zb31 (k:q) (h:Kz q->p:=by
 intro zk;unfold readZ;rw[HLx.o];dsimp only;rw[if_neg yn];rw[HI.o];dsimp only;exact zk.o):p:=h ⟨k⟩
theorem zb32 (k:q) (h:Kz q->p:=by
 intro zk;refine(A2.o.name HF.o yf).mono ?_;rintro e X3 ⟨x3,s3,rfl,hb3,ha,(G3:I _)⟩;have A3:=J ha;clear ha;have B3:=J hb3;clear hb3;revert X3 x3 s3 G3 A3 B3;exact zk.o):p:=h ⟨k⟩
theorem zb33 (k:q) (h:Kz q->p:=by
 intro zk;have M:=J hm;have HG:=J hg;have HP:=J (rd_pos hS.rd);have H:=J (Lc H.o.1 (Lc H.o.2.1 (HA.o g yf)));have G:=J (show k+0<=k from La);revert M HG HP H G;exact zk.o):p:=h ⟨k⟩
theorem zb34 (k:q) (h:Kz q->p:=by
 intro zk;have S:=J (St.start h);have H:=J (Lc hw (Lc ho (ha f (Nat.le_refl f))));have M:=J hm;have G:=J (show i+0<=i from La);have HA:=J ha;revert S H M G HA;exact zk.o):p:=h ⟨k⟩
theorem zb35 (k:q) (h:Kz q->p:=by
 intro zk;have SP:=J (StepP.start h);have HC:=J hc;have HM:=J hm;have BW:=J hw;have G:=J (show s.at_+0<=s.at_/\s.at_<=ws.length from⟨La,h.lt⟩);revert SP HC HM BW G;exact zk.o):p:=h ⟨k⟩
theorem zb36 (k:q) (h:Kz q->p:=by
 intro zk;refine(z31 HSd.o.rd yq 3 yr).mono ?_;rintro e X4 ⟨m20,rfl,hm20,hM20,hr,hg,-,ho⟩;have HS5:=J (HSd.o.pick hr hg ho);have NB5:=J ((ho nb (by have:=HNb.o;have:=HSd.o.lo;omega)).trans NBd.o);clear hr hg ho;have a5:X4.cell? ⟨nb,5,none⟩=some (.int .i64 kc):=z8 NB5.o 5;revert X4 m20 hm20 hM20 HS5 NB5 a5;exact zk.o):p:=h ⟨k⟩
theorem zb37 (k:q) (h:Kz q->p:=by
 intro zk;have hA5:=(Ld wr (.cells #[.string nm,.int .i64 ag,.int .i64 rs] 45)).1;have hB5:=(Below.refl wr.heap.size wr).alloc La (.cells #[.string nm,.int .i64 ag,.int .i64 rs] 45);obtain⟨V,hV⟩:∃V,wr.alloc (.cells #[.string nm,.int .i64 ag,.int .i64 rs] 45)=V:=⟨_,rfl⟩
 rw[hV]at hA5 hB5;have HV:=J hV;have HA5:=J hA5;revert hA5 hB5 V hV HV HA5;exact zk.o):p:=h ⟨k⟩
theorem zb38 (k:q) (h:Kz q->p:=by
 intro zk;go_wp2_with fail
 refine(HP.o _ yk (HEx.o.below (Lb.alloc La _) hbeR)).mono ?_;rintro e w6 ⟨rfl,hb6⟩;have hx6:=(hbx.alloc hszx _).trans (hb6.mono yk);clear hb6;go_wp2_with fail
 revert w6 hx6;exact zk.o):p:=h ⟨k⟩
theorem zb39 (k:q) (h:Kz q->p:=by
 intro zk;refine(z66 SP.o.1 7 0 0 ⟨#[]⟩ ⟨#[]⟩ ⟨#[]⟩ NA.o N41.o ⟨z17,z17,z17⟩ ⟨LA.o,L41.o⟩).mono ?_;rintro e X42 ⟨v42,rfl,hn42,hb42⟩;have SP:=J (SP.o.below hb42);have N42:=J hn42;clear hb42 hn42;revert X42 v42 SP N42;exact zk.o):p:=h ⟨k⟩
theorem zb40 (k:q) (h:Kz q->p:=by
 intro zk;refine(A1.o.pick HF.o yf 3 yh).mono ?_;rintro e X2 ⟨m2,s2,rfl,hm2,hM2,ha,(G2:I _)⟩;have A2:=J ha;clear ha;revert X2 m2 s2 hm2 hM2 G2 A2;exact zk.o):p:=h ⟨k⟩
theorem zb41 (k:q) (h:Kz q->p:=by
 intro zk;refine⟨_,rfl,⟨A6.o.1.c0,cq7⟩,?_⟩;refine z15 yd ?_;have KV:I (KidsV d (X6.alloc (.cells #[.slice ad4 n4.length cp4,.slice ad6 n6.length cp6] 24)) (.slice (some ⟨X6.heap.size,0,none⟩) 2 2) [(.slice ad4 n4.length cp4,n4),(.slice ad6 n6.length cp6,n6)]):=(kids_lit [(.slice ad4 n4.length cp4,n4),(.slice ad6 n6.length cp6,n6)] _ rfl A6.o.1.ltB A6.o.1.ltG (fun x hx=>by simp at hx;rcases hx with rfl|rfl;exact(N4.o.1.grew G6.o);exact N6.o.1))
 have A8:=J (A6.o.alloc (.cells #[.slice ad4 n4.length cp4,.slice ad6 n6.length cp6] 24));have G8:=J ((Grew.refl d X6).alloc (.cells #[.slice ad4 n4.length cp4,.slice ad6 n6.length cp6] 24));revert KV A8 G8;exact zk.o):p:=h ⟨k⟩
theorem zb42 (k:q) (h:Kz q->p:=by
 intro zk;refine⟨_,rfl,⟨A7.o.1.c0,cq8⟩,?_⟩;refine z15 yd ?_;have KV:I (KidsV d (X7.alloc (.cells #[.slice ad5 n5.length cp5,.slice ad7 n7.length cp7] 24)) (.slice (some ⟨X7.heap.size,0,none⟩) 2 2) [(.slice ad5 n5.length cp5,n5),(.slice ad7 n7.length cp7,n7)]):=(kids_lit [(.slice ad5 n5.length cp5,n5),(.slice ad7 n7.length cp7,n7)] _ rfl A7.o.1.ltB A7.o.1.ltG (fun x hx=>by simp at hx;rcases hx with rfl|rfl;exact(N5.o.1.grew G7.o);exact N7.o.1))
 have A9:=J (A7.o.alloc (.cells #[.slice ad5 n5.length cp5,.slice ad7 n7.length cp7] 24));have G9:=J ((Grew.refl d X7).alloc (.cells #[.slice ad5 n5.length cp5,.slice ad7 n7.length cp7] 24));revert KV A9 G9;exact zk.o):p:=h ⟨k⟩
theorem zb43 (k:q) (h:Kz q->p:=by
 intro zk;refine(starts_calls sr wr SP.o.1).mono ?_;rintro e X40 ⟨rfl,hb40⟩;have SP:=J (SP.o.below hb40);have NA:=J (NA.o.grew (Grew.of_below hb40));clear hb40;revert X40 SP NA;exact zk.o):p:=h ⟨k⟩
theorem zb44 (k:q) (h:Kz q->p:=by
 intro zk;obtain⟨Y,HY,R⟩:=P.start ek;obtain⟨⟨c0,c1,c2,c3,c4,c5⟩,hp0,hpl,na,nb⟩:=P.cells ek;have HP:=P.next;have B0:=J (Below.refl Y.heap.size Y);revert Y HY R c0 c1 c2 c3 c4 c5 hp0 hpl na nb HP B0;exact zk.o):p:=h ⟨k⟩
theorem zb45 (k:q) (h:Kz q->p:=by
 intro zk;have S6:=six_other Y7 q k ⟨kd,nm,sa,sb,sc,kc'⟩;have B6:=J (HS7.o.bx.other H0.o.1 (nb:=q) S6.1 S6.2 (six_os _ _ _ _) HQ.o.1 hqb hqr);have N6:=J (six_row (k:=k) HS7.o.row yf ⟨kd,nm,sa,sb,sc,kc'⟩ d ⟨yt,yu,yv⟩ hrc HS7.o.sml HBm.o);clear S6;obtain⟨Y6,hY6⟩:∃Y6,six Y7 q k ⟨kd,nm,sa,sb,sc,kc'⟩=Y6:=⟨_,rfl⟩
 revert B6 N6 Y6 hY6;exact zk.o):p:=h ⟨k⟩
theorem zb46 (k:q) (h:Kz q->p:=by
 intro zk;refine(K0.o Y B0.o).mono ?_;rintro e X1 ⟨rfl,hb⟩;have B1:=J (B0.o.trans (hb.mono B0.o.size));clear hb;obtain⟨e0,e1,e2,e3,e4,e5⟩:=R.o.at B1.o;revert X1 B1 e0 e1 e2 e3 e4 e5;exact zk.o):p:=h ⟨k⟩
theorem zb47 (k:q) (h:Kz q->p:=by
 intro zk;rintro e X2 ⟨x2,s2,rfl,hb2,ha,(G2:I _)⟩;have A2:=J ha;clear ha;have B2:=J hb2;clear hb2;revert X2 x2 s2 G2 A2 B2;exact zk.o):p:=h ⟨k⟩
theorem zb48 (k:q) (h:Kz q->p:=by
 intro zk;obtain⟨kv,hkv⟩:=two_get 14 15 m2 hm2 hM2;have cq:=(z8 RB.o m2.toNat).trans hkv;have RBn:=J RB.o;clear hkv;revert kv cq RBn;exact zk.o):p:=h ⟨k⟩
theorem zb49 (k:q) (h:Kz q->p:=by
 intro zk;obtain⟨kv,hkv⟩:=two_get 11 12 m3 hm3 hM3;have cq:=(z8 RB.o m3.toNat).trans hkv;have RBn:=J RB.o;clear hkv;revert kv cq RBn;exact zk.o):p:=h ⟨k⟩
theorem zb50 (k:q) (h:Kz q->p:=by
 intro zk;have B1:=J (B0.o.trans (hb.mono B0.o.size));refine z30 (S:=fun w'=> w'.cell? ⟨W.heap.size,2,none⟩=some (.string t.n.a)) yb rfl rfl ?_;rw[hX1];revert B1;exact zk.o):p:=h ⟨k⟩
theorem zb51 (k:q) (h:Kz q->p:=by
 intro zk;refine go_i H.o.1 H.o.2.1 NtR.expr trivial (H.o.2.2.expr _ _ S.o.rd yw) S.o HR.o G.o (fun _ _ h=>⟨rfl,h⟩) ?_;intro t9 i9 T9 p9 X9 S HR G;have b0:=z8 S.o.box 0;have b1:=z8 S.o.box 1;have b2:=z8 S.o.box 2;revert t9 i9 T9 p9 X9 S HR G b0 b1 b2;exact zk.o):p:=h ⟨k⟩
theorem zb52 (k:q) (h:Kz q->p:=by
 intro zk;refine(K1.o X1 B1.o).mono ?_;rintro e X2 ⟨rfl,hb⟩;have B2:=J (B1.o.trans (hb.mono B1.o.size));clear hb;obtain⟨e0,e1,e2,e3,e4,e5⟩:=R.o.at B2.o;revert X2 B2 e0 e1 e2 e3 e4 e5;exact zk.o):p:=h ⟨k⟩
theorem zb53 (k:q) (h:Kz q->p:=by
 intro zk;refine⟨_,rfl,⟨A10.o.1.c0,cq11⟩,?_⟩;refine z15 yd ?_;refine pick_o 21 v10 ⟨A10.o.1.c0,cq11⟩ ?_;refine z34 yb ?_;go_wp2_with fail
 exact zk.o):p:=h ⟨k⟩
theorem zb54 (k:q) (h:Kz q->p:=by
 intro zk;refine⟨_,rfl,⟨A11.o.1.c0,cq12⟩,?_⟩;refine z15 yd ?_;refine pick_o 23 v11 ⟨A11.o.1.c0,cq12⟩ ?_;refine z34 yb ?_;go_wp2_with fail
 exact zk.o):p:=h ⟨k⟩
theorem zb55 (k:q) (h:Kz q->p:=by
 intro zk;refine z16 (i:=6) (f:=22) (args:= #[.slice (some ⟨b,off,none⟩) ns.length cap,.int .i64 ((t.kid 0).at_:Int),.int .i64 0]) rfl yb rfl rfl yc ?_;refine(K0.o X1 B1.o).mono ?_;rintro e X2 ⟨rfl,hb⟩;have B2:=J (B1.o.trans (hb.mono B1.o.size));clear hb;revert X2 B2;exact zk.o):p:=h ⟨k⟩
theorem zb56 (k:q) (h:Kz q->p:=by
 intro zk;obtain⟨t0,ht0⟩:∃t,tx (T0)=t:=⟨_,rfl⟩
 have hts0:t0.size<=18002:=by rw[<-ht0,z32];omega
 have HT0:=J ht0;have HK0:=J (show ∀X,Below w.heap.size w X->Calls prog g0 #[r0] X fun e X'=> e=.returned (.string t0)/\Below X.heap.size X X' from fun X hX=>by rw[<-HT0.o];exact hK0 X (hw.trans (hX.mono hw.size)));revert t0 ht0 hts0 HT0 HK0;exact zk.o):p:=h ⟨k⟩
theorem zb57 (k:q) (h:Kz q->p:=by
 intro zk;obtain⟨t1,ht1⟩:∃t,tx (T1)=t:=⟨_,rfl⟩
 have hts1:t1.size<=18002:=by rw[<-ht1,z32];omega
 have HT1:=J ht1;have HK1:=J (show ∀X,Below w.heap.size w X->Calls prog g1 #[r1] X fun e X'=> e=.returned (.string t1)/\Below X.heap.size X X' from fun X hX=>by rw[<-HT1.o];exact hK1 X (hw.trans (hX.mono hw.size)));revert t1 ht1 hts1 HT1 HK1;exact zk.o):p:=h ⟨k⟩
theorem zb58 (k:q) (h:Kz q->p:=by
 intro zk;have OA:=J (g_grew OA.o HB.o.lo.1 yx hg);have RC:=J ((hg.block qc ⟨z12 RC.o,by have:=HQc.o;have:=HB.o.lo;omega,by rw[H0.o.2.2];have:=HQc.o;have:=HB.o.lo;omega⟩).trans RC.o);have HB:=J (bx_pick HB.o hr hg H0.o.2.2);revert OA RC HB;exact zk.o):p:=h ⟨k⟩
theorem zb59 (k:q) (h:Kz q->p:=by
 intro zk;refine full6 hw yy yz ?_;rw[hT];intro i rest hX hs;simp only[List.cons_append,List.nil_append]at hX;revert i rest hX hs;exact zk.o):p:=h ⟨k⟩
theorem zb60 (k:q) (h:Kz q->p:=by
 intro zk;obtain⟨t0,hq0⟩:∃t,tx (inT l0 6 T0)=t:=⟨_,rfl⟩
 have hts0:t0.size<=18002:=by rw[<-hq0,z32];have:=inT_len l0 6 T0;omega
 have HT0:=J hq0;have HW:I (∀(L:Int) (v:Value) (t:ByteArray),((L=6/\v=.iface Ty0 pv0/\t=t0))-> ∀X,Below w.heap.size w X->Calls prog 222 #[.int .i64 L,v] X fun e X'=> e=.returned (.string t)/\Below X.heap.size X X'):=by
  intro L v t h X hX;rcases h with ⟨rfl,rfl,rfl⟩
  .rw[<-HT0.o];exact hW0 X hX
 revert t0 hq0 hts0 HT0 HW;exact zk.o):p:=h ⟨k⟩
theorem zb61 (k:q) (h:Kz q->p:=by
 intro zk;refine(A2.o.pick HF.o yf 2 yh).mono ?_;rintro e X3 ⟨m3,s3,rfl,hm3,hM3,ha,(G3:I _)⟩;have A3:=J ha;clear ha;revert X3 m3 s3 hm3 hM3 G3 A3;exact zk.o):p:=h ⟨k⟩
theorem zb62 (k:q) (h:Kz q->p:=by
 intro zk;refine HLF.o.mono ?_;rintro e Xl ⟨vl,nl,sl,tl,rfl,hnl,hll,hgl,hgrl,hspl⟩;have NL:=J (Lc hnl (Lc hll (Lc hgl (Lc hgrl hspl))));clear hnl hll hgl hgrl hspl;revert Xl vl nl sl tl NL;exact zk.o):p:=h ⟨k⟩
theorem zb63 (k:q) (h:Kz q->p:=by
 intro zk;have H1:I (ns.drop (p+1)=k.flat++suf):=hp1;have Hk:I k.wf:=hk;obtain⟨len,hlen⟩:∃len,ns.length=len:=⟨_,rfl⟩
 have Hlen:I (ns.length=len):=hlen;revert H1 Hk len hlen Hlen;exact zk.o):p:=h ⟨k⟩
theorem zb64 (k:q) (h:Kz q->p:=by
 intro zk;obtain⟨t2,ht2⟩:∃t,tx (T2)=t:=⟨_,rfl⟩
 have hts2:t2.size<=18002:=by rw[<-ht2,z32];omega
 have HT2:=J ht2;have HK2:=J (show ∀X,Below w.heap.size w X->Calls prog g2 #[r2] X fun e X'=> e=.returned (.string t2)/\Below X.heap.size X X' from fun X hX=>by rw[<-HT2.o];exact hK2 X (hw.trans (hX.mono hw.size)));revert t2 ht2 hts2 HT2 HK2;exact zk.o):p:=h ⟨k⟩
theorem zb65 (k:q) (h:Kz q->p:=by
 intro zk;have hh:=(Ld X (.cells (ls.map Prod.fst).toArray 24)).1;refine⟨Or.inr ⟨_,0,_,rfl,La,rfl,⟨z12 hh,yf,yf⟩,fun i hi=>?_⟩,fun x hx=>(h x hx).grew (Grew.of_below (Lb.alloc La _))⟩;rw[Nat.zero_add,z8 hh i,List.getElem?_toArray];rw[Nat.mul_one]at hi;revert hh i hi;exact zk.o):p:=h ⟨k⟩
theorem zb66 (k:q) (h:Kz q->p:=by
 intro zk;refine go_i H.o.1 H.o.2.1 NtR.expr trivial (H.o.2.2.expr _ _ S.o.rd yw) S.o HR.o G.o (fun _ _ h=>⟨rfl,h⟩) ?_;intro t4 i4 T4 p4 X4 S HR G;have b:=z8 S.o.box 1;have z:=z11 S.o.box 1;revert t4 i4 T4 p4 X4 S HR G b z;exact zk.o):p:=h ⟨k⟩
theorem zb67 (k:q) (h:Kz q->p:=by
 intro zk;have fz:=z11 NB5.o 5;have HS7:=J (HS5.o.set H0.o.1 nb 5 (.int .i64 kc') HNb.o.1 HNb.o.2.1 HNb.o.2.2.1 HNb.o.2.2.2);have NB7:=J (set_heap (i:=5) (v:=.int .i64 kc') NB5.o);obtain⟨Y7,hY7⟩:∃Y7,X4.setCell ⟨nb,5,none⟩ (.int .i64 kc')=Y7:=⟨_,rfl⟩
 revert fz HS7 NB7 Y7 hY7;exact zk.o):p:=h ⟨k⟩
theorem zb68 (k:q) (h:Kz q->p:=by
 intro zk;have B1:=J (B0.o.trans (hb.mono B0.o.size));refine z30 (S:=fun w'=> w'.cell? ⟨W.heap.size,2,none⟩=some (.string t.n.a)/\w'.cell? ⟨W.heap.size,3,none⟩=some (.string t.n.b)) yb rfl rfl ?_;rw[hX1];revert B1;exact zk.o):p:=h ⟨k⟩
theorem zb69 (k:q) (h:Kz q->p:=by
 intro zk;rw[HY.o,HP.o];obtain⟨e0,e1,e2,e3,e4,e5⟩:=R.o.at B0.o;revert e0 e1 e2 e3 e4 e5;exact zk.o):p:=h ⟨k⟩
theorem zb70 (k:q) (h:Kz q->p:=by
 intro zk;have k0:=kid 0 za (z14 zb _);obtain⟨T0,p0,e0⟩:=k0.face;have t0:=k0.text;revert k0 T0 p0 e0 t0;exact zk.o):p:=h ⟨k⟩
theorem zb71 (k:q) (h:Kz q->p:=by
 intro zk;have k1:=kid 1 za (z14 zb _);obtain⟨T1,p1,e1⟩:=k1.face;have t1:=k1.text;revert k1 T1 p1 e1 t1;exact zk.o):p:=h ⟨k⟩
theorem zb72 (k:q) (h:Kz q->p:=by
 intro zk;refine vE (A5.o.put1 25 0 0 x2 ByteArray.empty ByteArray.empty N5.o.1 ⟨B2.o,z13,z13⟩ zc) fun X6 ad6 cp6 n6 N6 A6 G6=>?_
 have HS:I (Hn d (.slice ade es.length cpe) W s (X6.alloc (.cells #[.slice ad3 n3.length cp3,.slice ad6 n6.length cp6] 24)) _ _ _ (.slice (some ⟨X6.heap.size,0,none⟩) 2 2) [⟨ad3,cp3,n3⟩,⟨ad6,cp6,n6⟩] (.slice ado os'.length cpo) os'):=hn_start A6.o (g_grew OR.o H0.o.ltB H0.o.ltG (G2.o.trans (G3.o.trans (G4.o.trans (G5.o.trans G6.o))))) ⟨ad3,cp3,n3⟩ ⟨ad6,cp6,n6⟩ (N3.o.1.grew (G4.o.trans (G5.o.trans G6.o))) N6.o.1;have hfl:(flatL (kdL [⟨ad3,cp3,n3⟩,⟨ad6,cp6,n6⟩])).length<=n3.length+n6.length:=by simp[flatL,kdL]
 revert X6 ad6 cp6 n6 N6 A6 G6 HS hfl;exact zk.o):p:=h ⟨k⟩
theorem zb73 (k:q) (h:Kz q->p:=by
 intro zk;rintro e X1 ⟨va1,vc1,l1,s1,rfl,N1,SP,Q1,S1,L1,GR⟩;have T1:=J (show s.at_<=s1.at_/\l1.length<=3*(s1.at_-s.at_) by have h1:=S1.o.on;have h2:=S1.o.len;dsimp only[accN]at h1 h2;omega);have G:=J (show s.at_+0<=s1.at_/\s1.at_<=ws.length by have h1:=G.o;have h2:=S1.o.on;have h3:=S1.o.lt;dsimp only at h2 h3;omega);revert X1 va1 vc1 l1 s1 N1 SP Q1 S1 L1 GR T1 G;exact zk.o):p:=h ⟨k⟩
theorem zb74 (k:q) (h:Kz q->p:=by
 intro zk;refine z34 yb ?_;have FIN:=J (prog_rest HG.o HP.o.1 HP.o.2 R1.o.2 R2.o.2 E1.o.1 E1.o.2.1 HB2.o rfl (by show 30+m2<=89;omega) yf A24.o BP2.o N24.o.1 N24.o.2);revert FIN;exact zk.o):p:=h ⟨k⟩
theorem zb75 (k:q) (h:Kz q->p:=by
 intro zk;refine z30 (S:=fun w'=> w'.cell? ⟨d.G,1,none⟩=some (.slice (some ⟨be,oe,none⟩) es.length cpe)/\w'.cell? ⟨go,i2,none⟩=some (.int .i64 (j:Int))/\w'.cell? ⟨be,oe+j*3,none⟩=some (.string xn)/\w'.cell? ⟨be,oe+j*3+1,none⟩=some (.int .i64 xa)/\w'.cell? ⟨be,oe+j*3+2,none⟩=some (.int .i64 xr)) yb rfl rfl ?_;have A7:=J AR.o.drew;have G7:=J (Grew.refl d Y1).drew;revert A7 G7;exact zk.o):p:=h ⟨k⟩
theorem zb76 (k:q) (h:Kz q->p:=by
 intro zk;have HPK:=J (specProgC_calls be bt cpe cp24 es n24 R Z hcap hbe hbt hEA hNA zd hl5 (fun w' hb hn=>specTree_calls bt 0 cp24 n24 w' R hl5 hb hn hR));have HR:=J hR;revert HPK HR;exact zk.o):p:=h ⟨k⟩
theorem zb77 (k:q) (h:Kz q->p:=by
 intro zk;have hit2:=Lib.iterAt_heap wr w.heap.size t pos (pos+1) hit;have hbw2:=Lib.below_iterAt hbw (k:=w.heap.size) La t (pos+1);obtain⟨W,hWd⟩:∃W,wr.iterAt w.heap.size t (pos+1)=W:=⟨_,rfl⟩
 revert hit2 hbw2 W hWd;exact zk.o):p:=h ⟨k⟩
theorem zb78 (k:q) (h:Kz q->p:=by
 intro zk;have hbl:=bytes_low h0 b off ea hl;refine⟨b,off,ea,⟨ze,hq.2⟩,fun i hi=>?_⟩;obtain⟨z,hz,h5⟩:=hz i hi;revert hbl i hi z hz h5;exact zk.o):p:=h ⟨k⟩
theorem zb79 (k:q) (h:Kz q->p:=by
 intro zk;refine z23 (i:=10) (v:=.pointer (some ⟨Z.heap.size,0,none⟩)) (w1:=Z.alloc (.cells #[.int .i64 0,.string ⟨#[]⟩,.int .i64 0] 76)) rfl yb rfl rfl yc hSA yd ?_;have hkA:=(Ld Z (.cells #[.int .i64 0,.string ⟨#[]⟩,.int .i64 0] 76)).1;obtain⟨hl1,hl2⟩:=lay3_is (.int .i64 kd) (.string tx) (.int .i64 wa) hkA;revert hkA hl1 hl2;exact zk.o):p:=h ⟨k⟩
theorem zb80 (k:q) (h:Kz q->p:=by
 intro zk;have hb1:Below W.heap.size W (W.alloc (.cells #[.slice ae le ce,.slice at_ L ct] 26)):=Lb.alloc La _;have HB1:=J hb1;clear hb1;revert HB1;exact zk.o):p:=h ⟨k⟩
theorem zb81 (k:q) (h:Kz q->p:=by
 intro zk;have ho':l0.toArray[i]?=some o:=zf;refine wpAnyH_all (rs:= [i]) zg yn (fun j hj=>?_);rw[List.mem_singleton]at hj;revert ho' j hj;exact zk.o):p:=h ⟨k⟩
theorem zb82 (k:q) (h:Kz q->p:=by
 intro zk;refine Or.inl ⟨_,.slice ad n cp,X,rfl,rfl,by simp[go_sem,hb0],trivial,?_⟩;refine z15 yd ?_;exact zk.o):p:=h ⟨k⟩
theorem zb83 (k:q) (h:Kz q->p:=by
 intro zk;go_wp2_with fail
 have hs:len-(intOf (.int .i64 ((k+1:Nat):Int))).toNat<len-(intOf (.int .i64 (k:Int))).toNat:=yl;try rw[show wrap64 ((k:Int)+1)=((k+1:Nat):Int) by have:=HM.o;unfold wrap64;omega]
 revert hs;exact zk.o):p:=h ⟨k⟩
theorem zb84 (k:q) (h:Kz q->p:=by
 intro zk;have hE:spz ws (f+1) .call s=(acc,sr):=by
  show callS ws (spz ws f) s=_;refine(z25 HH.o).trans ?_;refine HF.o.trans ?_;refine HFr.o.symm.trans ?_;show callLS ws (spz ws g) acc sr=_;refine(callL_f HSF.o).trans ?_;rfl
 rw[hE];revert hE;exact zk.o):p:=h ⟨k⟩
theorem zb85 (k:q) (h:Kz q->p:=by
 intro zk;obtain⟨Y,HY,R⟩:=P.start ek;obtain⟨⟨c0,c1,c2,c3,c4,c5⟩,hp0,hpl,na,nb⟩:=P.cells ek;revert Y HY R c0 c1 c2 c3 c4 c5 hp0 hpl na nb;exact zk.o):p:=h ⟨k⟩
theorem zb86 (k:q) (h:Kz q->p:=by
 intro zk;refine⟨zb,?_⟩;simp[oS_mk,oF_cons,oF_nil,nd0,needZ,lvK,ownB];exact zk.o):p:=h ⟨k⟩
theorem zb87 (k:q) (h:Kz q->p:=by
 intro zk;refine z34 yb ?_;go_wp2_with fail
 exact zk.o):p:=h ⟨k⟩
theorem zb88 (k:q) (h:Kz q->p:=by
 intro zk;obtain⟨n0,n1,n2,n3,n4,n5⟩:=fcl6 NB8.o;obtain⟨q',hqa',-,-,hcl⟩:=row_at HS7.o.row (k:=k) yf;revert n0 n1 n2 n3 n4 n5 q' hqa' hcl;exact zk.o):p:=h ⟨k⟩
theorem zb89 (k:q) (h:Kz q->p:=by
 intro zk;refine go_i H.o.1 H.o.2.1 NtR.expr trivial (H.o.2.2.expr _ _ S.o.rd yw) S.o HR.o G.o (fun _ _ h=>⟨rfl,h⟩) ?_;intro t1 i1 T1 p1 X1 S HR G;revert t1 i1 T1 p1 X1 S HR G;exact zk.o):p:=h ⟨k⟩
theorem zb90 (k:q) (h:Kz q->p:=by
 intro zk;rw[pos_at SP.o.1,pos_at SP0.o.1];have h1:=G.o;revert h1;exact zk.o):p:=h ⟨k⟩
theorem zb91 (k:q) (h:Kz q->p:=by
 intro zk;refine pick_o (hy:=fun w' h=>by simp[go_sem,h.2.2.1,h.2.2.2.1,h.2.2.2.2]) 9 (.agg #[.int .i64 kd,.string tx,.int .i64 wa]) hS ?_;have hbA:=(Below.refl Z.heap.size Z).alloc La (.cells #[.int .i64 0,.string ⟨#[]⟩,.int .i64 0] 76);revert hbA;exact zk.o):p:=h ⟨k⟩
theorem zb92 (k:q) (h:Kz q->p:=by
 intro zk;have HS:=J (Lc (show d.B<wr.heap.size by have:=HO.o.2.1.size;have:=z12 B7.o.rd.blk;omega) (show d.G<wr.heap.size by rw[H0.o.2.2];have:=HO.o.2.1.size;have:=z12 B7.o.rd.blk;omega));obtain⟨i0,hinf,hz0,hz1,hz2⟩:=info_parts info_node;revert HS i0 hinf hz0 hz1 hz2;exact zk.o):p:=h ⟨k⟩
theorem zb93 (k:q) (h:Kz q->p:=by
 intro zk;have hB1:=(Below.refl W.heap.size W).alloc La (.cells #[.slice ae es.length ce,.slice (some ⟨bt,0,none⟩) ns.length cn] 26);obtain⟨Y,hY⟩:∃Y,W.alloc (.cells #[.slice ae es.length ce,.slice (some ⟨bt,0,none⟩) ns.length cn] 26)=Y:=⟨_,rfl⟩
 revert hB1 Y hY;exact zk.o):p:=h ⟨k⟩
theorem zb94 (k:q) (h:Kz q->p:=by
 intro zk;refine bodyPost_ret (v:=.tuple #[.agg #[.slice none 0 0,.slice none 0 0],.agg #[.int .i64 5,.int .i64 (pl:Int)]]) zh rfl ⟨?_,HB4.o.trans rB⟩;rw[hR];exact zk.o):p:=h ⟨k⟩
end
end Go.Proofs.YtfbojelpdccjaaaGreatDoor
