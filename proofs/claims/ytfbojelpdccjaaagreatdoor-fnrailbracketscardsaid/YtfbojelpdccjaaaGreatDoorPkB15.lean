import Derived.Test.YtfbojelpdccjaaaGreatDoorPkB11
import Derived.Test.YtfbojelpdccjaaaGreatDoorPkB12
import Derived.Test.YtfbojelpdccjaaaGreatDoorPkB14
import Derived.Test.YtfbojelpdccjaaaGreatDoorPkB9
import Derived.Test.YtfbojelpdccjaaaGreatDoorPkB0
import Derived.Test.YtfbojelpdccjaaaGreatDoorPkB6
set_option maxHeartbeats 4000000
set_option maxRecDepth 100000
namespace Go.Proofs.YtfbojelpdccjaaaGreatDoor
open Go.RowKit Go.Deep
variable {es : List Ef} {i : Nat} {t : Tp}
section
open Go.RowKit Go.Deep
def FormT (B : Nat) (W : World) (t : Tp) (v : Value) : Prop:= ∃ us,Forms B W t.k us∧Shape B W t.n us v
theorem formsT_at {B : Nat} {W0 : World} : ∀ (f : Fo) (vs : List Value) (q i : Nat),Forms B W0 f vs→i < f.count→FormT B W0 ((kidsAt f q).getD i default) (vs.getD i default)
 | .none,_,_,_,_,h=>by simp [Fo.count] at h
 | .tree n k r,_,q,0,⟨v,us,rest,e,h1,h2,h3⟩,_=>by
   subst e;simp only [kidsAt,List.getD_cons_zero];exact⟨us,h1,h2⟩
 | .tree n k r,_,q,i+1,⟨v,us,rest,e,h1,h2,h3⟩,hi=>by
   subst e;simp only [kidsAt,List.getD_cons_succ];exact formsT_at r rest _ i h3 (by simpa [Fo.count] using hi)
theorem lv_pos (k : Int) : 0≤lvZ k:=by
 unfold lvZ;repeat' split
 all_goals omega
theorem show0 (F : Nat) (t : Tp) : showZ F t 0=bareZ F t:=by
 unfold showZ brZ;rw [if_neg];have:=lv_pos t.n.kind;omega
theorem z38 {W : World} {v : Value} {T : List UInt8} (Ty : TypeId) (pv : Value) (g : FuncId) (hv : v= .iface Ty pv) (hm : ∀ w,(method 344 Ty pv "loop.example/handrail/impl.text").run Tryz.prog w= .ok (g,pv) w)
 (hc : ∀ args w,(callFunc g args).run Tryz.prog w= .ok (.enter g args) w) (hK : ∀ w,Below W.heap.size W w→Calls Tryz.prog g #[pv] w (BareP w T)) : TextOf W v T:=⟨Ty,pv,g,pv,hv,hm,hc,hK⟩
structure KidT (W : World) (F : Nat) (c : Tp) (u : Value) : Prop where
 text : TextOf W u (bareZ F c)
 level : LevelOf u (lvZ c.n.kind)
 len : (bareZ F c).length≤18000
 face : ∃ T p,u= .iface T p
def TextR' (ns : List Nd) (B : Nat) (W : World) (F : Nat) : Prop:= ∀ (t : Tp) (v : Value),t.size≤F→Stands ns t→Ex t→FormT B W t v→KidT W F t v
def clT (F : Nat) (c : Tp) : List UInt8:=if c.n.kind=25 then [114,101,116,32]++c.n.a.data.toList++ [32,45,62,32]++bareZ F (c.kid 0) else [124,32]++c.n.a.data.toList++ [32]++c.n.b.data.toList++ [32]++c.n.c.data.toList++ [32,45,62,32]++bareZ F (c.kid 0)
theorem getD_memT {l : List Tp} {k : Nat} (h : k < l.length) : l.getD k default∈l:=by
 rw [show l.getD k default=l[k] by simp [List.getD,h]];exact List.getElem_mem h
theorem foldl_opT (go : Tp→Int→List UInt8) : ∀ (l : List Tp) (T : List UInt8),l.foldl (fun T c=>T++opT c (go (c.kid 0) 0)) T=T++l.flatMap (fun c=>opT c (go (c.kid 0) 0))
 | [],T=>by simp
 | c::l,T=>by
   rw [List.foldl_cons,foldl_opT go l,List.flatMap_cons,List.append_assoc]
theorem clausesT_eq (F : Nat) : ∀ (l : List Tp),(∀ c∈l,c.n.kind=26)→l.flatMap (fun c=>opT c (showZ F (c.kid 0) 0))=(l.map (clT F)).flatMap (fun T=>32::T)
 | [],_=>rfl
 | c::l,h=>by
   rw [List.flatMap_cons,List.map_cons,List.flatMap_cons,clausesT_eq F l (fun x hx=>h x (List.mem_cons_of_mem _ hx))];unfold clT opT;rw [if_neg (by rw [h c List.mem_cons_self]; decide),show0];simp
theorem hand_eq (F : Nat) (t : Tp) (h2 : 2≤t.k.count) (h25 : (t.kid 1).n.kind=25) (h26 : ∀ c∈t.kids.drop 2,c.n.kind=26) :
 handT (showZ F) t=(if t.n.kind=24 then [115,104,97,108,108,111,119,32] else [104,97,110,100,108,101,32])++bareZ F (t.kid 0)++ [32,119,105,116,104]++((t.kids.drop 1).map (clT F)).flatMap (fun T=>32::T)++ [32,101,110,100]:=by
 have hd : t.kids.drop 1=t.kid 1::t.kids.drop 2:=by rw [(kidsM h2).1]; rfl
 unfold handT;rw [foldl_opT,clausesT_eq F _ h26,hd,List.map_cons,List.flatMap_cons];unfold retT;rw [show0,show0,show clT F (t.kid 1)= [114,101,116,32]++(t.kid 1).n.a.data.toList++ [32,45,62,32]++bareZ F ((t.kid 1).kid 0) by unfold clT; rw [if_pos h25]];simp only [List.append_assoc,List.cons_append,List.nil_append]
theorem kidsAt_le : ∀ (f : Fo) (p : Nat) (c : Tp),c∈kidsAt f p→c.size≤f.flat.length
 | .none,_,_,h=>by simp [kidsAt] at h
 | .tree n k r,p,c,h=>by
   rw [kidsAt,List.mem_cons] at h;simp only [Fo.flat,List.length_cons,List.length_append];rcases h with rfl | h
   ·show k.flat.length+1≤_; omega
   ·have:=kidsAt_le r _ c h; omega
theorem kid_lt (h : i < t.k.count) : (t.kid i).size < t.size:=by
 have:=kidsAt_le t.k (t.at_+1) _ (Tp.kid_mem h);unfold Tp.size at this ⊢;omega
section
variable {ns : List Nd} {B : Nat} {W : World} {F : Nat}
theorem clause_text (hnt : ∀ m∈ns,Neat m) (ih : TextR' ns B W F) {c : Tp} {u : Value} (hF : c.size≤F) (hs : Stands ns c) (hk : c.n.kind=25∨c.n.kind=26) (hx : Ex (c.kid 0)) (h1 : c.k.count=1) (hFm : FormT B W c u) : TextOf W u (clT F c)∧ ∃ T p,u= .iface T p:=by
 obtain⟨us,hFo,hSh⟩:=hFm;have hne:=hs.neat hnt;have hfc:=hSh.iface;have hlt:=kid_lt (t:=c) (i:=0) (by omega);have k0:=ih (c.kid 0) (us.getD 0 default) (by omega) (hs.kid (by omega)) hx (formsT_at c.k us (c.at_+1) 0 hFo (by omega));refine⟨?_,hfc⟩;obtain⟨n,k,p⟩:=c;dsimp only at*
 cases hSh with
 | ret=>
   obtain⟨T0,p0,e0⟩:=k0.face;have t0:=k0.text;simp only [List.getD_cons_zero] at e0 t0;subst e0;refine z38 _ _ 258 rfl (fun w=>by kernel_rfl) (fun args w=>by kernel_rfl) (fun w hw=>?_);exact text_ret _ hne.a t0 k0.len w hw
 | op=>
   obtain⟨T0,p0,e0⟩:=k0.face;have t0:=k0.text;simp only [List.getD_cons_zero] at e0 t0;subst e0;refine z38 _ _ 261 rfl (fun w=>by kernel_rfl) (fun args w=>by kernel_rfl) (fun w hw=>?_);exact text_op _ hne.a _ hne.b _ hne.c t0 k0.len w hw
 | _=>exfalso; dsimp only at hk; omega
theorem text_step (hL : Laid W) (hl : ns.length≤300) (hnt : ∀ m∈ns,Neat m) (ih : TextR' ns B W F) {v : Value} (hF : t.size≤F+1) (hs : Stands ns t) (hx : Ex t) (hFm : FormT B W t v) : TextOf W v (bareZ (F+1) t):=by
 obtain⟨us,hFo,hSh⟩:=hFm;have hne:=hs.neat hnt;have hct : us.length=t.k.count:=hFo.length;have kid : ∀ i,i < t.k.count→role t.n.kind i=0→KidT W F (t.kid i) (us.getD i default):=fun i hi hr=>ih (t.kid i) (us.getD i default) (by have:=kid_lt hi; omega) (hs.kid hi) (hx.1.ex hi hr) (formsT_at t.k us (t.at_+1) i hFo hi)
 have hlen:=(z69 hnt (F+1)).2 t hF hs hx;have hs3:=hs.lt.2.2;have hcl : t.n.kind=23∨t.n.kind=24→ ∀ i,1≤i→i < t.k.count→TextOf W (us.getD i default) (clT F (t.kid i))∧ ∃ T p,us.getD i default= .iface T p:=fun hk i h1 hi=>by
  have hc1 : (t.kid i).k.count=1:=(hs.head hk (t.kid i) (by
   have e : t.kid i∈t.kids.drop 1:=by
    have e2 : t.kid i=(t.kids.drop 1).getD (i - 1) default:=by
     show t.kids.getD i default=_;simp only [List.getD_eq_getElem?_getD,List.getElem?_drop];rw [show 1+(i - 1)=i by omega]
    rw [e2];exact getD_memT (by rw [List.length_drop,t.kids_len]; omega)
   exact e)).2
  exact clause_text hnt ih (by have:=kid_lt hi; omega) (hs.kid hi) (clause_kind hx.1 hk hi h1) (clause_ex hx.1 hi hc1) hc1 (formsT_at t.k us (t.at_+1) i hFo hi)
 have hk2 : t.n.kind=23∨t.n.kind=24→2≤t.k.count∧t.k.count≤6:=fun hk=>(arity_at hs.toGood).2.1 (by rcases hk with e | e <;> rw [e] <;> rfl)
 have hcA : ∀ i,i < t.k.count→headOk (t.kid i).n (role t.n.kind i)=true:=fun i hi=>by
  have:=(kids_role t.k t.n.kind 0 (t.at_+1) [] i hx.1 hi).1;rw [Nat.zero_add] at this;exact this
 obtain⟨n,k,p⟩:=t;dsimp only at hct kid hlen hs3 hcl hk2 hcA hne hx
 cases hSh with
 | int=>
   rw [bare1 rfl];refine z38 _ _ 207 rfl (fun w=>by kernel_rfl) (fun args w=>by kernel_rfl) (fun w hw=>?_);exact text_int _ (by have:=hne.num rfl; dsimp only at this; unfold Long; omega) w (hL.stays hw)
 | bool=>
   rw [bare2 rfl];refine z38 _ _ 209 rfl (fun w=>by kernel_rfl) (fun args w=>by kernel_rfl) (fun w _=>?_);exact text_bool _ (hne.bit rfl) w
 | unit=>
   rw [bare3 rfl];refine z38 _ _ 213 rfl (fun w=>by kernel_rfl) (fun args w=>by kernel_rfl) (fun w _=>?_);exact text_unit w
 | nil=>
   rw [bare4 rfl];refine z38 _ _ 215 rfl (fun w=>by kernel_rfl) (fun args w=>by kernel_rfl) (fun w _=>?_);exact text_nil w
 | var=>
   rw [bare5 rfl];refine z38 _ _ 217 rfl (fun w=>by kernel_rfl) (fun args w=>by kernel_rfl) (fun w _=>?_);exact text_var _ w
 | fn=>
   have k0:=kid 0 (by simp at hct; omega) (z15 (by dsimp only; omega) _);obtain⟨T0,p0,e0⟩:=k0.face;have t0:=k0.text;simp only [List.getD_cons_zero] at e0 t0;have l0:=k0.level;simp only [List.getD_cons_zero] at l0;subst e0;rw [bare6 rfl];simp only [text6,show0];refine z38 _ _ 203 rfl (fun w=>by kernel_rfl) (fun args w=>by kernel_rfl) (fun w hw=>?_);exact text_fn _ hne.a t0 (Nat.le_trans k0.len (by omega)) w hw
 | app=>
   have k0:=kid 0 (by simp at hct; omega) (z15 (by dsimp only; omega) _);obtain⟨T0,p0,e0⟩:=k0.face;have t0:=k0.text;simp only [List.getD_cons_zero] at e0 t0;have k1:=kid 1 (by simp at hct; omega) (z15 (by dsimp only; omega) _);obtain⟨T1,p1,e1⟩:=k1.face;have t1:=k1.text;simp only [List.getD_cons_zero,List.getD_cons_succ] at e1 t1;have l0:=k0.level;simp only [List.getD_cons_zero] at l0;subst e0;have l1:=k1.level;simp only [List.getD_cons_zero,List.getD_cons_succ] at l1;subst e1;rw [bare7 rfl];simp only [text7];refine z38 _ _ 221 rfl (fun w=>by kernel_rfl) (fun args w=>by kernel_rfl) (fun w hw=>?_)
   exact text_app l0 t0 k0.len l1 t1 k1.len w hw
 | bind=>
   have k0:=kid 0 (by simp at hct; omega) (z15 (by dsimp only; omega) _);obtain⟨T0,p0,e0⟩:=k0.face;have t0:=k0.text;simp only [List.getD_cons_zero] at e0 t0;have k1:=kid 1 (by simp at hct; omega) (z15 (by dsimp only; omega) _);obtain⟨T1,p1,e1⟩:=k1.face;have t1:=k1.text;simp only [List.getD_cons_zero,List.getD_cons_succ] at e1 t1;have l0:=k0.level;simp only [List.getD_cons_zero] at l0;subst e0;have l1:=k1.level;simp only [List.getD_cons_zero,List.getD_cons_succ] at l1;subst e1;rw [bare8 rfl];simp only [text8,show0]
   refine z38 _ _ 225 rfl (fun w=>by kernel_rfl) (fun args w=>by kernel_rfl) (fun w hw=>?_);exact text_let _ hne.a t0 k0.len t1 k1.len w hw
 | recur=>
   have k0:=kid 0 (by simp at hct; omega) (z15 (by dsimp only; omega) _);obtain⟨T0,p0,e0⟩:=k0.face;have t0:=k0.text;simp only [List.getD_cons_zero] at e0 t0;have k1:=kid 1 (by simp at hct; omega) (z15 (by dsimp only; omega) _);obtain⟨T1,p1,e1⟩:=k1.face;have t1:=k1.text;simp only [List.getD_cons_zero,List.getD_cons_succ] at e1 t1;have l0:=k0.level;simp only [List.getD_cons_zero] at l0;subst e0;have l1:=k1.level;simp only [List.getD_cons_zero,List.getD_cons_succ] at l1;subst e1;rw [bare9 rfl];simp only [text9,show0]
   refine z38 _ _ 228 rfl (fun w=>by kernel_rfl) (fun args w=>by kernel_rfl) (fun w hw=>?_);exact text_recur _ hne.a _ hne.b t0 k0.len t1 k1.len w hw
 | cond=>
   have k0:=kid 0 (by simp at hct; omega) (z15 (by dsimp only; omega) _);obtain⟨T0,p0,e0⟩:=k0.face;have t0:=k0.text;simp only [List.getD_cons_zero] at e0 t0;have k1:=kid 1 (by simp at hct; omega) (z15 (by dsimp only; omega) _);obtain⟨T1,p1,e1⟩:=k1.face;have t1:=k1.text;simp only [List.getD_cons_zero,List.getD_cons_succ] at e1 t1;have k2:=kid 2 (by simp at hct; omega) (z15 (by dsimp only; omega) _);obtain⟨T2,p2,e2⟩:=k2.face;have t2:=k2.text;simp only [List.getD_cons_zero,List.getD_cons_succ] at e2 t2;have l0:=k0.level;simp only [List.getD_cons_zero] at l0;subst e0;have l1:=k1.level
   simp only [List.getD_cons_zero,List.getD_cons_succ] at l1;subst e1;have l2:=k2.level;simp only [List.getD_cons_zero,List.getD_cons_succ] at l2;subst e2;rw [bare10 rfl];simp only [text10,show0];refine z38 _ _ 231 rfl (fun w=>by kernel_rfl) (fun args w=>by kernel_rfl) (fun w hw=>?_);exact text_cond t0 k0.len t1 k1.len t2 k2.len w hw
 | sign h=>
   rcases h with rfl | rfl | rfl | rfl | rfl
   all_goals
    have k0:=kid 0 (by simp at hct; omega) (z15 (by dsimp only; omega) _);obtain⟨T0,p0,e0⟩:=k0.face;have t0:=k0.text;simp only [List.getD_cons_zero] at e0 t0;have k1:=kid 1 (by simp at hct; omega) (z15 (by dsimp only; omega) _);obtain⟨T1,p1,e1⟩:=k1.face;have t1:=k1.text;simp only [List.getD_cons_zero,List.getD_cons_succ] at e1 t1;have l0:=k0.level;simp only [List.getD_cons_zero] at l0;subst e0;have l1:=k1.level;simp only [List.getD_cons_zero,List.getD_cons_succ] at l1;subst e1;first
     | (rw [bare11 rfl]; simp only [text11])
     | (rw [bare12 rfl]; simp only [text12])
     | (rw [bare13 rfl]; simp only [text13])
     | (rw [bare14 rfl]; simp only [text14])
     | (rw [bare15 rfl]; simp only [text15])
    refine z38 _ _ 265 rfl (fun w=>by kernel_rfl) (fun args w=>by kernel_rfl) (fun w hw=>?_);first
     | exact text_sign (by decide) rfl (by decide) (by decide) word11_calls l0 t0 k0.len l1 t1 k1.len w hw
     | exact text_sign (by decide) rfl (by decide) (by decide) word12_calls l0 t0 k0.len l1 t1 k1.len w hw
     | exact text_sign (by decide) rfl (by decide) (by decide) word13_calls l0 t0 k0.len l1 t1 k1.len w hw
     | exact text_sign (by decide) rfl (by decide) (by decide) word14_calls l0 t0 k0.len l1 t1 k1.len w hw
     | exact text_sign (by decide) rfl (by decide) (by decide) word15_calls l0 t0 k0.len l1 t1 k1.len w hw
 | pair=>
   have k0:=kid 0 (by simp at hct; omega) (z15 (by dsimp only; omega) _);obtain⟨T0,p0,e0⟩:=k0.face;have t0:=k0.text;simp only [List.getD_cons_zero] at e0 t0;have k1:=kid 1 (by simp at hct; omega) (z15 (by dsimp only; omega) _);obtain⟨T1,p1,e1⟩:=k1.face;have t1:=k1.text;simp only [List.getD_cons_zero,List.getD_cons_succ] at e1 t1;have l0:=k0.level;simp only [List.getD_cons_zero] at l0;subst e0;have l1:=k1.level;simp only [List.getD_cons_zero,List.getD_cons_succ] at l1;subst e1;rw [bare16 rfl];simp only [text16,show0]
   refine z38 _ _ 235 rfl (fun w=>by kernel_rfl) (fun args w=>by kernel_rfl) (fun w hw=>?_);exact text_pair t0 k0.len t1 k1.len w hw
 | take h=>
   rcases h with rfl | rfl | rfl
   all_goals
    have k0:=kid 0 (by simp at hct; omega) (z15 (by dsimp only; omega) _);obtain⟨T0,p0,e0⟩:=k0.face;have t0:=k0.text;simp only [List.getD_cons_zero] at e0 t0;have l0:=k0.level;simp only [List.getD_cons_zero] at l0;subst e0;first
     | (rw [bare17 rfl]; simp only [text17])
     | (rw [bare18 rfl]; simp only [text18])
     | (rw [bare21 rfl]; simp only [text21])
    refine z38 _ _ 239 rfl (fun w=>by kernel_rfl) (fun args w=>by kernel_rfl) (fun w hw=>?_);first
     | exact text_take (by decide) word17_calls l0 t0 k0.len w hw
     | exact text_take (by decide) word18_calls l0 t0 k0.len w hw
     | exact text_take (by decide) word21_calls l0 t0 k0.len w hw
 | cons=>
   have k0:=kid 0 (by simp at hct; omega) (z15 (by dsimp only; omega) _);obtain⟨T0,p0,e0⟩:=k0.face;have t0:=k0.text;simp only [List.getD_cons_zero] at e0 t0;have k1:=kid 1 (by simp at hct; omega) (z15 (by dsimp only; omega) _);obtain⟨T1,p1,e1⟩:=k1.face;have t1:=k1.text;simp only [List.getD_cons_zero,List.getD_cons_succ] at e1 t1;have l0:=k0.level;simp only [List.getD_cons_zero] at l0;subst e0;have l1:=k1.level;simp only [List.getD_cons_zero,List.getD_cons_succ] at l1;subst e1;rw [bare19 rfl];simp only [text19]
   refine z38 _ _ 244 rfl (fun w=>by kernel_rfl) (fun args w=>by kernel_rfl) (fun w hw=>?_);have h:=text_cons l0 t0 k0.len l1 t1 k1.len w hw;simp only [List.append_assoc,List.cons_append,List.nil_append] at h ⊢;exact h
 | case=>
   have k0:=kid 0 (by simp at hct; omega) (z15 (by dsimp only; omega) _);obtain⟨T0,p0,e0⟩:=k0.face;have t0:=k0.text;simp only [List.getD_cons_zero] at e0 t0;have k1:=kid 1 (by simp at hct; omega) (z15 (by dsimp only; omega) _);obtain⟨T1,p1,e1⟩:=k1.face;have t1:=k1.text;simp only [List.getD_cons_zero,List.getD_cons_succ] at e1 t1;have k2:=kid 2 (by simp at hct; omega) (z15 (by dsimp only; omega) _);obtain⟨T2,p2,e2⟩:=k2.face;have t2:=k2.text;simp only [List.getD_cons_zero,List.getD_cons_succ] at e2 t2;have l0:=k0.level;simp only [List.getD_cons_zero] at l0;subst e0;have l1:=k1.level
   simp only [List.getD_cons_zero,List.getD_cons_succ] at l1;subst e1;have l2:=k2.level;simp only [List.getD_cons_zero,List.getD_cons_succ] at l2;subst e2;rw [bare20 rfl];simp only [text20,show0];refine z38 _ _ 247 rfl (fun w=>by kernel_rfl) (fun args w=>by kernel_rfl) (fun w hw=>?_);exact text_case _ hne.a _ hne.b t0 k0.len t1 k1.len t2 k2.len w hw
 | perform=>
   have k0:=kid 0 (by simp at hct; omega) (z15 (by dsimp only; omega) _);obtain⟨T0,p0,e0⟩:=k0.face;have t0:=k0.text;simp only [List.getD_cons_zero] at e0 t0;have l0:=k0.level;simp only [List.getD_cons_zero] at l0;subst e0;rw [bare22 rfl];simp only [text22];refine z38 _ _ 251 rfl (fun w=>by kernel_rfl) (fun args w=>by kernel_rfl) (fun w hw=>?_);exact text_perform _ hne.a l0 t0 k0.len w hw
 | @handler kd num a b c kn u sl us h hrow hul=>
   have hk2':= hk2 h;rw [bareH h] at hlen ⊢;have h25 : (Tp.kid ⟨⟨kd,num,a,b,c,kn⟩,k,p⟩ 1).n.kind=25:=by
    have:=hcA 1 (by omega);unfold headOk role at this;rw [if_pos h] at this;simp only [Bool.and_eq_true] at this;simpa using this.1.1
   have h26 : ∀ x∈(Tp.kids ⟨⟨kd,num,a,b,c,kn⟩,k,p⟩).drop 2,x.n.kind=26:=by
    intro x hx';obtain⟨j,hj,e⟩:=List.mem_iff_getElem.1 hx';rw [List.length_drop,Tp.kids_len] at hj;have:=hcA (j+2) (by dsimp only at hj; omega);rw [show Tp.kid ⟨⟨kd,num,a,b,c,kn⟩,k,p⟩ (j+2)=x by
     rw [← e,List.getElem_drop];show List.getD _ _ _=_;rw [List.getD_eq_getElem?_getD,List.getElem?_eq_getElem (by rw [Tp.kids_len]; dsimp only at hj ⊢; omega),Option.getD_some];congr 1
     omega] at this
    unfold headOk role at this;rw [if_pos h] at this;simp only [Bool.and_eq_true] at this;have h2:=this.1.2;have e2 : (if 2 < j+2 then 2 else j+2)=2:=by split <;> omega
    rw [e2] at h2;simpa using h2
   rw [hand_eq F _ hk2'.1 h25 h26] at hlen ⊢;have k0:=kid 0 (by omega) (role_first _);obtain⟨T0,p0,e0⟩:=k0.face;have t0:=k0.text;simp only [List.getD_cons_zero] at e0 t0;subst e0;have hm : ((Tp.kids ⟨⟨kd,num,a,b,c,kn⟩,k,p⟩).drop 1).length=us.length:=by
    rw [List.length_drop,Tp.kids_len];simp at hct;dsimp only;omega
   refine z38 _ _ 255 rfl (fun w=>by kernel_rfl) (fun args w=>by kernel_rfl) (fun w hw=>?_);refine text_handler h t0 (hrow.kept (Nat.zero_le _) (Nat.le_refl _) (fun _ _ _=>rfl)) (by simp at hct; omega) (((Tp.kids ⟨⟨kd,num,a,b,c,kn⟩,k,p⟩).drop 1).map (clT F)) (by rw [List.length_map,hm]) (fun j hj=>?_) ?_ w hw
   ·have:=hcl h (j+1) (by omega) (by simp at hct; omega);simp only [List.getD_cons_succ] at this;refine⟨?_,this.2⟩;rw [show List.getD (((Tp.kids ⟨⟨kd,num,a,b,c,kn⟩,k,p⟩).drop 1).map (clT F)) j []=clT F (Tp.kid ⟨⟨kd,num,a,b,c,kn⟩,k,p⟩ (j+1)) by
     rw [List.getD_eq_getElem?_getD,List.getElem?_map,List.getElem?_drop,Nat.add_comm 1 j];show _=clT F (List.getD _ _ _);rw [List.getD_eq_getElem?_getD,List.getElem?_eq_getElem (by rw [Tp.kids_len]; simp at hct; dsimp only; omega)];rfl]
    exact this.1
   ·simp only [List.length_append] at hlen;omega
 | ret=>exact absurd rfl hx.2.1
 | op=>exact absurd rfl hx.2.2
end
theorem text_all {ns : List Nd} {B : Nat} {W : World} (hL : Laid W) (hl : ns.length≤300) (hnt : ∀ m∈ns,Neat m) : ∀ F,TextR' ns B W F:=by
 intro F;induction F with
 | zero=>intro t v hF; have:=t.size_pos; omega
 | succ F ih=>
   intro t v hF hs hx hFm;have hT:=text_step hL hl hnt ih hF hs hx hFm;have hlen:=(z69 hnt (F+1)).2 t hF hs hx;have h3:=hs.lt.2.2;obtain⟨us,hFo,hSh⟩:=hFm;exact⟨hT,levelOf hSh hFo.ifaces hx.2,by omega,hSh.iface⟩
section
variable {b off cap : Nat} {ns : List Nd} {F : Nat}
theorem bare_all (ih : ShowC b off cap ns F) {W : World} (P : PreB b off ns F t W) :
 Calls Tryz.prog 45 #[.slice (some ⟨b,off,none⟩) ns.length cap,.int .i64 (t.at_ : Int)] W (BareP W (bareZ (F+1) t)):=by
 by_cases k1 : t.n.kind=1
 ·rw [bare1 k1]; exact bare_c1 P k1
 by_cases k2 : t.n.kind=2
 ·rw [bare2 k2];rcases (P.hs.neat P.hnt).bit k2 with h0 | h0
  ·rw [h0,if_pos rfl]; exact bare_c2 P k2 h0 (Or.inl ⟨rfl,rfl⟩)
  ·rw [h0,if_neg (by decide)]; exact bare_c2 P k2 h0 (Or.inr ⟨rfl,rfl⟩)
 by_cases k3 : t.n.kind=3
 ·rw [bare3 k3]; exact bare_c3 P k3
 by_cases k4 : t.n.kind=4
 ·rw [bare4 k4]; exact bare_c4 P k4
 by_cases k5 : t.n.kind=5
 ·rw [bare5 k5]; exact bare_c5 P k5
 by_cases k6 : t.n.kind=6
 ·rw [bare6 k6]; exact bare_c6 P ih k6
 by_cases k7 : t.n.kind=7
 ·rw [bare7 k7]; exact bare_c7 P ih k7
 by_cases k8 : t.n.kind=8
 ·rw [bare8 k8]; exact bare_c8 P ih k8
 by_cases k9 : t.n.kind=9
 ·rw [bare9 k9]; exact bare_c9 P ih k9
 by_cases k10 : t.n.kind=10
 ·rw [bare10 k10]; exact bare_c10 P ih k10
 by_cases k11 : t.n.kind=11
 ·rw [bare11 k11]; exact bare_sign P ih k11 (by simp)
 by_cases k12 : t.n.kind=12
 ·rw [bare12 k12]; exact bare_sign P ih k12 (by simp)
 by_cases k13 : t.n.kind=13
 ·rw [bare13 k13]; exact bare_sign P ih k13 (by simp)
 by_cases k14 : t.n.kind=14
 ·rw [bare14 k14]; exact bare_sign P ih k14 (by simp)
 by_cases k15 : t.n.kind=15
 ·rw [bare15 k15]; exact bare_sign P ih k15 (by simp)
 by_cases k19 : t.n.kind=19
 ·rw [bare19 k19]; exact bare_sign P ih k19 (by simp)
 by_cases k16 : t.n.kind=16
 ·rw [bare16 k16]; exact bare_c16 P ih k16
 by_cases k17 : t.n.kind=17
 ·rw [bare17 k17]; exact bare_key P ih k17 (by simp)
 by_cases k18 : t.n.kind=18
 ·rw [bare18 k18]; exact bare_key P ih k18 (by simp)
 by_cases k21 : t.n.kind=21
 ·rw [bare21 k21]; exact bare_key P ih k21 (by simp)
 by_cases k22 : t.n.kind=22
 ·rw [bare22 k22]; exact bare_c22 P ih k22
 by_cases k20 : t.n.kind=20
 ·rw [bare20 k20]; exact bare_c20 P ih k20
 have hh : t.n.kind=23∨t.n.kind=24:=by
  have h1:=(arity_at P.hs.toGood).1;have h3:=P.hx.2;by_cases h4 : t.n.kind < 1∨26 < t.n.kind
  ·exact absurd (tab_other h4) h1
  ·omega
 rw [bareH hh];rcases hh with e | e
 ·exact bare_hand P ih e (Or.inl ⟨rfl,rfl⟩)
 ·exact bare_hand P ih e (Or.inr ⟨rfl,rfl⟩)
theorem show_all (hl : ns.length≤300) (hnt : ∀ m∈ns,Neat m) : ∀ F,ShowC b off cap ns F:=by
 intro F;induction F with
 | zero=>intro t least W hF; have:=t.size_pos; omega
 | succ F ih=>
   intro t least W hF hs hx hb hn;have HBa:=hid (bare_all (cap:=cap) ih ⟨hl,hnt,hF,hs,hx,hb,hn⟩);have hbl:=(z69 hnt (F+1)).2 t hF hs hx;obtain⟨hlt,hat,hsz⟩:=hs.lt;have HC:=hid (fun (X : World) (hX : Below W.heap.size W X)=>(hX.cell (p:=⟨b,off+t.at_*6+0,none⟩) hb).trans (hn t.at_ hlt 0 (by omega)));rw [hat] at HC;simp only [Nd.cell,Nat.add_zero] at HC;obtain⟨T,hT⟩ : ∃ T,bareZ (F+1) t=T:=⟨_,rfl⟩
   rw [hT] at HBa hbl;have lt : (tx T).size≤18000:=by rw [z26]; omega
   have HSh : Hid (showZ (F+1) t least=brZ t.n.kind least T):=by show _=_; unfold showZ; rw [hT]
   have hp0 : (0 : Int)≤(t.at_ : Int):=by omega
   have hpl : (t.at_ : Int) < (ns.length : Int):=by omega
   clear hl hnt ih hF hs hx hb hn hbl hlt hat hsz hT;go_enter Tryz.func22,Tryz.ntmps22
   go_wp2_with fail
   refine HBa.out.mono ?_;rintro e X1 ⟨rfl,hb1⟩;have B1:=hid hb1;have c0:=HC.out X1 B1.out;clear hb1 HBa;obtain⟨kd,hkd⟩ : ∃ kd,t.n.kind=kd:=⟨_,rfl⟩
   rw [hkd] at c0 HSh;clear hkd;go_wp2_with fail
   refine (level_calls kd X1).mono ?_;rintro e X2 ⟨rfl,rfl⟩;obtain⟨lv,hlv⟩ : ∃ lv,lvZ kd=lv:=⟨_,rfl⟩
   have HLv:=hid hlv;rw [hlv];clear hlv c0;by_cases hle : lv < least
   ·go_wp2_with fail
    go_ret;refine⟨?_,B1.out⟩;rw [HSh.out];unfold brZ;rw [HLv.out,if_pos hle];simp only [← z23];rfl
   ·go_wp2_with fail
    go_ret;refine⟨?_,B1.out⟩;rw [HSh.out];unfold brZ;rw [HLv.out,if_neg (by omega)];rfl
end
def effOk (es : List Ef) (i : Nat) : Bool:=
 nameOk (es.getD i default).name && (!effIn (es.take i) (es.getD i default).name && (decide (1≤(es.getD i default).arg∧(es.getD i default).arg≤4) && decide (1≤(es.getD i default).res∧(es.getD i default).res≤4)))
def nodeHas (es : List Ef) (n : Nd) : Bool:=!((n.kind==22 || n.kind==26) && !effIn es n.a)
def progZ (es : List Ef) (ns : List Nd) (T : Bool) : Bool:=decide (es.length≤8) && (T && ((List.range es.length).all (effOk es) && ns.all (nodeHas es)))
theorem range_step (h : (List.range i).all (effOk es)=true) (h' : effOk es i=true) : (List.range (i+1)).all (effOk es)=true:=by
 rw [List.range_succ,List.all_append,h];simpa using h'
theorem range_false (hi : i < es.length) (h : effOk es i=false) : (List.range es.length).all (effOk es)=false:=by
 rw [List.all_eq_false];exact⟨i,List.mem_range.2 hi,by simpa using h⟩
theorem has_step {ns : List Nd} (hi : i < ns.length) (h : (ns.take i).all (nodeHas es)=true) (hn : nodeHas es (ns.getD i default)=true) : (ns.take (i+1)).all (nodeHas es)=true:=by
 rw [List.take_succ_eq_append_getElem hi,List.all_append,h];simp only [List.getD,List.getElem?_eq_getElem hi] at hn;simpa using hn
theorem has_false {ns : List Nd} (hi : i < ns.length) (hn : nodeHas es (ns.getD i default)=false) : ns.all (nodeHas es)=false:=by
 rw [List.all_eq_false];simp only [List.getD,List.getElem?_eq_getElem hi] at hn;exact⟨ns[i],List.getElem_mem _,by simpa using hn⟩
theorem effsTake {w : World} {b off : Nat} (h : EffsAt w b off es) : EffsAt w b off (es.take i):=fun k hk c hc=>by
 have hk' : k < es.length:=by simp at hk; omega
 have hki : k < i:=by simp at hk; omega
 rw [h k hk' c hc];simp [List.getD,hki]
end
end Go.Proofs.YtfbojelpdccjaaaGreatDoor
