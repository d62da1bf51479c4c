/- The kids of a form, as its method tells them. -/
import Derived.Test.YtgiejnmphfgmgaaGreatDoorFormAt
import Derived.Test.YtgiejnmphfgmgaaGreatDoorSpecClausesB
namespace Go.Proofs.YtgiejnmphfgmgaaGreatDoor
open Go.RowKit Go.Deep

/-- A slice of these values; the empty one may lie anywhere. -/
def SliceOf (B : Nat) (w : World) (sv : Value) (us : List Value) : Prop := (us = [] ∧ ∃ a c, sv = .slice a 0 c) ∨ RowAt B w sv us

def KidsPost (us : List Value) (w : World) (e : Ending) (w' : World) : Prop := ∃ sv, e = .returned sv ∧ SliceOf w.heap.size w' sv us ∧ Below w.heap.size w w'

/-- A call of the method 'kids' of this value tells these. -/
def KidsOf (w : World) (v : Value) (us : List Value) : Prop :=
  ∃ T pv g rv, v = .iface T pv ∧ (∀ w, (method 342 T pv "loop.example/handrail/impl.kids").run Tryz.prog w = .ok (g, rv) w) ∧ (∀ args w, (callFunc g args).run Tryz.prog w = .ok (.enter g args) w) ∧ Calls Tryz.prog g #[rv] w (KidsPost us w)

theorem row_new (w : World) (o1 : Obj) (us : List Value) (t : TypeId) : SliceOf w.heap.size ((w.alloc o1).alloc (.cells us.toArray t)) (.slice (some ⟨w.heap.size + 1, 0, none⟩) us.length us.length) us := by
  have e := (MapKept.heap_alloc (w.alloc o1) (.cells us.toArray t)).1
  have hs : (w.alloc o1).heap.size = w.heap.size + 1 := by simp
  rw [hs] at e
  refine Or.inr ⟨w.heap.size + 1, 0, us.length, rfl, Nat.le_succ _, heap_lt e, fun j hj => ?_⟩
  rw [Nat.zero_add, cell_of_heap e j]
  simp

theorem below_two (w : World) (o1 o2 : Obj) : Below w.heap.size w ((w.alloc o1).alloc o2) := ((Below.refl _ _).alloc (Nat.le_refl _) o1).alloc (by simp) o2

theorem sliceOf_own {w : World} {base B : Nat} {e : TypeId} {v : Value} {n : Nat} {xs : List Value} (h : w.ownsRow base e 1 v n xs) (hb0 : B ≤ base) : SliceOf B w v xs := by
  have hl := h.1
  rw [Nat.mul_one] at hl
  rcases h.2 with ⟨hv, h0⟩ | ⟨g, cap, cur, hv, hbg, hg, _⟩
  · exact Or.inl ⟨List.eq_nil_of_length_eq_zero (by omega), none, 0, hv⟩
  · subst hv
    refine Or.inr ⟨g, 0, cap, by rw [hl], Nat.le_trans hb0 hbg, heap_lt hg, fun j hj => ?_⟩
    rw [Nat.zero_add]
    exact h.cellAt j (by omega)

set_option maxRecDepth 100000 in
theorem kids_leaf (w : World) : Calls Tryz.prog 164 #[.agg #[]] w (KidsPost [] w) := by
  go_enter Tryz.func164, Tryz.ntmps164
  go_wp2_with fail
  go_ret
  exact ⟨_, rfl, Or.inl ⟨rfl, none, 0, rfl⟩, (Below.refl _ _).alloc (Nat.le_refl _) _⟩

set_option maxRecDepth 100000 in
theorem kids_fn (a : ByteArray) (T0 : TypeId) (p0 : Value) (w : World) : Calls Tryz.prog 169 #[.agg #[.string a, .iface T0 p0]] w (KidsPost [.iface T0 p0] w) := by
  go_enter Tryz.func169, Tryz.ntmps169
  go_wp2_with fail
  go_ret
  exact ⟨_, rfl, row_new w _ [.iface T0 p0] _, below_two w _ _⟩

set_option maxRecDepth 100000 in
theorem kids_app (T0 T1 : TypeId) (p0 p1 : Value) (w : World) : Calls Tryz.prog 202 #[.agg #[.iface T0 p0, .iface T1 p1]] w (KidsPost [.iface T0 p0, .iface T1 p1] w) := by
  go_enter Tryz.func202, Tryz.ntmps202
  go_wp2_with fail
  go_ret
  exact ⟨_, rfl, row_new w _ [.iface T0 p0, .iface T1 p1] _, below_two w _ _⟩

set_option maxRecDepth 100000 in
theorem kids_bind (a : ByteArray) (T0 T1 : TypeId) (p0 p1 : Value) (w : World) : Calls Tryz.prog 175 #[.agg #[.string a, .iface T0 p0, .iface T1 p1]] w (KidsPost [.iface T0 p0, .iface T1 p1] w) := by
  go_enter Tryz.func175, Tryz.ntmps175
  go_wp2_with fail
  go_ret
  exact ⟨_, rfl, row_new w _ [.iface T0 p0, .iface T1 p1] _, below_two w _ _⟩

set_option maxRecDepth 100000 in
theorem kids_recur (a b : ByteArray) (T0 T1 : TypeId) (p0 p1 : Value) (w : World) : Calls Tryz.prog 172 #[.agg #[.string a, .string b, .iface T0 p0, .iface T1 p1]] w (KidsPost [.iface T0 p0, .iface T1 p1] w) := by
  go_enter Tryz.func172, Tryz.ntmps172
  go_wp2_with fail
  go_ret
  exact ⟨_, rfl, row_new w _ [.iface T0 p0, .iface T1 p1] _, below_two w _ _⟩

set_option maxRecDepth 100000 in
theorem kids_cond (T0 T1 T2 : TypeId) (p0 p1 p2 : Value) (w : World) : Calls Tryz.prog 178 #[.agg #[.iface T0 p0, .iface T1 p1, .iface T2 p2]] w (KidsPost [.iface T0 p0, .iface T1 p1, .iface T2 p2] w) := by
  go_enter Tryz.func178, Tryz.ntmps178
  go_wp2_with fail
  go_ret
  exact ⟨_, rfl, row_new w _ [.iface T0 p0, .iface T1 p1, .iface T2 p2] _, below_two w _ _⟩

set_option maxRecDepth 100000 in
theorem kids_sign (k : Int) (T0 T1 : TypeId) (p0 p1 : Value) (w : World) : Calls Tryz.prog 222 #[.agg #[.int .i64 k, .iface T0 p0, .iface T1 p1]] w (KidsPost [.iface T0 p0, .iface T1 p1] w) := by
  go_enter Tryz.func222, Tryz.ntmps222
  go_wp2_with fail
  go_ret
  exact ⟨_, rfl, row_new w _ [.iface T0 p0, .iface T1 p1] _, below_two w _ _⟩

set_option maxRecDepth 100000 in
theorem kids_pair (T0 T1 : TypeId) (p0 p1 : Value) (w : World) : Calls Tryz.prog 206 #[.agg #[.iface T0 p0, .iface T1 p1]] w (KidsPost [.iface T0 p0, .iface T1 p1] w) := by
  go_enter Tryz.func206, Tryz.ntmps206
  go_wp2_with fail
  go_ret
  exact ⟨_, rfl, row_new w _ [.iface T0 p0, .iface T1 p1] _, below_two w _ _⟩

set_option maxRecDepth 100000 in
theorem kids_take (k : Int) (T0 : TypeId) (p0 : Value) (w : World) : Calls Tryz.prog 210 #[.agg #[.int .i64 k, .iface T0 p0]] w (KidsPost [.iface T0 p0] w) := by
  go_enter Tryz.func210, Tryz.ntmps210
  go_wp2_with fail
  go_ret
  exact ⟨_, rfl, row_new w _ [.iface T0 p0] _, below_two w _ _⟩

set_option maxRecDepth 100000 in
theorem kids_cons (T0 T1 : TypeId) (p0 p1 : Value) (w : World) : Calls Tryz.prog 214 #[.agg #[.iface T0 p0, .iface T1 p1]] w (KidsPost [.iface T0 p0, .iface T1 p1] w) := by
  go_enter Tryz.func214, Tryz.ntmps214
  go_wp2_with fail
  go_ret
  exact ⟨_, rfl, row_new w _ [.iface T0 p0, .iface T1 p1] _, below_two w _ _⟩

set_option maxRecDepth 100000 in
theorem kids_case (a b : ByteArray) (T0 T1 T2 : TypeId) (p0 p1 p2 : Value) (w : World) : Calls Tryz.prog 181 #[.agg #[.iface T0 p0, .iface T1 p1, .string a, .string b, .iface T2 p2]] w (KidsPost [.iface T0 p0, .iface T1 p1, .iface T2 p2] w) := by
  go_enter Tryz.func181, Tryz.ntmps181
  go_wp2_with fail
  go_ret
  exact ⟨_, rfl, row_new w _ [.iface T0 p0, .iface T1 p1, .iface T2 p2] _, below_two w _ _⟩

set_option maxRecDepth 100000 in
theorem kids_perform (a : ByteArray) (T0 : TypeId) (p0 : Value) (w : World) : Calls Tryz.prog 218 #[.agg #[.string a, .iface T0 p0]] w (KidsPost [.iface T0 p0] w) := by
  go_enter Tryz.func218, Tryz.ntmps218
  go_wp2_with fail
  go_ret
  exact ⟨_, rfl, row_new w _ [.iface T0 p0] _, below_two w _ _⟩

set_option maxRecDepth 100000 in
theorem kids_ret (a : ByteArray) (T0 : TypeId) (p0 : Value) (w : World) : Calls Tryz.prog 188 #[.agg #[.string a, .iface T0 p0]] w (KidsPost [.iface T0 p0] w) := by
  go_enter Tryz.func188, Tryz.ntmps188
  go_wp2_with fail
  go_ret
  exact ⟨_, rfl, row_new w _ [.iface T0 p0] _, below_two w _ _⟩

set_option maxRecDepth 100000 in
theorem kids_op (a b c : ByteArray) (T0 : TypeId) (p0 : Value) (w : World) : Calls Tryz.prog 191 #[.agg #[.string a, .string b, .string c, .iface T0 p0]] w (KidsPost [.iface T0 p0] w) := by
  go_enter Tryz.func191, Tryz.ntmps191
  go_wp2_with fail
  go_ret
  exact ⟨_, rfl, row_new w _ [.iface T0 p0] _, below_two w _ _⟩

set_option maxHeartbeats 1000000 in
set_option maxRecDepth 100000 in
theorem kids_handler (k : Int) (T0 : TypeId) (p0 sl : Value) (us : List Value) (w : World) (hs : RowAt 0 w sl us) (hl : us.length ≤ 5) (hi : ∀ u ∈ us, ∃ T p, u = .iface T p) :
    Calls Tryz.prog 184 #[.agg #[.int .i64 k, .iface T0 p0, sl]] w (KidsPost (.iface T0 p0 :: us) w) := by
  obtain ⟨g, o, cap, rfl, _, hg, hc⟩ := hs
  obtain ⟨i0, hinf, hz0, hz1, hz2⟩ := info_parts info_form
  obtain ⟨WA, hWA⟩ : ∃ WA, w.alloc (.cells #[.int .i64 k, .iface T0 p0, .slice (some ⟨g, o, none⟩) us.length cap] 124) = WA := ⟨_, rfl⟩
  have hb1 : Below w.heap.size w WA := by rw [← hWA]; exact (Below.refl _ _).alloc (Nat.le_refl _) _
  have hsz : WA.heap.size = w.heap.size + 1 := by rw [← hWA]; simp
  have hb2 : Below w.heap.size w (WA.alloc (.cells #[.iface T0 p0] 64)) := hb1.alloc (by omega) _
  have hown : (WA.alloc (.cells #[.iface T0 p0] 64)).ownsRow (w.heap.size + 1) 64 1 (.slice (some ⟨WA.heap.size, 0, none⟩) 1 1) 1 [.iface T0 p0] := World.ownsRow_lit WA #[.iface T0 p0] 1 (by omega) (by unfold maxLen; omega) rfl
  rw [hsz] at hown
  have hcs : ∀ j u, us[j]? = some u → (WA.alloc (.cells #[.iface T0 p0] 64)).cell? ((⟨g, o, none⟩ : Addr).add j) = some u := by
    intro j u hj
    have hjl : j < us.length := by
      rcases Nat.lt_or_ge j us.length with h | h
      · exact h
      · rw [List.getElem?_eq_none h] at hj; cases hj
    rw [WideShapes.add_plain, hb2.cell (p := ⟨g, o + j, none⟩) hg, hc j hjl, hj]
  have HO : Hid (World.ownsRow _ _ _ _ _ _ _) := hown
  have HC : Hid (∀ j u, _) := hcs
  have HI : Hid (∀ u ∈ us, ∃ T p, u = .iface T p) := hi
  have HL : Hid (us.length ≤ 5) := hl
  have HB2 : Hid (Below _ _ _) := hb2
  have HSZ : Hid (WA.heap.size = w.heap.size + 1) := hsz
  have HWA : Hid (_ = WA) := hWA
  clear hown hcs hi hl hc hb2 hb1 hsz hWA
  go_enter Tryz.func184, Tryz.ntmps184
  go_wp2_with (first
    | (at_builtin; rw [HWA.out]; refine wpList_append_own _ rfl _ _ 122 rfl (w.heap.size + 1) 64 i0 .nilIface 1 16 Tryz.underlying122 hinf hz0 hz1 hz2 rfl (by decide) _ _ _ rfl HO.out ⟨g, o, none⟩ us.length cap us rfl (by simp) HC.out (fun x hx => by obtain ⟨T, p, rfl⟩ := HI.out x hx; rfl) (by have := HL.out; unfold maxLen; omega) (by have := HL.out; omega) (by have := HSZ.out; simp; omega) ?_
       intro v' w5 hown' hgrow hnil
       have hB5 : Below w.heap.size w w5 := HB2.out.grown hgrow HB2.out.size (fun j hj => by have := (HO.out.lt _ hj).1; omega)
       clear hgrow hnil))
  go_ret
  exact ⟨_, rfl, sliceOf_own hown' (Nat.le_succ _), hB5⟩

theorem kidsOf_mk {w : World} {v : Value} {us : List Value} (T : TypeId) (pv : Value) (g : FuncId) (hv : v = .iface T pv) (hm : ∀ w, (method 342 T pv "loop.example/handrail/impl.kids").run Tryz.prog w = .ok (g, pv) w)
    (hc : ∀ args w, (callFunc g args).run Tryz.prog w = .ok (.enter g args) w) (hK : Calls Tryz.prog g #[pv] w (KidsPost us w)) : KidsOf w v us := ⟨T, pv, g, pv, hv, hm, hc, hK⟩

theorem kidsOf {B : Nat} {w : World} {n : Nd} {us : List Value} {v : Value} (h : Shape B w n us v) (hi : ∀ u ∈ us, ∃ T p, u = .iface T p) : KidsOf w v us := by
  cases h with
  | int => exact ⟨_, _, 164, .agg #[], rfl, fun w => by kernel_rfl, fun args w => by kernel_rfl, kids_leaf w⟩
  | bool => exact ⟨_, _, 164, .agg #[], rfl, fun w => by kernel_rfl, fun args w => by kernel_rfl, kids_leaf w⟩
  | unit => exact ⟨_, _, 164, .agg #[], rfl, fun w => by kernel_rfl, fun args w => by kernel_rfl, kids_leaf w⟩
  | nil => exact ⟨_, _, 164, .agg #[], rfl, fun w => by kernel_rfl, fun args w => by kernel_rfl, kids_leaf w⟩
  | var => exact ⟨_, _, 164, .agg #[], rfl, fun w => by kernel_rfl, fun args w => by kernel_rfl, kids_leaf w⟩
  | fn =>
    obtain ⟨T0, p0, rfl⟩ := hi _ (List.mem_of_getElem? (i := 0) rfl)
    exact kidsOf_mk _ _ 169 rfl (fun w => by kernel_rfl) (fun args w => by kernel_rfl) (kids_fn _ _ _ w)
  | app =>
    obtain ⟨T0, p0, rfl⟩ := hi _ (List.mem_of_getElem? (i := 0) rfl)
    obtain ⟨T1, p1, rfl⟩ := hi _ (List.mem_of_getElem? (i := 1) rfl)
    exact kidsOf_mk _ _ 202 rfl (fun w => by kernel_rfl) (fun args w => by kernel_rfl) (kids_app _ _ _ _ w)
  | bind =>
    obtain ⟨T0, p0, rfl⟩ := hi _ (List.mem_of_getElem? (i := 0) rfl)
    obtain ⟨T1, p1, rfl⟩ := hi _ (List.mem_of_getElem? (i := 1) rfl)
    exact kidsOf_mk _ _ 175 rfl (fun w => by kernel_rfl) (fun args w => by kernel_rfl) (kids_bind _ _ _ _ _ w)
  | recur =>
    obtain ⟨T0, p0, rfl⟩ := hi _ (List.mem_of_getElem? (i := 0) rfl)
    obtain ⟨T1, p1, rfl⟩ := hi _ (List.mem_of_getElem? (i := 1) rfl)
    exact kidsOf_mk _ _ 172 rfl (fun w => by kernel_rfl) (fun args w => by kernel_rfl) (kids_recur _ _ _ _ _ _ w)
  | cond =>
    obtain ⟨T0, p0, rfl⟩ := hi _ (List.mem_of_getElem? (i := 0) rfl)
    obtain ⟨T1, p1, rfl⟩ := hi _ (List.mem_of_getElem? (i := 1) rfl)
    obtain ⟨T2, p2, rfl⟩ := hi _ (List.mem_of_getElem? (i := 2) rfl)
    exact kidsOf_mk _ _ 178 rfl (fun w => by kernel_rfl) (fun args w => by kernel_rfl) (kids_cond _ _ _ _ _ _ w)
  | sign _ =>
    obtain ⟨T0, p0, rfl⟩ := hi _ (List.mem_of_getElem? (i := 0) rfl)
    obtain ⟨T1, p1, rfl⟩ := hi _ (List.mem_of_getElem? (i := 1) rfl)
    exact kidsOf_mk _ _ 222 rfl (fun w => by kernel_rfl) (fun args w => by kernel_rfl) (kids_sign _ _ _ _ _ w)
  | pair =>
    obtain ⟨T0, p0, rfl⟩ := hi _ (List.mem_of_getElem? (i := 0) rfl)
    obtain ⟨T1, p1, rfl⟩ := hi _ (List.mem_of_getElem? (i := 1) rfl)
    exact kidsOf_mk _ _ 206 rfl (fun w => by kernel_rfl) (fun args w => by kernel_rfl) (kids_pair _ _ _ _ w)
  | take _ =>
    obtain ⟨T0, p0, rfl⟩ := hi _ (List.mem_of_getElem? (i := 0) rfl)
    exact kidsOf_mk _ _ 210 rfl (fun w => by kernel_rfl) (fun args w => by kernel_rfl) (kids_take _ _ _ w)
  | cons =>
    obtain ⟨T0, p0, rfl⟩ := hi _ (List.mem_of_getElem? (i := 0) rfl)
    obtain ⟨T1, p1, rfl⟩ := hi _ (List.mem_of_getElem? (i := 1) rfl)
    exact kidsOf_mk _ _ 214 rfl (fun w => by kernel_rfl) (fun args w => by kernel_rfl) (kids_cons _ _ _ _ w)
  | case =>
    obtain ⟨T0, p0, rfl⟩ := hi _ (List.mem_of_getElem? (i := 0) rfl)
    obtain ⟨T1, p1, rfl⟩ := hi _ (List.mem_of_getElem? (i := 1) rfl)
    obtain ⟨T2, p2, rfl⟩ := hi _ (List.mem_of_getElem? (i := 2) rfl)
    exact kidsOf_mk _ _ 181 rfl (fun w => by kernel_rfl) (fun args w => by kernel_rfl) (kids_case _ _ _ _ _ _ _ _ w)
  | perform =>
    obtain ⟨T0, p0, rfl⟩ := hi _ (List.mem_of_getElem? (i := 0) rfl)
    exact kidsOf_mk _ _ 218 rfl (fun w => by kernel_rfl) (fun args w => by kernel_rfl) (kids_perform _ _ _ w)
  | handler _ hs hl =>
    obtain ⟨T0, p0, rfl⟩ := hi _ (List.mem_of_getElem? (i := 0) rfl)
    exact kidsOf_mk _ _ 184 rfl (fun w => by kernel_rfl) (fun args w => by kernel_rfl) (kids_handler _ _ _ _ _ w (hs.kept (Nat.zero_le _) (Nat.le_refl _) (fun _ _ _ => rfl)) hl (fun u hu => hi u (List.mem_cons_of_mem _ hu)))
  | ret =>
    obtain ⟨T0, p0, rfl⟩ := hi _ (List.mem_of_getElem? (i := 0) rfl)
    exact kidsOf_mk _ _ 188 rfl (fun w => by kernel_rfl) (fun args w => by kernel_rfl) (kids_ret _ _ _ w)
  | op =>
    obtain ⟨T0, p0, rfl⟩ := hi _ (List.mem_of_getElem? (i := 0) rfl)
    exact kidsOf_mk _ _ 191 rfl (fun w => by kernel_rfl) (fun args w => by kernel_rfl) (kids_op _ _ _ _ _ w)
end Go.Proofs.YtgiejnmphfgmgaaGreatDoor
