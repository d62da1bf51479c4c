/- The node of a form, as its method tells it. -/
import Derived.Test.YtgiejnmphfgmgaaGreatDoorKidsOf
namespace Go.Proofs.YtgiejnmphfgmgaaGreatDoor
open Go.RowKit Go.Deep

/-- A node as a value. -/
def ndV (n : Nd) : Value := .agg #[.int .i64 n.kind, .int .i64 n.num, .string n.a, .string n.b, .string n.c, .int .i64 n.kids]

/-- What a form keeps of a node. -/
def bareZ (n : Nd) : Nd :=
  ⟨n.kind, if n.kind = 1 ∨ n.kind = 2 then n.num else 0, if 1 ≤ namesZ n.kind then n.a else ⟨#[]⟩, if 2 ≤ namesZ n.kind then n.b else ⟨#[]⟩, if 3 ≤ namesZ n.kind then n.c else ⟨#[]⟩, 0⟩

def NodePost (m : Nd) (w : World) (e : Ending) (w' : World) : Prop := e = .returned (ndV m) ∧ Below w.heap.size w w'

/-- A call of the method 'node' of this value tells this node. -/
def NodeOf (w : World) (v : Value) (m : Nd) : Prop :=
  ∃ T pv g rv, v = .iface T pv ∧ (∀ w, (method 342 T pv "loop.example/handrail/impl.node").run Tryz.prog w = .ok (g, rv) w) ∧ (∀ args w, (callFunc g args).run Tryz.prog w = .ok (.enter g args) w) ∧ Calls Tryz.prog g #[rv] w (NodePost m w)

set_option maxRecDepth 100000 in
theorem node_int (num : Int) (w : World) : Calls Tryz.prog 194 #[.agg #[.int .i64 num]] w (NodePost ⟨1, num, ⟨#[]⟩, ⟨#[]⟩, ⟨#[]⟩, 0⟩ w) := by
  go_enter Tryz.func194, Tryz.ntmps194
  go_wp2_with fail
  refine bodyPost_ret (v := ndV ⟨1, num, ⟨#[]⟩, ⟨#[]⟩, ⟨#[]⟩, 0⟩) (by simp [results, Tryz.results194, go_sem, ndV]) rfl ?_
  exact ⟨rfl, by repeat (first | exact Below.refl _ _ | refine Below.alloc ?_ (by first | (simp; done) | (simp; omega)) _)⟩

set_option maxRecDepth 100000 in
theorem node_bool (num : Int) (w : World) : Calls Tryz.prog 196 #[.agg #[.int .i64 num]] w (NodePost ⟨2, num, ⟨#[]⟩, ⟨#[]⟩, ⟨#[]⟩, 0⟩ w) := by
  go_enter Tryz.func196, Tryz.ntmps196
  go_wp2_with fail
  refine bodyPost_ret (v := ndV ⟨2, num, ⟨#[]⟩, ⟨#[]⟩, ⟨#[]⟩, 0⟩) (by simp [results, Tryz.results196, go_sem, ndV]) rfl ?_
  exact ⟨rfl, by repeat (first | exact Below.refl _ _ | refine Below.alloc ?_ (by first | (simp; done) | (simp; omega)) _)⟩

set_option maxRecDepth 100000 in
theorem node_unit  (w : World) : Calls Tryz.prog 198 #[.agg #[]] w (NodePost ⟨3, 0, ⟨#[]⟩, ⟨#[]⟩, ⟨#[]⟩, 0⟩ w) := by
  go_enter Tryz.func198, Tryz.ntmps198
  go_wp2_with fail
  refine bodyPost_ret (v := ndV ⟨3, 0, ⟨#[]⟩, ⟨#[]⟩, ⟨#[]⟩, 0⟩) (by simp [results, Tryz.results198, go_sem, ndV]) rfl ?_
  exact ⟨rfl, by repeat (first | exact Below.refl _ _ | refine Below.alloc ?_ (by first | (simp; done) | (simp; omega)) _)⟩

set_option maxRecDepth 100000 in
theorem node_nil  (w : World) : Calls Tryz.prog 200 #[.agg #[]] w (NodePost ⟨4, 0, ⟨#[]⟩, ⟨#[]⟩, ⟨#[]⟩, 0⟩ w) := by
  go_enter Tryz.func200, Tryz.ntmps200
  go_wp2_with fail
  refine bodyPost_ret (v := ndV ⟨4, 0, ⟨#[]⟩, ⟨#[]⟩, ⟨#[]⟩, 0⟩) (by simp [results, Tryz.results200, go_sem, ndV]) rfl ?_
  exact ⟨rfl, by repeat (first | exact Below.refl _ _ | refine Below.alloc ?_ (by first | (simp; done) | (simp; omega)) _)⟩

set_option maxRecDepth 100000 in
theorem node_var (a : ByteArray) (w : World) : Calls Tryz.prog 166 #[.agg #[.string a]] w (NodePost ⟨5, 0, a, ⟨#[]⟩, ⟨#[]⟩, 0⟩ w) := by
  go_enter Tryz.func166, Tryz.ntmps166
  go_wp2_with fail
  refine bodyPost_ret (v := ndV ⟨5, 0, a, ⟨#[]⟩, ⟨#[]⟩, 0⟩) (by simp [results, Tryz.results166, go_sem, ndV]) rfl ?_
  exact ⟨rfl, by repeat (first | exact Below.refl _ _ | refine Below.alloc ?_ (by first | (simp; done) | (simp; omega)) _)⟩

set_option maxRecDepth 100000 in
theorem node_fn (a : ByteArray) (T0 : TypeId) (p0 : Value) (w : World) : Calls Tryz.prog 170 #[.agg #[.string a, .iface T0 p0]] w (NodePost ⟨6, 0, a, ⟨#[]⟩, ⟨#[]⟩, 0⟩ w) := by
  go_enter Tryz.func170, Tryz.ntmps170
  go_wp2_with fail
  refine bodyPost_ret (v := ndV ⟨6, 0, a, ⟨#[]⟩, ⟨#[]⟩, 0⟩) (by simp [results, Tryz.results170, go_sem, ndV]) rfl ?_
  exact ⟨rfl, by repeat (first | exact Below.refl _ _ | refine Below.alloc ?_ (by first | (simp; done) | (simp; omega)) _)⟩

set_option maxRecDepth 100000 in
theorem node_app (T0 T1 : TypeId) (p0 p1 : Value) (w : World) : Calls Tryz.prog 204 #[.agg #[.iface T0 p0, .iface T1 p1]] w (NodePost ⟨7, 0, ⟨#[]⟩, ⟨#[]⟩, ⟨#[]⟩, 0⟩ w) := by
  go_enter Tryz.func204, Tryz.ntmps204
  go_wp2_with fail
  refine bodyPost_ret (v := ndV ⟨7, 0, ⟨#[]⟩, ⟨#[]⟩, ⟨#[]⟩, 0⟩) (by simp [results, Tryz.results204, go_sem, ndV]) rfl ?_
  exact ⟨rfl, by repeat (first | exact Below.refl _ _ | refine Below.alloc ?_ (by first | (simp; done) | (simp; omega)) _)⟩

set_option maxRecDepth 100000 in
theorem node_bind (a : ByteArray) (T0 T1 : TypeId) (p0 p1 : Value) (w : World) : Calls Tryz.prog 176 #[.agg #[.string a, .iface T0 p0, .iface T1 p1]] w (NodePost ⟨8, 0, a, ⟨#[]⟩, ⟨#[]⟩, 0⟩ w) := by
  go_enter Tryz.func176, Tryz.ntmps176
  go_wp2_with fail
  refine bodyPost_ret (v := ndV ⟨8, 0, a, ⟨#[]⟩, ⟨#[]⟩, 0⟩) (by simp [results, Tryz.results176, go_sem, ndV]) rfl ?_
  exact ⟨rfl, by repeat (first | exact Below.refl _ _ | refine Below.alloc ?_ (by first | (simp; done) | (simp; omega)) _)⟩

set_option maxRecDepth 100000 in
theorem node_recur (a b : ByteArray) (T0 T1 : TypeId) (p0 p1 : Value) (w : World) : Calls Tryz.prog 173 #[.agg #[.string a, .string b, .iface T0 p0, .iface T1 p1]] w (NodePost ⟨9, 0, a, b, ⟨#[]⟩, 0⟩ w) := by
  go_enter Tryz.func173, Tryz.ntmps173
  go_wp2_with fail
  refine bodyPost_ret (v := ndV ⟨9, 0, a, b, ⟨#[]⟩, 0⟩) (by simp [results, Tryz.results173, go_sem, ndV]) rfl ?_
  exact ⟨rfl, by repeat (first | exact Below.refl _ _ | refine Below.alloc ?_ (by first | (simp; done) | (simp; omega)) _)⟩

set_option maxRecDepth 100000 in
theorem node_cond (T0 T1 T2 : TypeId) (p0 p1 p2 : Value) (w : World) : Calls Tryz.prog 179 #[.agg #[.iface T0 p0, .iface T1 p1, .iface T2 p2]] w (NodePost ⟨10, 0, ⟨#[]⟩, ⟨#[]⟩, ⟨#[]⟩, 0⟩ w) := by
  go_enter Tryz.func179, Tryz.ntmps179
  go_wp2_with fail
  refine bodyPost_ret (v := ndV ⟨10, 0, ⟨#[]⟩, ⟨#[]⟩, ⟨#[]⟩, 0⟩) (by simp [results, Tryz.results179, go_sem, ndV]) rfl ?_
  exact ⟨rfl, by repeat (first | exact Below.refl _ _ | refine Below.alloc ?_ (by first | (simp; done) | (simp; omega)) _)⟩

set_option maxRecDepth 100000 in
theorem node_sign (k : Int) (T0 T1 : TypeId) (p0 p1 : Value) (w : World) : Calls Tryz.prog 224 #[.agg #[.int .i64 k, .iface T0 p0, .iface T1 p1]] w (NodePost ⟨k, 0, ⟨#[]⟩, ⟨#[]⟩, ⟨#[]⟩, 0⟩ w) := by
  go_enter Tryz.func224, Tryz.ntmps224
  go_wp2_with fail
  refine bodyPost_ret (v := ndV ⟨k, 0, ⟨#[]⟩, ⟨#[]⟩, ⟨#[]⟩, 0⟩) (by simp [results, Tryz.results224, go_sem, ndV]) rfl ?_
  exact ⟨rfl, by repeat (first | exact Below.refl _ _ | refine Below.alloc ?_ (by first | (simp; done) | (simp; omega)) _)⟩

set_option maxRecDepth 100000 in
theorem node_pair (T0 T1 : TypeId) (p0 p1 : Value) (w : World) : Calls Tryz.prog 208 #[.agg #[.iface T0 p0, .iface T1 p1]] w (NodePost ⟨16, 0, ⟨#[]⟩, ⟨#[]⟩, ⟨#[]⟩, 0⟩ w) := by
  go_enter Tryz.func208, Tryz.ntmps208
  go_wp2_with fail
  refine bodyPost_ret (v := ndV ⟨16, 0, ⟨#[]⟩, ⟨#[]⟩, ⟨#[]⟩, 0⟩) (by simp [results, Tryz.results208, go_sem, ndV]) rfl ?_
  exact ⟨rfl, by repeat (first | exact Below.refl _ _ | refine Below.alloc ?_ (by first | (simp; done) | (simp; omega)) _)⟩

set_option maxRecDepth 100000 in
theorem node_take (k : Int) (T0 : TypeId) (p0 : Value) (w : World) : Calls Tryz.prog 212 #[.agg #[.int .i64 k, .iface T0 p0]] w (NodePost ⟨k, 0, ⟨#[]⟩, ⟨#[]⟩, ⟨#[]⟩, 0⟩ w) := by
  go_enter Tryz.func212, Tryz.ntmps212
  go_wp2_with fail
  refine bodyPost_ret (v := ndV ⟨k, 0, ⟨#[]⟩, ⟨#[]⟩, ⟨#[]⟩, 0⟩) (by simp [results, Tryz.results212, go_sem, ndV]) rfl ?_
  exact ⟨rfl, by repeat (first | exact Below.refl _ _ | refine Below.alloc ?_ (by first | (simp; done) | (simp; omega)) _)⟩

set_option maxRecDepth 100000 in
theorem node_cons (T0 T1 : TypeId) (p0 p1 : Value) (w : World) : Calls Tryz.prog 216 #[.agg #[.iface T0 p0, .iface T1 p1]] w (NodePost ⟨19, 0, ⟨#[]⟩, ⟨#[]⟩, ⟨#[]⟩, 0⟩ w) := by
  go_enter Tryz.func216, Tryz.ntmps216
  go_wp2_with fail
  refine bodyPost_ret (v := ndV ⟨19, 0, ⟨#[]⟩, ⟨#[]⟩, ⟨#[]⟩, 0⟩) (by simp [results, Tryz.results216, go_sem, ndV]) rfl ?_
  exact ⟨rfl, by repeat (first | exact Below.refl _ _ | refine Below.alloc ?_ (by first | (simp; done) | (simp; omega)) _)⟩

set_option maxRecDepth 100000 in
theorem node_case (a b : ByteArray) (T0 T1 T2 : TypeId) (p0 p1 p2 : Value) (w : World) : Calls Tryz.prog 182 #[.agg #[.iface T0 p0, .iface T1 p1, .string a, .string b, .iface T2 p2]] w (NodePost ⟨20, 0, a, b, ⟨#[]⟩, 0⟩ w) := by
  go_enter Tryz.func182, Tryz.ntmps182
  go_wp2_with fail
  refine bodyPost_ret (v := ndV ⟨20, 0, a, b, ⟨#[]⟩, 0⟩) (by simp [results, Tryz.results182, go_sem, ndV]) rfl ?_
  exact ⟨rfl, by repeat (first | exact Below.refl _ _ | refine Below.alloc ?_ (by first | (simp; done) | (simp; omega)) _)⟩

set_option maxRecDepth 100000 in
theorem node_perform (a : ByteArray) (T0 : TypeId) (p0 : Value) (w : World) : Calls Tryz.prog 220 #[.agg #[.string a, .iface T0 p0]] w (NodePost ⟨22, 0, a, ⟨#[]⟩, ⟨#[]⟩, 0⟩ w) := by
  go_enter Tryz.func220, Tryz.ntmps220
  go_wp2_with fail
  refine bodyPost_ret (v := ndV ⟨22, 0, a, ⟨#[]⟩, ⟨#[]⟩, 0⟩) (by simp [results, Tryz.results220, go_sem, ndV]) rfl ?_
  exact ⟨rfl, by repeat (first | exact Below.refl _ _ | refine Below.alloc ?_ (by first | (simp; done) | (simp; omega)) _)⟩

set_option maxRecDepth 100000 in
theorem node_handler (k : Int) (T0 : TypeId) (p0 : Value) (ad : Option Addr) (sn sc : Nat) (w : World) : Calls Tryz.prog 186 #[.agg #[.int .i64 k, .iface T0 p0, .slice ad sn sc]] w (NodePost ⟨k, 0, ⟨#[]⟩, ⟨#[]⟩, ⟨#[]⟩, 0⟩ w) := by
  go_enter Tryz.func186, Tryz.ntmps186
  go_wp2_with fail
  refine bodyPost_ret (v := ndV ⟨k, 0, ⟨#[]⟩, ⟨#[]⟩, ⟨#[]⟩, 0⟩) (by simp [results, Tryz.results186, go_sem, ndV]) rfl ?_
  exact ⟨rfl, by repeat (first | exact Below.refl _ _ | refine Below.alloc ?_ (by first | (simp; done) | (simp; omega)) _)⟩

set_option maxRecDepth 100000 in
theorem node_ret (a : ByteArray) (T0 : TypeId) (p0 : Value) (w : World) : Calls Tryz.prog 189 #[.agg #[.string a, .iface T0 p0]] w (NodePost ⟨25, 0, a, ⟨#[]⟩, ⟨#[]⟩, 0⟩ w) := by
  go_enter Tryz.func189, Tryz.ntmps189
  go_wp2_with fail
  refine bodyPost_ret (v := ndV ⟨25, 0, a, ⟨#[]⟩, ⟨#[]⟩, 0⟩) (by simp [results, Tryz.results189, go_sem, ndV]) rfl ?_
  exact ⟨rfl, by repeat (first | exact Below.refl _ _ | refine Below.alloc ?_ (by first | (simp; done) | (simp; omega)) _)⟩

set_option maxRecDepth 100000 in
theorem node_op (a b c : ByteArray) (T0 : TypeId) (p0 : Value) (w : World) : Calls Tryz.prog 192 #[.agg #[.string a, .string b, .string c, .iface T0 p0]] w (NodePost ⟨26, 0, a, b, c, 0⟩ w) := by
  go_enter Tryz.func192, Tryz.ntmps192
  go_wp2_with fail
  refine bodyPost_ret (v := ndV ⟨26, 0, a, b, c, 0⟩) (by simp [results, Tryz.results192, go_sem, ndV]) rfl ?_
  exact ⟨rfl, by repeat (first | exact Below.refl _ _ | refine Below.alloc ?_ (by first | (simp; done) | (simp; omega)) _)⟩

theorem nodeOf_mk {w : World} {v : Value} {m m' : Nd} (T : TypeId) (pv : Value) (g : FuncId) (hv : v = .iface T pv) (hm : ∀ w, (method 342 T pv "loop.example/handrail/impl.node").run Tryz.prog w = .ok (g, pv) w)
    (hc : ∀ args w, (callFunc g args).run Tryz.prog w = .ok (.enter g args) w) (he : m' = m) (hK : Calls Tryz.prog g #[pv] w (NodePost m w)) : NodeOf w v m' := by
  subst he
  exact ⟨T, pv, g, pv, hv, hm, hc, hK⟩

theorem nodeOf {B : Nat} {w : World} {n : Nd} {us : List Value} {v : Value} (h : Shape B w n us v) (hi : ∀ u ∈ us, ∃ T p, u = .iface T p) : NodeOf w v (bareZ n) := by
  cases h with
  | int =>
    exact nodeOf_mk _ _ 194 rfl (fun w => by kernel_rfl) (fun args w => by kernel_rfl) rfl (node_int _ w)
  | bool =>
    exact nodeOf_mk _ _ 196 rfl (fun w => by kernel_rfl) (fun args w => by kernel_rfl) rfl (node_bool _ w)
  | unit =>
    exact nodeOf_mk _ _ 198 rfl (fun w => by kernel_rfl) (fun args w => by kernel_rfl) rfl (node_unit  w)
  | nil =>
    exact nodeOf_mk _ _ 200 rfl (fun w => by kernel_rfl) (fun args w => by kernel_rfl) rfl (node_nil  w)
  | var =>
    exact nodeOf_mk _ _ 166 rfl (fun w => by kernel_rfl) (fun args w => by kernel_rfl) rfl (node_var _ w)
  | fn =>
    obtain ⟨T0, p0, rfl⟩ := hi _ (List.mem_of_getElem? (i := 0) rfl)
    exact nodeOf_mk _ _ 170 rfl (fun w => by kernel_rfl) (fun args w => by kernel_rfl) rfl (node_fn _ _ _ w)
  | app =>
    obtain ⟨T0, p0, rfl⟩ := hi _ (List.mem_of_getElem? (i := 0) rfl)
    obtain ⟨T1, p1, rfl⟩ := hi _ (List.mem_of_getElem? (i := 1) rfl)
    exact nodeOf_mk _ _ 204 rfl (fun w => by kernel_rfl) (fun args w => by kernel_rfl) rfl (node_app _ _ _ _ w)
  | bind =>
    obtain ⟨T0, p0, rfl⟩ := hi _ (List.mem_of_getElem? (i := 0) rfl)
    obtain ⟨T1, p1, rfl⟩ := hi _ (List.mem_of_getElem? (i := 1) rfl)
    exact nodeOf_mk _ _ 176 rfl (fun w => by kernel_rfl) (fun args w => by kernel_rfl) rfl (node_bind _ _ _ _ _ w)
  | recur =>
    obtain ⟨T0, p0, rfl⟩ := hi _ (List.mem_of_getElem? (i := 0) rfl)
    obtain ⟨T1, p1, rfl⟩ := hi _ (List.mem_of_getElem? (i := 1) rfl)
    exact nodeOf_mk _ _ 173 rfl (fun w => by kernel_rfl) (fun args w => by kernel_rfl) rfl (node_recur _ _ _ _ _ _ w)
  | cond =>
    obtain ⟨T0, p0, rfl⟩ := hi _ (List.mem_of_getElem? (i := 0) rfl)
    obtain ⟨T1, p1, rfl⟩ := hi _ (List.mem_of_getElem? (i := 1) rfl)
    obtain ⟨T2, p2, rfl⟩ := hi _ (List.mem_of_getElem? (i := 2) rfl)
    exact nodeOf_mk _ _ 179 rfl (fun w => by kernel_rfl) (fun args w => by kernel_rfl) rfl (node_cond _ _ _ _ _ _ w)
  | sign h =>
    obtain ⟨T0, p0, rfl⟩ := hi _ (List.mem_of_getElem? (i := 0) rfl)
    obtain ⟨T1, p1, rfl⟩ := hi _ (List.mem_of_getElem? (i := 1) rfl)
    exact nodeOf_mk _ _ 224 rfl (fun w => by kernel_rfl) (fun args w => by kernel_rfl) (by rcases h with rfl | rfl | rfl | rfl | rfl <;> rfl) (node_sign _ _ _ _ _ w)
  | pair =>
    obtain ⟨T0, p0, rfl⟩ := hi _ (List.mem_of_getElem? (i := 0) rfl)
    obtain ⟨T1, p1, rfl⟩ := hi _ (List.mem_of_getElem? (i := 1) rfl)
    exact nodeOf_mk _ _ 208 rfl (fun w => by kernel_rfl) (fun args w => by kernel_rfl) rfl (node_pair _ _ _ _ w)
  | take h =>
    obtain ⟨T0, p0, rfl⟩ := hi _ (List.mem_of_getElem? (i := 0) rfl)
    exact nodeOf_mk _ _ 212 rfl (fun w => by kernel_rfl) (fun args w => by kernel_rfl) (by rcases h with rfl | rfl | rfl <;> rfl) (node_take _ _ _ w)
  | cons =>
    obtain ⟨T0, p0, rfl⟩ := hi _ (List.mem_of_getElem? (i := 0) rfl)
    obtain ⟨T1, p1, rfl⟩ := hi _ (List.mem_of_getElem? (i := 1) rfl)
    exact nodeOf_mk _ _ 216 rfl (fun w => by kernel_rfl) (fun args w => by kernel_rfl) rfl (node_cons _ _ _ _ w)
  | case =>
    obtain ⟨T0, p0, rfl⟩ := hi _ (List.mem_of_getElem? (i := 0) rfl)
    obtain ⟨T1, p1, rfl⟩ := hi _ (List.mem_of_getElem? (i := 1) rfl)
    obtain ⟨T2, p2, rfl⟩ := hi _ (List.mem_of_getElem? (i := 2) rfl)
    exact nodeOf_mk _ _ 182 rfl (fun w => by kernel_rfl) (fun args w => by kernel_rfl) rfl (node_case _ _ _ _ _ _ _ _ w)
  | perform =>
    obtain ⟨T0, p0, rfl⟩ := hi _ (List.mem_of_getElem? (i := 0) rfl)
    exact nodeOf_mk _ _ 220 rfl (fun w => by kernel_rfl) (fun args w => by kernel_rfl) rfl (node_perform _ _ _ w)
  | handler h hs hl =>
    obtain ⟨T0, p0, rfl⟩ := hi _ (List.mem_of_getElem? (i := 0) rfl)
    obtain ⟨g0, o0, c0, rfl, -⟩ := hs
    exact nodeOf_mk _ _ 186 rfl (fun w => by kernel_rfl) (fun args w => by kernel_rfl) (by rcases h with rfl | rfl <;> rfl) (node_handler _ _ _ _ _ _ w)
  | ret =>
    obtain ⟨T0, p0, rfl⟩ := hi _ (List.mem_of_getElem? (i := 0) rfl)
    exact nodeOf_mk _ _ 189 rfl (fun w => by kernel_rfl) (fun args w => by kernel_rfl) rfl (node_ret _ _ _ w)
  | op =>
    obtain ⟨T0, p0, rfl⟩ := hi _ (List.mem_of_getElem? (i := 0) rfl)
    exact nodeOf_mk _ _ 192 rfl (fun w => by kernel_rfl) (fun args w => by kernel_rfl) rfl (node_op _ _ _ _ _ w)
end Go.Proofs.YtgiejnmphfgmgaaGreatDoor
