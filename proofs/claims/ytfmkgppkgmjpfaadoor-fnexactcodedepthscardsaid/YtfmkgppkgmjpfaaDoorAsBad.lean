/- errors.As where a *badCode is looked for: a nil error, and a *badCode itself. -/
import Derived.Test.YtfmkgppkgmjpfaaDoorImplFl
import Derived.WalkKit
import Derived.LaidEql
import Derived.Stop.Asserts
import Derived.RowKitTokens
namespace Go.Proofs.YtfmkgppkgmjpfaaDoor
open Go.RowKit Go.Extern.Stop Go.Stop Go.Extern

/-- What the package errors holds as the type of all errors. -/
def LaidE (w : World) : Prop := w.cell? ⟨0, 0, none⟩ = some (.iface 95 (.agg #[.pointer (some ⟨1, 45, none⟩)]))

theorem asBad_nil (t : Value) (w : World) : Calls Tryd.prog 27 #[.nilIface, t] w fun e w' => e = .returned (.bool false) ∧ w' = w := by
  go_enter Tryd.func27, Tryd.ntmps27
  go_wp2
  go_ret
  exact ⟨rfl, rfl⟩

/-- A Value of a **badCode, its own copy in the block b. -/
abbrev valPP (b : Nat) : Value := .agg #[.pointer (some ⟨1, 67, none⟩), .pointer (some ⟨b, 0, none⟩), .int .u64 150]
abbrev valP (a : Addr) (fl : Int) : Value := .agg #[.pointer (some ⟨1, 55, none⟩), .pointer (some a), .int .u64 fl]
abbrev typP (t : Nat) : Value := .agg #[.pointer (some ⟨1, t, none⟩)]
abbrev typI (t : Nat) : Value := .iface 95 (typP t)

theorem bc_valueOf2 (t : Addr) (w : World) : (ReflectliteValue.unpack (.iface 67 (.pointer (some t)))).run Tryd.prog w = .ok (valPP w.heap.size) (w.alloc (.cells #[.pointer (some t)] 67)) := by kernel_rfl
theorem bc_valueOf (e : Addr) (w : World) : (ReflectliteValue.unpack (.iface 55 (.pointer (some e)))).run Tryd.prog w = .ok (valP ⟨w.heap.size, 0, none⟩ 150) (w.alloc (.cells #[.pointer (some e)] 55)) := by kernel_rfl
theorem bc_type2 (b : Nat) (w : World) : (ReflectliteValue.methodAny (ReflectliteValue.valueError "reflectlite.Value.Type" 0) (fun t _ _ _ => ReflectliteType.toType t) #[valPP b]).run Tryd.prog w = .ok (typI 67) w := by kernel_rfl
theorem bc_mKind (h : Value) (w : World) : (Go.method 240 95 (.agg #[h]) "Kind").run Tryd.prog w = .ok (65, h) w := by kernel_rfl
theorem bc_mElem (h : Value) (w : World) : (Go.method 240 95 (.agg #[h]) "Elem").run Tryd.prog w = .ok (76, .agg #[h]) w := by kernel_rfl
theorem bc_mImpl (h : Value) (w : World) : (Go.method 240 95 (.agg #[h]) "Implements").run Tryd.prog w = .ok (77, .agg #[h]) w := by kernel_rfl
theorem bc_mAssign (h : Value) (w : World) : (Go.method 240 95 (.agg #[h]) "AssignableTo").run Tryd.prog w = .ok (74, .agg #[h]) w := by kernel_rfl
theorem bc_kind2 (w : World) : ((ReflectliteType.abiMethod fun t => (fun a : Nat => Value.int IntKind.u8 (a : Int)) <$> Rtype.kind t) #[.pointer (some ⟨1, 67, none⟩)]).run Tryd.prog w = .ok (.int .u8 22) w := by kernel_rfl
theorem bc_kind (w : World) : ((ReflectliteType.abiMethod fun t => (fun a : Nat => Value.int IntKind.u8 (a : Int)) <$> Rtype.kind t) #[.pointer (some ⟨1, 55, none⟩)]).run Tryd.prog w = .ok (.int .u8 22) w := by kernel_rfl
theorem bc_elem (w : World) : (ReflectliteType.method ReflectliteType.elem #[typP 67]).run Tryd.prog w = .ok (typI 55) w := by kernel_rfl
theorem bc_impl (w : World) : (ReflectliteType.relation "Implements" ReflectliteType.implements_ #[typP 55, typI 45]).run Tryd.prog w = .ok (.bool true) w := by kernel_rfl
theorem bc_typeOf (v : Value) (w : World) : (ReflectliteType.typeOf #[.iface 55 v]).run Tryd.prog w = .ok (typI 55) w := by kernel_rfl
theorem bc_assign (w : World) : (ReflectliteType.relation "AssignableTo" ReflectliteType.assignableTo #[typP 55, typI 55]).run Tryd.prog w = .ok (.bool true) w := by kernel_rfl
theorem bc_parts2 (b : Nat) (w : World) : (ReflectliteValue.parts (valPP b)).run Tryd.prog w = .ok (some (67, ⟨b, 0, none⟩, 150)) w := by kernel_rfl
theorem bc_partsA (a : Addr) (w : World) : (ReflectliteValue.parts (valP a 406)).run Tryd.prog w = .ok (some (55, a, 406)) w := by kernel_rfl
theorem bc_partsB (a : Addr) (w : World) : (ReflectliteValue.parts (valP a 150)).run Tryd.prog w = .ok (some (55, a, 150)) w := by kernel_rfl
theorem bc_elemT (w : World) : (Rtype.elem? 67).run Tryd.prog w = .ok (some 55) w := by kernel_rfl
theorem bc_mk (p : Addr) (w : World) : (ReflectliteValue.mk 55 p ReflectliteValue.flagAddr).run Tryd.prog w = .ok (valP p 406) w := by kernel_rfl
theorem bc_direct (w : World) : (Rtype.directlyAssignable 55 55).run Tryd.prog w = .ok true w := by kernel_rfl

theorem method_one (z : Sem Value) (f : TypeId → Addr → Nat → Nat → Sem Value) (v : Value) : ReflectliteValue.method z f #[v] = (ReflectliteValue.parts v >>= fun x => match x with | none => z | some (t, a, fl) => f t a fl (fl % 32)) := rfl

theorem bc_isNil (b : Nat) (p : Addr) (W : World) (ha : W.cell? ⟨b, 0, none⟩ = some (.pointer (some p))) :
    (ReflectliteValue.method (ReflectliteValue.valueError "reflectlite.Value.IsNil" 0) ReflectliteValue.isNil #[valPP b]).run Tryd.prog W = .ok (.bool false) W := by
  rw [method_one]
  simp only [Sem.run_bind, bc_parts2, Result.andThen]
  simp [ReflectliteValue.isNil, loadVar, isAgg, underlying, Tryd.underlying67, ha, Result.andThen]

theorem bc_elemV (b : Nat) (p : Addr) (W : World) (ha : W.cell? ⟨b, 0, none⟩ = some (.pointer (some p))) :
    (ReflectliteValue.method (ReflectliteValue.valueError "reflectlite.Value.Elem" 0) ReflectliteValue.elem #[valPP b]).run Tryd.prog W = .ok (valP p 406) W := by
  rw [method_one]
  simp only [Sem.run_bind, bc_parts2, Result.andThen]
  simp [ReflectliteValue.elem, loadVar, isAgg, underlying, Tryd.underlying67, ha, Result.andThen, bc_elemT, bc_mk]

theorem bc_setRun (ta b : Addr) (W : World) : (ReflectliteValue.set #[valP ta 406, valP b 150]).run Tryd.prog W = (do let x ← loadVar 55 b; storeVar 55 ta x; pure (Value.tuple #[]) : Sem Value).run Tryd.prog W := by kernel_rfl

theorem bc_set (ta b e : Addr) (old : Value) (W : World) (hb : W.cell? b = some (.pointer (some e))) (ht : W.cell? ta = some old) (hf : W.frozen? ta = false) :
    (ReflectliteValue.set #[valP ta 406, valP b 150]).run Tryd.prog W = .ok (.tuple #[]) (W.setCell ta (.pointer (some e))) := by
  rw [bc_setRun]
  simp [loadVar, isAgg, underlying, Tryd.underlying55, hb, Result.andThen, storeVar, Value.cells, storeCells, Addr.add]
  rw [run_store Tryd.prog W ta _ _ (by rfl)]
  simp [ht, hf]

/-- The four blocks that errors.As makes. -/
def asW (w : World) (e t : Addr) : World := (((w.alloc (.cells #[.pointer (some t)] 67)).alloc (.cells #[.pointer (some ⟨1, 67, none⟩), .pointer (some ⟨w.heap.size, 0, none⟩), .int .u64 150] 77)).alloc (.cells #[.pointer (some ⟨1, 67, none⟩), .pointer (some ⟨w.heap.size, 0, none⟩), .int .u64 150] 77)).alloc (.cells #[.pointer (some e)] 55)

set_option maxHeartbeats 4000000 in
theorem asBad_hit (e t : Addr) (old : Value) (w : World) (hg : LaidE w) (ht0 : w.cell? t = some old) (hf0 : w.frozen? t = false) :
    Calls Tryd.prog 27 #[.iface 55 (.pointer (some e)), .iface 67 (.pointer (some t))] w fun ev w' => ev = .returned (.bool true) ∧ w' = (asW w e t).setCell t (.pointer (some e)) := by
  have hlt : 0 < w.heap.size := by
    rcases Nat.eq_zero_or_pos w.heap.size with h0 | h
    · simp [LaidE, World.cell?, h0] at hg
    · exact h
  have htl : t.block < w.heap.size := by
    rcases Nat.lt_or_ge t.block w.heap.size with h | h
    · exact h
    · simp [World.cell?, Array.getElem?_eq_none h] at ht0
  have xV := @run_callFunc_extern Tryd.prog 36 _ (fun args => ReflectliteValue.unpack (args.getD 0 (.tuple #[]))) Tryd.func36 (by kernel_rfl) (by kernel_rfl) (by kernel_rfl) (by kernel_rfl)
  have xT := @run_callFunc_extern Tryd.prog 37 _ (ReflectliteValue.methodAny (ReflectliteValue.valueError "reflectlite.Value.Type" 0) (fun t _ _ _ => ReflectliteType.toType t)) Tryd.func37 (by kernel_rfl) (by kernel_rfl) (by kernel_rfl) (by kernel_rfl)
  have xN := @run_callFunc_extern Tryd.prog 38 _ (ReflectliteValue.method (ReflectliteValue.valueError "reflectlite.Value.IsNil" 0) ReflectliteValue.isNil) Tryd.func38 (by kernel_rfl) (by kernel_rfl) (by kernel_rfl) (by kernel_rfl)
  have xK := @run_callFunc_extern Tryd.prog 65 _ (ReflectliteType.abiMethod fun t => do pure (.int .u8 (← Rtype.kind t))) Tryd.func65 (by kernel_rfl) (by kernel_rfl) (by kernel_rfl) (by kernel_rfl)
  have xE := @run_callFunc_extern Tryd.prog 76 _ (ReflectliteType.method ReflectliteType.elem) Tryd.func76 (by kernel_rfl) (by kernel_rfl) (by kernel_rfl) (by kernel_rfl)
  have xI := @run_callFunc_extern Tryd.prog 77 _ (ReflectliteType.relation "Implements" ReflectliteType.implements_) Tryd.func77 (by kernel_rfl) (by kernel_rfl) (by kernel_rfl) (by kernel_rfl)
  have xO := @run_callFunc_extern Tryd.prog 46 _ ReflectliteType.typeOf Tryd.func46 (by kernel_rfl) (by kernel_rfl) (by kernel_rfl) (by kernel_rfl)
  have xA := @run_callFunc_extern Tryd.prog 74 _ (ReflectliteType.relation "AssignableTo" ReflectliteType.assignableTo) Tryd.func74 (by kernel_rfl) (by kernel_rfl) (by kernel_rfl) (by kernel_rfl)
  have xL := @run_callFunc_extern Tryd.prog 47 _ (ReflectliteValue.method (ReflectliteValue.valueError "reflectlite.Value.Elem" 0) ReflectliteValue.elem) Tryd.func47 (by kernel_rfl) (by kernel_rfl) (by kernel_rfl) (by kernel_rfl)
  have xS := @run_callFunc_extern Tryd.prog 48 _ ReflectliteValue.set Tryd.func48 (by kernel_rfl) (by kernel_rfl) (by kernel_rfl) (by kernel_rfl)
  have b1 := bc_valueOf2
  have b2 := bc_valueOf
  have b3 := bc_type2
  have b4 := bc_mKind
  have b5 := bc_mElem
  have b6 := bc_mImpl
  have b7 := bc_mAssign
  have b8 := bc_kind2
  have b9 := bc_kind
  have c1 := bc_elem
  have c2 := bc_impl
  have c3 := bc_typeOf
  have c4 := bc_assign
  have n8 := bc_isNil w.heap.size t ((w.alloc (.cells #[.pointer (some t)] 67)).alloc (.cells #[.pointer (some ⟨1, 67, none⟩), .pointer (some ⟨w.heap.size, 0, none⟩), .int .u64 150] 77)) (by simp)
  have hg2 : ((w.alloc (.cells #[.pointer (some t)] 67)).alloc (.cells #[.pointer (some ⟨1, 67, none⟩), .pointer (some ⟨w.heap.size, 0, none⟩), .int .u64 150] 77)).cell? ⟨0, 0, none⟩ = some (.iface 95 (.agg #[.pointer (some ⟨1, 45, none⟩)])) := by
    rw [World.cell?_alloc_lt _ _ ⟨0, 0, none⟩ (by simp), World.cell?_alloc_lt _ _ ⟨0, 0, none⟩ hlt]
    exact hg
  have el := bc_elemV w.heap.size t (((w.alloc (.cells #[.pointer (some t)] 67)).alloc (.cells #[.pointer (some ⟨1, 67, none⟩), .pointer (some ⟨w.heap.size, 0, none⟩), .int .u64 150] 77)).alloc (.cells #[.pointer (some ⟨1, 67, none⟩), .pointer (some ⟨w.heap.size, 0, none⟩), .int .u64 150] 77)) (by rw [World.cell?_alloc_lt _ _ ⟨w.heap.size, 0, none⟩ (by simp; omega)]; simp)
  have st := bc_set t ⟨w.heap.size + 1 + 1 + 1, 0, none⟩ e old (asW w e t)
    (by unfold asW; rw [World.cell?_alloc_at _ _ _ _ (by simp)]; rfl)
    (by unfold asW; rw [World.cell?_alloc_lt _ _ t (by simp; omega), World.cell?_alloc_lt _ _ t (by simp; omega), World.cell?_alloc_lt _ _ t (by simp; omega), World.cell?_alloc_lt _ _ t htl]; exact ht0)
    (by unfold asW; rw [World.frozen?_alloc_old _ _ t (by simp; omega), World.frozen?_alloc_old _ _ t (by simp; omega), World.frozen?_alloc_old _ _ t (by simp; omega), World.frozen?_alloc_old _ _ t (Nat.ne_of_lt htl)]; exact hf0)
  unfold asW at st
  unfold valPP at b1 b3 n8 el
  unfold valP at b2 el st
  unfold typI typP at b3 c1 c2 c3 c4
  clear hg
  go_enter Tryd.func27, Tryd.ntmps27
  go_wp2
  refine wp_loop_rounds 1 ?_
  rw [rounds_succ]
  go_wp2
  go_ret
  exact ⟨rfl, rfl⟩
end Go.Proofs.YtfmkgppkgmjpfaaDoor
