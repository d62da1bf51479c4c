/- The node of a form, as its method tells it. -/
import Derived.Test.YtfmkgppkgmjpfaaGreatDoorKidsOf
namespace Go.Proofs.YtfmkgppkgmjpfaaGreatDoor
open Go.RowKit Go.Deep

/-- A node as a value. -/
def ndV (n : Nd) : Value := .agg #[.int .i64 n.kind, .int .i64 n.num, .string n.a, .string n.b, .string n.c, .int .i64 n.kids]

/-- What a form keeps of a node. -/
def bareZ (n : Nd) : Nd :=
  ⟨n.kind, if n.kind = 1 ∨ n.kind = 2 then n.num else 0, if 1 ≤ namesZ n.kind then n.a else ⟨#[]⟩, if 2 ≤ namesZ n.kind then n.b else ⟨#[]⟩, if 3 ≤ namesZ n.kind then n.c else ⟨#[]⟩, 0⟩

def NodePost (m : Nd) (w : World) (e : Ending) (w' : World) : Prop := e = .returned (ndV m) ∧ Below w.heap.size w w'

/-- A call of the method 'node' of this value tells this node. -/
def NodeOf (w : World) (v : Value) (m : Nd) : Prop :=
  ∃ T pv g rv, v = .iface T pv ∧ (∀ w, (method 295 T pv "loop.example/handrail/impl.node").run Tryz.prog w = .ok (g, rv) w) ∧ (∀ args w, (callFunc g args).run Tryz.prog w = .ok (.enter g args) w) ∧ Calls Tryz.prog g #[rv] w (NodePost m w)

theorem nodeOf_mk {w : World} {v : Value} {m m' : Nd} (T : TypeId) (pv : Value) (g : FuncId) (hv : v = .iface T pv) (hm : ∀ w, (method 295 T pv "loop.example/handrail/impl.node").run Tryz.prog w = .ok (g, pv) w)
    (hc : ∀ args w, (callFunc g args).run Tryz.prog w = .ok (.enter g args) w) (he : m' = m) (hK : Calls Tryz.prog g #[pv] w (NodePost m w)) : NodeOf w v m' := by
  subst he
  exact ⟨T, pv, g, pv, hv, hm, hc, hK⟩

end Go.Proofs.YtfmkgppkgmjpfaaGreatDoor