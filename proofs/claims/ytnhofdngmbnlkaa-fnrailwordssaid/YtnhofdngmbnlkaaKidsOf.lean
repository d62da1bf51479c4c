/- The kids of a form, as its method tells them. -/
import Derived.Test.YtnhofdngmbnlkaaFormAt
import Derived.Test.YtnhofdngmbnlkaaSpecClausesB
namespace Go.Proofs.Ytnhofdngmbnlkaa
open Go.RowKit Go.Deep

/-- A slice of these values; the empty one may lie anywhere. -/
def SliceOf (B : Nat) (w : World) (sv : Value) (us : List Value) : Prop := (us = [] ∧ ∃ a c, sv = .slice a 0 c) ∨ RowAt B w sv us

def KidsPost (us : List Value) (w : World) (e : Ending) (w' : World) : Prop := ∃ sv, e = .returned sv ∧ SliceOf w.heap.size w' sv us ∧ Below w.heap.size w w'

/-- A call of the method 'kids' of this value tells these. -/
def KidsOf (w : World) (v : Value) (us : List Value) : Prop :=
  ∃ T pv g rv, v = .iface T pv ∧ (∀ w, (method 217 T pv "loop.example/handrail/impl.kids").run Try.prog w = .ok (g, rv) w) ∧ (∀ args w, (callFunc g args).run Try.prog w = .ok (.enter g args) w) ∧ Calls Try.prog g #[rv] w (KidsPost us w)

theorem row_new (w : World) (o1 : Obj) (us : List Value) (t : TypeId) : SliceOf w.heap.size ((w.alloc o1).alloc (.cells us.toArray t)) (.slice (some ⟨w.heap.size + 1, 0, none⟩) us.length us.length) us := by
  have e := (MapKept.heap_alloc (w.alloc o1) (.cells us.toArray t)).1
  have hs : (w.alloc o1).heap.size = w.heap.size + 1 := by simp
  rw [hs] at e
  refine Or.inr ⟨w.heap.size + 1, 0, us.length, rfl, Nat.le_succ _, heap_lt e, fun j hj => ?_⟩
  rw [Nat.zero_add, cell_of_heap e j]
  simp

theorem below_two (w : World) (o1 o2 : Obj) : Below w.heap.size w ((w.alloc o1).alloc o2) := ((Below.refl _ _).alloc (Nat.le_refl _) o1).alloc (by simp) o2

theorem sliceOf_own {w : World} {base B : Nat} {e : TypeId} {v : Value} {n : Nat} {xs : List Value} (h : w.ownsRow base e 1 v n xs) (hb0 : B ≤ base) : SliceOf B w v xs := by
  have hl := h.1
  rw [Nat.mul_one] at hl
  rcases h.2 with ⟨hv, h0⟩ | ⟨g, cap, cur, hv, hbg, hg, _⟩
  · exact Or.inl ⟨List.eq_nil_of_length_eq_zero (by omega), none, 0, hv⟩
  · subst hv
    refine Or.inr ⟨g, 0, cap, by rw [hl], Nat.le_trans hb0 hbg, heap_lt hg, fun j hj => ?_⟩
    rw [Nat.zero_add]
    exact h.cellAt j (by omega)

theorem kidsOf_mk {w : World} {v : Value} {us : List Value} (T : TypeId) (pv : Value) (g : FuncId) (hv : v = .iface T pv) (hm : ∀ w, (method 217 T pv "loop.example/handrail/impl.kids").run Try.prog w = .ok (g, pv) w)
    (hc : ∀ args w, (callFunc g args).run Try.prog w = .ok (.enter g args) w) (hK : Calls Try.prog g #[pv] w (KidsPost us w)) : KidsOf w v us := ⟨T, pv, g, pv, hv, hm, hc, hK⟩

end Go.Proofs.Ytnhofdngmbnlkaa