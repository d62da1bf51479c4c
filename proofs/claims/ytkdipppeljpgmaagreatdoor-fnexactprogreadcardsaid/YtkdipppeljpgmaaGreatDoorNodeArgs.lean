/- A list of nodes that is handed in, read as plain nodes; what the laws' helpers do to such a list, the empty and the nil one included. -/
import Derived.Test.YtkdipppeljpgmaaGreatDoorNodeCopy
namespace Go.Proofs.YtkdipppeljpgmaaGreatDoor
open Go.RowKit Go.Deep Go.ChangeShapes Go.WideShapes

/-- This value is a slice of these nodes. -/
def NodeSlice (w : World) (v : Value) (ns : List Nd) : Prop :=
  ∃ a cap, v = .slice a ns.length cap ∧ (ns = [] ∨ ∃ b off, a = some ⟨b, off, none⟩ ∧ b < w.heap.size ∧ NodesAt w b off ns)

theorem NodeSlice.below {w w' : World} {v : Value} {ns : List Nd} (h : NodeSlice w v ns) (hb : Below w.heap.size w w') : NodeSlice w' v ns := by
  obtain ⟨a, cap, rfl, h⟩ := h
  refine ⟨a, cap, rfl, h.imp id ?_⟩
  rintro ⟨b, off, rfl, hlt, hn⟩
  exact ⟨b, off, rfl, Nat.lt_of_lt_of_le hlt hb.size, hn.below hb hlt⟩

section
variable {H : Type} {enc : TypeId × Value → H} {W : World} {sp : Nat → Bool} {held : Bool}

end

end Go.Proofs.YtkdipppeljpgmaaGreatDoor