/- The namer makes names anew and gives a node its new names. -/
import Derived.Test.YtfmkgppkgmjpfaaGreatDoorNameFn
import Derived.Test.YtfmkgppkgmjpfaaGreatDoorCalm
import Derived.Test.YtfmkgppkgmjpfaaGreatDoorStagesE
namespace Go.Proofs.YtfmkgppkgmjpfaaGreatDoor
open Go.RowKit Go.Deep

theorem grow_below (w : World) (k : Nat) (os : Array Obj) : Below w.heap.size w (Go.Sort.grow (w.drewN k) os) :=
  ⟨rfl, rfl, rfl, by rw [Go.Sort.size_grow]; exact Nat.le_add_right _ _, fun j hj => by rw [Go.Sort.heap_grow_old (w.drewN k) os hj]; rfl⟩

theorem bytes_append (a b : List UInt8) : (⟨a.toArray⟩ : ByteArray) ++ ⟨b.toArray⟩ = ⟨(a ++ b).toArray⟩ := by
  apply ByteArray.ext
  simp

theorem v_append (l : List UInt8) : (⟨#[118]⟩ : ByteArray) ++ ⟨l.toArray⟩ = ⟨(118 :: l).toArray⟩ := bytes_append [118] l

/-- A box of a node. -/
theorem box6_set {w : World} {b : Nat} {t : TypeId} {x0 x1 x2 x3 x4 x5 : Value} (h : w.heap[b]? = some (.cells #[x0, x1, x2, x3, x4, x5] t)) (v : Value) :
    (w.setCell ⟨b, 2, none⟩ v).heap[b]? = some (.cells #[x0, x1, v, x3, x4, x5] t) ∧ (w.setCell ⟨b, 3, none⟩ v).heap[b]? = some (.cells #[x0, x1, x2, v, x4, x5] t) ∧ (w.setCell ⟨b, 4, none⟩ v).heap[b]? = some (.cells #[x0, x1, x2, x3, v, x5] t) := by
  refine ⟨?_, ?_, ?_⟩ <;> simp [World.setCell, Array.getElem?_modify, h]

end Go.Proofs.YtfmkgppkgmjpfaaGreatDoor