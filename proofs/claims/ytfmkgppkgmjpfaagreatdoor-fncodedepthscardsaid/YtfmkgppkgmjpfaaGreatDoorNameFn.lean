/- The namer's small functions: a scope around another, what a name stands for, which names a node makes known, a name made anew. -/
import Derived.Test.YtfmkgppkgmjpfaaGreatDoorNameSt
import Derived.Test.YtfmkgppkgmjpfaaGreatDoorShelf
import Derived.Lib.SmallJoins
namespace Go.Proofs.YtfmkgppkgmjpfaaGreatDoor
open Go.RowKit Go.Deep

/-- The table that numbers are written by. -/
structure Laid (w : World) : Prop where
  pows : Lib.TabIs Tryz.prog w "internal/strconv.uint64pow10" .u64 Lib.pow10Tab

theorem slice_lit (w : World) (o1 : Obj) (ss : List ByteArray) : SliceOf w.heap.size ((w.alloc o1).alloc (.cells (strRow ss).toArray 9)) (.slice (some ⟨w.heap.size + 1, 0, none⟩) (strRow ss).length (strRow ss).length) (strRow ss) := row_new w o1 (strRow ss) 9

theorem known_none (w : World) (o1 : Obj) : SliceOf w.heap.size (w.alloc o1) (.slice none 0 0) (strRow []) := Or.inl ⟨rfl, none, 0, rfl⟩

theorem one_new' (w : World) (o1 : Obj) : Below w.heap.size w (w.alloc o1) := (Below.refl _ _).alloc (Nat.le_refl _) _

/-- How far a scope reaches, for the loop. -/
def scoLen : Nat → World → Value → Nat
  | 0, _, _ => 0
  | f + 1, W, .pointer (some a) => (match W.cell? ⟨a.block, 2, none⟩ with
    | some v => 1 + scoLen f W v
    | none => 0)
  | _ + 1, _, _ => 0

theorem str_eq (x s : ByteArray) : (x.toList == s.toList) = decide (x = s) := by
  rw [ByteArray.toList_eq, ByteArray.toList_eq]
  by_cases h : x = s
  · subst h
    simp
  · rw [decide_eq_false h]
    rw [beq_eq_false_iff_ne]
    intro e
    exact h (by cases x; cases s; simp_all)

end Go.Proofs.YtfmkgppkgmjpfaaGreatDoor