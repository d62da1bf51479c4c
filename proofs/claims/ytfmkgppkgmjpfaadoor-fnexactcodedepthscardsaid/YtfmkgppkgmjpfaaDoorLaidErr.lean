/- The variable that holds the type of all errors, as the row lays it. -/
import Derived.Test.YtfmkgppkgmjpfaaDoorImplOk
import Derived.Test.YtfmkgppkgmjpfaaDoorRows
import Derived.LaidLaws
import Derived.LaidHandle
import Derived.LaidMore
import Derived.Stop.Joined
namespace Go.Proofs.YtfmkgppkgmjpfaaDoor
open Go.ChangeShapes Go.WideShapes Go.RowKit

theorem le_var : Tryd.prog.globalNamed "errors.errorType" = some 0 := by kernel_rfl
theorem le_type : (Tryd.prog.cutTypes.find? (·.1 == "internal/reflectlite.rtype")).map (·.2) = some 95 := by kernel_rfl
theorem le_size : Tryd.prog.types.size = 140 := by kernel_rfl
theorem le_row : ((List.range 140).filter fun t => Tryd.prog.rowNamed t [101, 114, 114, 111, 114]) = [45] := by kernel_rfl
theorem le_handle : typeHandle Tryd.prog 45 = .pointer (some ⟨1, 45, none⟩) := by kernel_rfl

theorem of_laidE {W : World} (h : laidMetH Tryd.prog [("errors.errorType", Rows.laid_errors_errorType)] W) : LaidE W := by
  have h2 : laidMet Tryd.prog [] W ∧ handlesMet Tryd.prog [("errors.errorType", Rows.laid_errors_errorType)] W := h
  obtain ⟨nm, u, ty, e1, e2, e3, e4, e5⟩ := h2.2 _ (List.mem_singleton.2 rfl)
  obtain rfl : nm = [101, 114, 114, 111, 114] := (Option.some.inj e1).symm
  obtain rfl := Option.some.inj (le_type.symm.trans e2)
  rw [le_size] at e3
  have hm : ty ∈ (List.range 140).filter fun t => Tryd.prog.rowNamed t [101, 114, 114, 111, 114] := List.mem_filter.2 ⟨List.mem_range.2 e3, e4⟩
  rw [le_row] at hm
  obtain rfl := List.mem_singleton.1 hm
  rw [le_handle] at e5
  unfold LaidE
  simpa using World.var?_cell le_var e5 0
end Go.Proofs.YtfmkgppkgmjpfaaDoor
