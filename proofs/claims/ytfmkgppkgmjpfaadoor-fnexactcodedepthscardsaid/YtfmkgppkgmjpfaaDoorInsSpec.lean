/- The specification's test of an instruction answers by the table. -/
import Derived.Test.YtfmkgppkgmjpfaaDoorInsWalks
namespace Go.Proofs.YtfmkgppkgmjpfaaDoor
open Go.RowKit

set_option maxHeartbeats 1000000 in
set_option maxRecDepth 100000 in
theorem specInsOk_calls (op a b c : Int) (w : World) :
    Calls Tryd.prog 21 #[.agg #[.int .i64 op, .int .i64 a, .int .i64 b, .int .i64 c]] w fun e w' => e = .returned (.bool (insOkZ op a b c)) ∧ Below w.heap.size w w' := by
  go_enter Tryd.func21, Tryd.ntmps21
  go_wp2_with fail
  refine (l5Many_calls _ _).mono ?_
  rintro e w1 ⟨rfl, rfl⟩
  go_wp2_with fail
  all_goals
    go_ret
    refine ⟨congrArg (fun b => Ending.returned (Value.bool b)) ?_, (Below.refl _ _).alloc (Nat.le_refl _) _⟩
    first | (simp_all [insOkZ]; done) | (simp_all [insOkZ]; omega) | (rw [show (a == 0 || a == 1) = decide (a = 0 ∨ a = 1) by apply Bool.eq_iff_iff.mpr; simp]; simp_all [insOkZ]; done)
end Go.Proofs.YtfmkgppkgmjpfaaDoor
