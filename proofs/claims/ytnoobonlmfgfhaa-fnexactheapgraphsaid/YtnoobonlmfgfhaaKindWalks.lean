/- How many fields a kind of object has: the specification and the program answer the same. -/
import Derived.Test.YtnoobonlmfgfhaaRows
import Derived.WalkKit
import Derived.ProofKit
namespace Go.Proofs.Ytnoobonlmfgfhaa
open Go.RowKit

def fieldsZ (k : Int) : Int :=
  if k = 1 ∨ k = 2 ∨ k = 3 ∨ k = 4 ∨ k = 5 ∨ k = 8 then 2 else if k = 6 ∨ k = 7 then 5 else 0

set_option maxRecDepth 100000 in
theorem implFields_calls (k : Int) (w : World) :
    Calls Try.prog 45 #[.int .i64 k] w fun e w' => e = .returned (.int .i64 (fieldsZ k)) ∧ w = w' := by
  go_enter Try.func45, Try.ntmps45
  go_wp2
  all_goals
    go_ret
    refine ⟨?_, rfl⟩
    simp_all [fieldsZ]

set_option maxRecDepth 100000 in
theorem specFields_calls (k : Int) (w : World) :
    Calls Try.prog 41 #[.int .i64 k] w fun e w' => e = .returned (.int .i64 (fieldsZ k)) ∧ w = w' := by
  go_enter Try.func41, Try.ntmps41
  go_wp2
  all_goals
    go_ret
    refine ⟨?_, rfl⟩
    simp_all [fieldsZ]
end Go.Proofs.Ytnoobonlmfgfhaa
