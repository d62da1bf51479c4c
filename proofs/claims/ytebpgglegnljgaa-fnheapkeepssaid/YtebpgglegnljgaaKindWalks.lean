/- How many fields a kind of object has: the specification and the program answer the same. -/
import Derived.Test.YtebpgglegnljgaaRows
import Derived.WalkKit
import Derived.ProofKit
namespace Go.Proofs.Ytebpgglegnljgaa
open Go.RowKit

def fieldsZ (k : Int) : Int :=
  if k = 1 ∨ k = 2 ∨ k = 3 ∨ k = 4 ∨ k = 5 ∨ k = 8 then 2 else if k = 6 ∨ k = 7 then 5 else 0

set_option maxRecDepth 100000 in
theorem implFields_calls (k : Int) (w : World) :
    Calls Try.prog 40 #[.int .i64 k] w fun e w' => e = .returned (.int .i64 (fieldsZ k)) ∧ w = w' := by
  go_enter Try.func40, Try.ntmps40
  go_wp2
  all_goals
    go_ret
    refine ⟨?_, rfl⟩
    simp_all [fieldsZ]

set_option maxRecDepth 100000 in
theorem specFields_calls (k : Int) (w : World) :
    Calls Try.prog 29 #[.int .i64 k] w fun e w' => e = .returned (.int .i64 (fieldsZ k)) ∧ w = w' := by
  go_enter Try.func29, Try.ntmps29
  go_wp2
  all_goals
    go_ret
    refine ⟨?_, rfl⟩
    simp_all [fieldsZ]
end Go.Proofs.Ytebpgglegnljgaa
