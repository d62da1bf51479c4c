/- Words and kinds: what the specification and the program answer, in plain numbers. -/
import Derived.Test.YtebpgglegnljgaaRows
import Derived.Test.YtebpgglegnljgaaBitWalks
import Derived.WalkKit
import Derived.ProofKit
namespace Go.Proofs.Ytebpgglegnljgaa
open Go.RowKit

def tagZ (x : Int) : Int := x % 8
def numZ (x : Int) : Int := x / 8
def makeZ (t n : Int) : Int := if t < 0 ∨ 4 < t then 0 else wrap64 (8 * n + t)

set_option maxRecDepth 100000 in
theorem implTag_calls (x : Int) (w : World) :
    Calls Try.prog 23 #[.int .i64 x] w fun e w' => e = .returned (.int .i64 (tagZ x)) ∧ w = w' := by
  go_enter Try.func23, Try.ntmps23
  go_wp2
  go_ret
  refine ⟨?_, rfl⟩
  show Ending.returned (.int .i64 (bits .and .i64 x 7)) = _
  rw [and7]
  rfl

set_option maxRecDepth 100000 in
theorem specTag_calls (x : Int) (w : World) :
    Calls Try.prog 37 #[.int .i64 x] w fun e w' => e = .returned (.int .i64 (tagZ x)) ∧ w = w' := by
  go_enter Try.func37, Try.ntmps37
  go_wp2
  go_ret
  refine ⟨?_, rfl⟩
  show Ending.returned (.int .i64 (bits .and .i64 x 7)) = _
  rw [and7]
  rfl

set_option maxRecDepth 100000 in
theorem implNum_calls (x : Int) (w : World) :
    Calls Try.prog 52 #[.int .i64 x] w fun e w' => e = .returned (.int .i64 (numZ x)) ∧ w = w' := by
  go_enter Try.func52, Try.ntmps52
  go_wp2
  go_ret
  exact ⟨rfl, rfl⟩

set_option maxRecDepth 100000 in
theorem specNum_calls (x : Int) (w : World) :
    Calls Try.prog 54 #[.int .i64 x] w fun e w' => e = .returned (.int .i64 (numZ x)) ∧ w = w' := by
  go_enter Try.func54, Try.ntmps54
  go_wp2
  go_ret
  exact ⟨rfl, rfl⟩

theorem wrap_mul_add (t n : Int) : wrap64 (wrap64 (n * 8) + t) = wrap64 (8 * n + t) := by unfold wrap64; omega
theorem wrap_mul_add' (t n : Int) : wrap64 (wrap64 (8 * n) + t) = wrap64 (8 * n + t) := by unfold wrap64; omega

set_option maxRecDepth 100000 in
theorem implMake_calls (t n : Int) (w : World) :
    Calls Try.prog 74 #[.int .i64 t, .int .i64 n] w fun e w' => e = .returned (.int .i64 (makeZ t n)) ∧ w = w' := by
  go_enter Try.func74, Try.ntmps74
  go_wp2
  all_goals
    go_ret
    refine ⟨?_, rfl⟩
    simp_all [makeZ, wrap_mul_add]
    try (intro h; exact absurd h (by omega))

set_option maxRecDepth 100000 in
theorem specMake_calls (t n : Int) (w : World) :
    Calls Try.prog 39 #[.int .i64 t, .int .i64 n] w fun e w' => e = .returned (.int .i64 (makeZ t n)) ∧ w = w' := by
  go_enter Try.func39, Try.ntmps39
  go_wp2
  all_goals
    go_ret
    refine ⟨?_, rfl⟩
    simp_all [makeZ, wrap_mul_add']
    try (intro h; exact absurd h (by omega))

end Go.Proofs.Ytebpgglegnljgaa
