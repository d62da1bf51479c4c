/- How deep a form is. -/
import Derived.Test.YtnhofdngmbnlkaaKidsOf
namespace Go.Proofs.Ytnhofdngmbnlkaa
open Go.RowKit Go.Deep

theorem max_step (d x : Nat) : (if d < x then (x : Int) else (d : Int)) = ((max d x : Nat) : Int) := by
  split <;> omega

end Go.Proofs.Ytnhofdngmbnlkaa