/- How deep a form is. -/
import Derived.Test.YtnbmhopoiijhoaaKidsOf
namespace Go.Proofs.Ytnbmhopoiijhoaa
open Go.RowKit Go.Deep

theorem max_step (d x : Nat) : (if d < x then (x : Int) else (d : Int)) = ((max d x : Nat) : Int) := by
  split <;> omega

end Go.Proofs.Ytnbmhopoiijhoaa