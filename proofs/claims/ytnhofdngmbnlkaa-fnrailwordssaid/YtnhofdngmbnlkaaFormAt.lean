/- The form of the tree at a place. -/
import Derived.Test.YtnhofdngmbnlkaaFormOf
import Derived.Test.YtnhofdngmbnlkaaSpecDeep
import Derived.Deep.OwnRows
namespace Go.Proofs.Ytnhofdngmbnlkaa
open Go.RowKit Go.Deep

theorem Fo.app_snoc (n : Nd) (k r : Fo) : ∀ g : Fo, g.app (.tree n k r) = (g.app (.tree n k .none)).app r
  | .none => rfl
  | .tree n' k' r' => by simp only [Fo.app, app_snoc n k r r']

theorem Fo.app_none : ∀ g : Fo, g.app .none = g
  | .none => rfl
  | .tree n' k' r' => by simp only [Fo.app, app_none r']

end Go.Proofs.Ytnhofdngmbnlkaa