/- Whether nodes are a tree, as the program asks it. -/
import Derived.Test.YtnbmhopoiijhoaaTreeAns
import Derived.Test.YtnbmhopoiijhoaaNodeArgs
namespace Go.Proofs.Ytnbmhopoiijhoaa
open Go.RowKit Go.Deep

end Go.Proofs.Ytnbmhopoiijhoaa