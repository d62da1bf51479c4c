/- What functions of the library do, at this program: each by one application of the library of proofs. -/
import Derived.Shelf.Lay
import Derived.Shelf.LaySoft

import Derived.Test.YtfmkgppkgmjpfaaGreatDoorProg
namespace Go.Proofs
open Go.Shelf
shelf_tried
end Go.Proofs
