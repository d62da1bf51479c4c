/- A step of the specification's check, instruction by instruction. -/
import Derived.Test.YtfmkgppkgmjpfaaDoorCheckTab
namespace Go.Proofs.YtfmkgppkgmjpfaaDoor
open Go.RowKit

def stepZ (cs : List In) (T : List Sq) (w : List Nat) (k : Nat) : Option (List Sq × List Nat) := if needsZ cs (cs.getD k default) (tg T k) = true then rz cs.length (some (T, w)) (exitsZ cs k (cs.getD k default) (tg T k)) else none
end Go.Proofs.YtfmkgppkgmjpfaaDoor
