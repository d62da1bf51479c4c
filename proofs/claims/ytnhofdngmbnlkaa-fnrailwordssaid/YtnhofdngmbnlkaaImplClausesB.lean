/- Where clauses stand, as the program asks it: over all nodes. -/
import Derived.Test.YtnhofdngmbnlkaaImplClauses
import Derived.BigQuiet
namespace Go.Proofs.Ytnhofdngmbnlkaa
open Go.RowKit

theorem below_draws (B : Nat) (w : World) (n : Nat) : Below B w (w.drewN n) := ⟨rfl, rfl, rfl, Nat.le_refl _, fun _ _ => rfl⟩

theorem turned {P : Program} {f : FuncId} {args : Array Value} {w : World} {v : Value} (h : Calls P f args w fun e w' => e = .returned v ∧ w = w') : Calls P f args w fun e w' => e = .returned v ∧ w' = w :=
  h.mono fun _ _ ⟨a, b⟩ => ⟨a, b.symm⟩

end Go.Proofs.Ytnhofdngmbnlkaa