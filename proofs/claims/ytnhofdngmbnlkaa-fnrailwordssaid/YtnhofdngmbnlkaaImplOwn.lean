/- Whether a node has the fields of its kind, as the program asks it. -/
import Derived.Test.YtnhofdngmbnlkaaSpecOwn
namespace Go.Proofs.Ytnhofdngmbnlkaa
open Go.RowKit

/-- What the program asks of one node. -/
def nodeOkZ (n : Nd) : Bool := ownOk n && !(n.kind == 26 && n.b.toList == n.c.toList)

theorem shape_in {k : Int} (h : ¬ (k < 1 ∨ 26 < k)) : shapeVal k = .tuple #[.agg #[.int .i64 (namesZ k), .int .i64 (mostZ k), .int .i64 (leastZ k), .int .i64 (greatZ k)], .bool true] := by rw [shapeVal, if_neg h]
theorem shape_out {k : Int} (h : k < 1 ∨ 26 < k) : shapeVal k = .tuple #[.agg #[.int .i64 0, .int .i64 0, .int .i64 0, .int .i64 0], .bool false] := by rw [shapeVal, if_pos h]

theorem own_out {n : Nd} (h : n.kind < 1 ∨ 26 < n.kind) : nodeOkZ n = false := by
  have : arityZ n.kind = -1 := tab_other h
  simp [nodeOkZ, ownOk, kidsOk, this]

theorem arity_in {k : Int} (h : ¬ (k < 1 ∨ 26 < k)) : arityZ k ≠ -1 := by
  rcases kinds k with rfl | rfl | rfl | rfl | rfl | rfl | rfl | rfl | rfl | rfl | rfl | rfl | rfl | rfl | rfl | rfl | rfl | rfl | rfl | rfl | rfl | rfl | rfl | rfl | rfl | rfl | hh
  all_goals try decide
  exact absurd hh h

theorem kids_in {k kids : Int} (h : ¬ (k < 1 ∨ 26 < k)) : kidsOk k kids = decide (leastZ k ≤ kids ∧ kids ≤ greatZ k) := by
  unfold kidsOk leastZ greatZ
  rw [if_neg (arity_in h)]
  by_cases h2 : arityZ k = -2
  · rw [if_pos h2, if_pos h2, if_pos h2]
  · rw [if_neg h2, if_neg h2, if_neg h2]
    exact decide_eq_decide.2 ⟨fun x => by omega, fun x => by omega⟩

end Go.Proofs.Ytnhofdngmbnlkaa