/- A node's form, made of its kids' forms. -/
import Derived.Test.YtnhofdngmbnlkaaFormRel
namespace Go.Proofs.Ytnhofdngmbnlkaa
open Go.RowKit

/-- A node as a value. -/
def nodeVal (n : Nd) : Value := .agg #[.int .i64 n.kind, .int .i64 n.num, .string n.a, .string n.b, .string n.c, .int .i64 n.kids]

theorem fits_cases {n : Nd} {m : Nat} (h : Fits n m) :
    (m = 0 ∧ (n.kind = 1 ∨ n.kind = 2 ∨ n.kind = 3 ∨ n.kind = 4 ∨ n.kind = 5)) ∨
    (m = 1 ∧ (n.kind = 6 ∨ n.kind = 17 ∨ n.kind = 18 ∨ n.kind = 21 ∨ n.kind = 22 ∨ n.kind = 25 ∨ n.kind = 26)) ∨
    (m = 2 ∧ (n.kind = 7 ∨ n.kind = 8 ∨ n.kind = 9 ∨ n.kind = 11 ∨ n.kind = 12 ∨ n.kind = 13 ∨ n.kind = 14 ∨ n.kind = 15 ∨ n.kind = 16 ∨ n.kind = 19)) ∨
    (m = 3 ∧ (n.kind = 10 ∨ n.kind = 20)) ∨
    (2 ≤ m ∧ m ≤ 6 ∧ (n.kind = 23 ∨ n.kind = 24)) := by
  obtain ⟨h1, h2, h3, h4⟩ := h
  rcases kinds n.kind with h | h | h | h | h | h | h | h | h | h | h | h | h | h | h | h | h | h | h | h | h | h | h | h | h | h | h
  all_goals try (
    rw [h] at h1 h2
    simp [leastZ, greatZ, arityZ, tab] at h1 h2
    omega)
  omega

end Go.Proofs.Ytnhofdngmbnlkaa