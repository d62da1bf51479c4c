/- Whether an instruction is one: both sides answer by one and the same table of numbers. -/
import Derived.Test.YtfmkgppkgmjpfaaDoorRows
import Derived.WalkKit
import Derived.ProofKit
import Derived.Deep.OwnRows
import Derived.BigQuiet
namespace Go.Proofs.YtfmkgppkgmjpfaaDoor
open Go.RowKit

/-- How many numbers an instruction has; -1: it is none. -/
def manyZ (op : Int) : Int :=
  if op = 0 ∨ op = 3 ∨ op = 4 ∨ op = 8 ∨ op = 9 ∨ op = 12 ∨ op = 13 ∨ op = 15 ∨ op = 16 ∨ op = 17 ∨ op = 18 ∨ op = 20 ∨ op = 23 then 0
  else if op = 1 ∨ op = 2 ∨ op = 5 ∨ op = 6 ∨ op = 7 ∨ op = 10 ∨ op = 11 ∨ op = 14 ∨ op = 19 ∨ op = 22 then 1
  else if op = 24 ∨ op = 25 then 2
  else if op = 21 then 3
  else -1

theorem ops_cases (op : Int) : (op < 0 ∨ 25 < op) ∨ op = 0 ∨ op = 1 ∨ op = 2 ∨ op = 3 ∨ op = 4 ∨ op = 5 ∨ op = 6 ∨ op = 7 ∨ op = 8 ∨ op = 9 ∨ op = 10 ∨ op = 11 ∨ op = 12 ∨ op = 13 ∨ op = 14 ∨ op = 15 ∨ op = 16 ∨ op = 17 ∨ op = 18 ∨ op = 19 ∨ op = 20 ∨ op = 21 ∨ op = 22 ∨ op = 23 ∨ op = 24 ∨ op = 25 := by omega

set_option maxRecDepth 100000 in
theorem l5Many_calls (op : Int) (w : World) :
    Calls Tryd.prog 28 #[.int .i64 op] w fun e w' => e = .returned (.int .i64 (manyZ op)) ∧ w = w' := by
  rcases ops_cases op with h | h | h | h | h | h | h | h | h | h | h | h | h | h | h | h | h | h | h | h | h | h | h | h | h | h | h
  case inl =>
    rw [show manyZ op = -1 by unfold manyZ; rw [if_neg (by omega), if_neg (by omega), if_neg (by omega), if_neg (by omega)]]
    have n0 : op ≠ 0 := by omega
    have n1 : op ≠ 1 := by omega
    have n2 : op ≠ 2 := by omega
    have n3 : op ≠ 3 := by omega
    have n4 : op ≠ 4 := by omega
    have n5 : op ≠ 5 := by omega
    have n6 : op ≠ 6 := by omega
    have n7 : op ≠ 7 := by omega
    have n8 : op ≠ 8 := by omega
    have n9 : op ≠ 9 := by omega
    have n10 : op ≠ 10 := by omega
    have n11 : op ≠ 11 := by omega
    have n12 : op ≠ 12 := by omega
    have n13 : op ≠ 13 := by omega
    have n14 : op ≠ 14 := by omega
    have n15 : op ≠ 15 := by omega
    have n16 : op ≠ 16 := by omega
    have n17 : op ≠ 17 := by omega
    have n18 : op ≠ 18 := by omega
    have n19 : op ≠ 19 := by omega
    have n20 : op ≠ 20 := by omega
    have n21 : op ≠ 21 := by omega
    have n22 : op ≠ 22 := by omega
    have n23 : op ≠ 23 := by omega
    have n24 : op ≠ 24 := by omega
    have n25 : op ≠ 25 := by omega
    clear h
    go_enter Tryd.func28, Tryd.ntmps28
    go_wp2
    go_ret
    exact ⟨rfl, rfl⟩
  all_goals
    subst h
    go_enter Tryd.func28, Tryd.ntmps28
    go_wp2
    go_ret
    exact ⟨rfl, rfl⟩

/-- Whether an instruction with these numbers is one. -/
def insOkZ (op a b c : Int) : Bool :=
  if manyZ op < 0 ∨ (manyZ op < 1 ∧ a ≠ 0) ∨ (manyZ op < 2 ∧ b ≠ 0) ∨ (manyZ op < 3 ∧ c ≠ 0) then false
  else if op = 1 then decide (-2147483648 ≤ a ∧ a ≤ 2147483647)
  else if op = 2 then decide (a = 0 ∨ a = 1)
  else if op = 14 then decide (11 ≤ a ∧ a ≤ 15)
  else if op = 21 ∧ b ≠ 0 ∧ b ≠ 1 then false
  else decide (0 ≤ a ∧ a ≤ 65535 ∧ 0 ≤ b ∧ b ≤ 65535 ∧ 0 ≤ c ∧ c ≤ 65535)

end Go.Proofs.YtfmkgppkgmjpfaaDoor
