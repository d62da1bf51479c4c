/- What a node's kind asks of its fields, as plain tables. -/
import Derived.Test.YtgiejnmphfgmgaaGreatDoorNameWalks
import Derived.Test.YtgiejnmphfgmgaaGreatDoorNodeWalks
namespace Go.Proofs.YtgiejnmphfgmgaaGreatDoor
open Go.RowKit

def tab (l : List Int) (k : Int) (other : Int) : Int := if k < 1 ∨ 26 < k then other else l.getD k.toNat 0

/-- How many kids a kind has; -2: two to six; -1: it is none. -/
def arityZ (k : Int) : Int := tab [0, 0, 0, 0, 0, 0, 1, 2, 2, 2, 3, 2, 2, 2, 2, 2, 2, 1, 1, 2, 3, 1, 1, -2, -2, 1, 1] k (-1)

/-- How many names a kind has. -/
def namesZ (k : Int) : Int := tab [0, 0, 0, 0, 0, 1, 1, 0, 1, 2, 0, 0, 0, 0, 0, 0, 0, 0, 0, 0, 2, 0, 1, 0, 0, 1, 3] k 0

/-- The greatest number that a kind has. -/
def mostZ (k : Int) : Int := tab [0, 999999999, 1, 0, 0, 0, 0, 0, 0, 0, 0, 0, 0, 0, 0, 0, 0, 0, 0, 0, 0, 0, 0, 0, 0, 0, 0] k 0

theorem kinds (k : Int) : k = 1 ∨ k = 2 ∨ k = 3 ∨ k = 4 ∨ k = 5 ∨ k = 6 ∨ k = 7 ∨ k = 8 ∨ k = 9 ∨ k = 10 ∨ k = 11 ∨ k = 12 ∨ k = 13 ∨ k = 14 ∨ k = 15 ∨ k = 16 ∨ k = 17 ∨ k = 18 ∨ k = 19 ∨ k = 20 ∨ k = 21 ∨ k = 22 ∨ k = 23 ∨ k = 24 ∨ k = 25 ∨ k = 26 ∨ (k < 1 ∨ 26 < k) := by omega

theorem tab_other {l : List Int} {k o : Int} (h : k < 1 ∨ 26 < k) : tab l k o = o := by rw [tab, if_pos h]

set_option maxRecDepth 100000 in
theorem arity_calls (k : Int) (w : World) : Calls Tryz.prog 100 #[.int .i64 k] w fun e w' => e = .returned (.int .i64 (arityZ k)) ∧ w = w' := by
  rcases kinds k with rfl | rfl | rfl | rfl | rfl | rfl | rfl | rfl | rfl | rfl | rfl | rfl | rfl | rfl | rfl | rfl | rfl | rfl | rfl | rfl | rfl | rfl | rfl | rfl | rfl | rfl | h
  all_goals try (
    go_enter Tryz.func100, Tryz.ntmps100
    go_wp2
    go_ret
    exact ⟨rfl, rfl⟩)
  have e : arityZ k = -1 := tab_other h
  rw [e]
  go_enter Tryz.func100, Tryz.ntmps100
  go_wp2
  go_ret
  exact ⟨rfl, rfl⟩

set_option maxRecDepth 100000 in
theorem names_calls (k : Int) (w : World) : Calls Tryz.prog 101 #[.int .i64 k] w fun e w' => e = .returned (.int .i64 (namesZ k)) ∧ w = w' := by
  rcases kinds k with rfl | rfl | rfl | rfl | rfl | rfl | rfl | rfl | rfl | rfl | rfl | rfl | rfl | rfl | rfl | rfl | rfl | rfl | rfl | rfl | rfl | rfl | rfl | rfl | rfl | rfl | h
  all_goals try (
    go_enter Tryz.func101, Tryz.ntmps101
    go_wp2
    go_ret
    exact ⟨rfl, rfl⟩)
  have e : namesZ k = 0 := tab_other h
  rw [e]
  go_enter Tryz.func101, Tryz.ntmps101
  go_wp2
  go_ret
  exact ⟨rfl, rfl⟩

/-- How few kids a kind has, and how many. -/
def leastZ (k : Int) : Int := if arityZ k = -2 then 2 else arityZ k
def greatZ (k : Int) : Int := if arityZ k = -2 then 6 else arityZ k

/-- What the program says of a kind's shape. -/
def shapeVal (k : Int) : Value :=
  if k < 1 ∨ 26 < k then .tuple #[.agg #[.int .i64 0, .int .i64 0, .int .i64 0, .int .i64 0], .bool false]
  else .tuple #[.agg #[.int .i64 (namesZ k), .int .i64 (mostZ k), .int .i64 (leastZ k), .int .i64 (greatZ k)], .bool true]

set_option maxHeartbeats 1000000 in
set_option maxRecDepth 100000 in
theorem shape_calls (k : Int) (w : World) : Calls Tryz.prog 103 #[.int .i64 k] w fun e w' => e = .returned (shapeVal k) ∧ Below w.heap.size w w' := by
  rcases kinds k with rfl | rfl | rfl | rfl | rfl | rfl | rfl | rfl | rfl | rfl | rfl | rfl | rfl | rfl | rfl | rfl | rfl | rfl | rfl | rfl | rfl | rfl | rfl | rfl | rfl | rfl | h
  all_goals try (
    go_enter Tryz.func103, Tryz.ntmps103
    go_wp2
    refine bodyPost_ret (v := shapeVal _) (by simp [results, Tryz.results103, go_sem]; rfl) rfl ⟨rfl, ?_⟩
    repeat (first | exact Below.refl _ _ | refine Below.alloc ?_ (by first | (simp; done) | (simp; omega)) _))
  have e : shapeVal k = .tuple #[.agg #[.int .i64 0, .int .i64 0, .int .i64 0, .int .i64 0], .bool false] := by rw [shapeVal, if_pos h]
  rw [e]
  go_enter Tryz.func103, Tryz.ntmps103
  go_wp2
  refine bodyPost_ret (v := .tuple #[.agg #[.int .i64 0, .int .i64 0, .int .i64 0, .int .i64 0], .bool false]) (by simp [results, Tryz.results103, go_sem]) rfl ⟨rfl, ?_⟩
  repeat (first | exact Below.refl _ _ | refine Below.alloc ?_ (by first | (simp; done) | (simp; omega)) _)
end Go.Proofs.YtgiejnmphfgmgaaGreatDoor
