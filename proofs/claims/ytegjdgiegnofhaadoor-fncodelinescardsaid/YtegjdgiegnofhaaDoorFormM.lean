/- The program's forms: what value stands for a node and its kids. -/
import Derived.Test.YtegjdgiegnofhaaDoorPureForest
import Derived.Test.YtegjdgiegnofhaaDoorPureTree
import Derived.Test.YtegjdgiegnofhaaDoorKept
import Derived.BigQuiet
import Derived.Test.YtegjdgiegnofhaaDoorSpecDeep
import Derived.Deep.OwnRows
namespace Go.Proofs.YtegjdgiegnofhaaDoor
open Go.RowKit

/-- A slice of these values, in a block that is not below 'B'. -/
def RowAt (B : Nat) (w : World) (sl : Value) (us : List Value) : Prop :=
  ∃ g o cap, sl = .slice (some ⟨g, o, none⟩) us.length cap ∧ B ≤ g ∧ g < w.heap.size ∧ ∀ j, j < us.length → w.cell? ⟨g, o + j, none⟩ = us[j]?

theorem RowAt.kept {B B' : Nat} {w w' : World} {sl : Value} {us : List Value} (h : RowAt B w sl us) (hB : B' ≤ B) (hs : w.heap.size ≤ w'.heap.size) (hc : ∀ a : Addr, B ≤ a.block → a.block < w.heap.size → w'.cell? a = w.cell? a) : RowAt B' w' sl us := by
  obtain ⟨g, o, cap, e, h1, h2, h3⟩ := h
  refine ⟨g, o, cap, e, Nat.le_trans hB h1, Nat.lt_of_lt_of_le h2 hs, fun j hj => ?_⟩
  rw [hc ⟨g, o + j, none⟩ h1 h2]
  exact h3 j hj

/-- A node has as many kids as its kind asks. -/
def Fits (n : Nd) (m : Nat) : Prop := leastZ n.kind ≤ m ∧ (m : Int) ≤ greatZ n.kind ∧ 1 ≤ n.kind ∧ n.kind ≤ 26

theorem below_draws (B : Nat) (w : World) (n : Nat) : Below B w (w.drewN n) := ⟨rfl, rfl, rfl, Nat.le_refl _, fun _ _ => rfl⟩

theorem len0 {us : List Value} (h : us.length = 0) : us = [] := List.eq_nil_of_length_eq_zero h

theorem len1 {us : List Value} (h : us.length = 1) : ∃ u, us = [u] := by
  match us, h with
  | [u], _ => exact ⟨u, rfl⟩

theorem len2 {us : List Value} (h : us.length = 2) : ∃ u v, us = [u, v] := by
  match us, h with
  | [u, v], _ => exact ⟨u, v, rfl⟩

theorem len3 {us : List Value} (h : us.length = 3) : ∃ u v x, us = [u, v, x] := by
  match us, h with
  | [u, v, x], _ => exact ⟨u, v, x, rfl⟩
end Go.Proofs.YtegjdgiegnofhaaDoor

/- A node's form, made of its kids' forms. -/
namespace Go.Proofs.YtegjdgiegnofhaaDoor
open Go.RowKit

/-- A node as a value. -/
def nodeVal (n : Nd) : Value := .agg #[.int .i64 n.kind, .int .i64 n.num, .string n.a, .string n.b, .string n.c, .int .i64 n.kids]

theorem fits_cases {n : Nd} {m : Nat} (h : Fits n m) :
    (m = 0 ∧ (n.kind = 1 ∨ n.kind = 2 ∨ n.kind = 3 ∨ n.kind = 4 ∨ n.kind = 5)) ∨
    (m = 1 ∧ (n.kind = 6 ∨ n.kind = 17 ∨ n.kind = 18 ∨ n.kind = 21 ∨ n.kind = 22 ∨ n.kind = 25 ∨ n.kind = 26)) ∨
    (m = 2 ∧ (n.kind = 7 ∨ n.kind = 8 ∨ n.kind = 9 ∨ n.kind = 11 ∨ n.kind = 12 ∨ n.kind = 13 ∨ n.kind = 14 ∨ n.kind = 15 ∨ n.kind = 16 ∨ n.kind = 19)) ∨
    (m = 3 ∧ (n.kind = 10 ∨ n.kind = 20)) ∨
    (2 ≤ m ∧ m ≤ 6 ∧ (n.kind = 23 ∨ n.kind = 24)) := by
  obtain ⟨h1, h2, h3, h4⟩ := h
  rcases kinds n.kind with h | h | h | h | h | h | h | h | h | h | h | h | h | h | h | h | h | h | h | h | h | h | h | h | h | h | h
  all_goals try (
    rw [h] at h1 h2
    simp [leastZ, greatZ, arityZ, tab] at h1 h2
    omega)
  omega

end Go.Proofs.YtegjdgiegnofhaaDoor

/- The form of the tree at a place. -/
namespace Go.Proofs.YtegjdgiegnofhaaDoor
open Go.RowKit Go.Deep

theorem Fo.app_snoc (n : Nd) (k r : Fo) : ∀ g : Fo, g.app (.tree n k r) = (g.app (.tree n k .none)).app r
  | .none => rfl
  | .tree n' k' r' => by simp only [Fo.app, app_snoc n k r r']

theorem Fo.app_none : ∀ g : Fo, g.app .none = g
  | .none => rfl
  | .tree n' k' r' => by simp only [Fo.app, app_none r']

end Go.Proofs.YtegjdgiegnofhaaDoor
