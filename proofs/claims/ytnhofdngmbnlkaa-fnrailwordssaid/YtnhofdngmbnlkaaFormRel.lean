/- The program's forms: what value stands for a node and its kids. -/
import Derived.Test.YtnhofdngmbnlkaaPureForest
import Derived.Test.YtnhofdngmbnlkaaPureTree
import Derived.Test.YtnhofdngmbnlkaaKept
import Derived.BigQuiet
namespace Go.Proofs.Ytnhofdngmbnlkaa
open Go.RowKit

/-- A slice of these values, in a block that is not below 'B'. -/
def RowAt (B : Nat) (w : World) (sl : Value) (us : List Value) : Prop :=
  ∃ g o cap, sl = .slice (some ⟨g, o, none⟩) us.length cap ∧ B ≤ g ∧ g < w.heap.size ∧ ∀ j, j < us.length → w.cell? ⟨g, o + j, none⟩ = us[j]?

theorem RowAt.kept {B B' : Nat} {w w' : World} {sl : Value} {us : List Value} (h : RowAt B w sl us) (hB : B' ≤ B) (hs : w.heap.size ≤ w'.heap.size) (hc : ∀ a : Addr, B ≤ a.block → a.block < w.heap.size → w'.cell? a = w.cell? a) : RowAt B' w' sl us := by
  obtain ⟨g, o, cap, e, h1, h2, h3⟩ := h
  refine ⟨g, o, cap, e, Nat.le_trans hB h1, Nat.lt_of_lt_of_le h2 hs, fun j hj => ?_⟩
  rw [hc ⟨g, o + j, none⟩ h1 h2]
  exact h3 j hj

/-- A node has as many kids as its kind asks. -/
def Fits (n : Nd) (m : Nat) : Prop := leastZ n.kind ≤ m ∧ (m : Int) ≤ greatZ n.kind ∧ 1 ≤ n.kind ∧ n.kind ≤ 26

theorem below_draws (B : Nat) (w : World) (n : Nat) : Below B w (w.drewN n) := ⟨rfl, rfl, rfl, Nat.le_refl _, fun _ _ => rfl⟩

theorem len0 {us : List Value} (h : us.length = 0) : us = [] := List.eq_nil_of_length_eq_zero h

theorem len1 {us : List Value} (h : us.length = 1) : ∃ u, us = [u] := by
  match us, h with
  | [u], _ => exact ⟨u, rfl⟩

theorem len2 {us : List Value} (h : us.length = 2) : ∃ u v, us = [u, v] := by
  match us, h with
  | [u, v], _ => exact ⟨u, v, rfl⟩

theorem len3 {us : List Value} (h : us.length = 3) : ∃ u v x, us = [u, v, x] := by
  match us, h with
  | [u, v, x], _ => exact ⟨u, v, x, rfl⟩
end Go.Proofs.Ytnhofdngmbnlkaa
