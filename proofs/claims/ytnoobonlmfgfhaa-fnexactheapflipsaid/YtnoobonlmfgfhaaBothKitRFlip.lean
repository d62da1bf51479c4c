/- Words in a row of their own, copied; what both sides count. -/
import Derived.Test.YtnoobonlmfgfhaaHHeapFlip1
import Derived.Test.YtnoobonlmfgfhaaImplHeapQ
namespace Go.Proofs.Ytnoobonlmfgfhaa
open Go.RowKit

/-- Words in a row of their own, at a later world. -/
theorem row_kept {B g N : Nat} {bs : List Int} {W X : World} (h0 : N ≠ 0) (hs : SliceR 3 1 B W (.slice (some ⟨g, 0, none⟩) N N) N (intCells bs)) (hX : Below W.heap.size W X) :
    g < X.heap.size ∧ ∀ k, k < N → X.cell? ⟨g, 0 + k, none⟩ = some (.int .i64 (bs.getD k 0)) := by
  obtain ⟨ad, cap, e, hh⟩ := hs
  obtain ⟨g', e2, hB, hr⟩ := hh.resolve_left h0
  cases e
  cases e2
  rw [Nat.mul_one] at hr
  exact ⟨Nat.lt_of_lt_of_le hr.lt hX.size, fun k hk => by rw [Nat.zero_add]; exact (hX.cell (p := ⟨g, k, none⟩) hr.lt).trans (hr.cell hk)⟩

theorem touch_same (t r q : Int) : wrap64 (wrap64 (t + r) + q) = wrap64 (t + (r + q)) := by
  unfold wrap64
  omega

theorem clone_row (rg n rc : Nat) (xs : List Int) (X : World) (hl : xs.length = n) (hn : n ≤ 20) (hc : ∀ k, k < n → X.cell? ⟨rg, 0 + k, none⟩ = some (.int .i64 (xs.getD k 0))) :
    Calls Try.prog 49 #[.slice (some ⟨rg, 0, none⟩) n rc] X fun e w' => ∃ g c, e = .returned (.slice (some ⟨g, 0, none⟩) n c) ∧ Hid (CellRow 3 w' g n (intCells xs)) ∧ X.heap.size ≤ g ∧ Below X.heap.size X w' := by
  refine (Try.slices_Clone_int rg 0 n rc xs X (by omega) (by omega) (fun j hj => hc j (by omega))).mono ?_
  rintro e w' ⟨v', rfl, how, hv0, hb⟩
  rw [List.take_of_length_le (by omega)] at how
  obtain ⟨-, hh | ⟨g, cp, cur, rfl, hg, -⟩⟩ := id how
  · exact absurd hh.1 hv0
  obtain ⟨hrow, hlow⟩ := row_of_owns hl how
  exact ⟨g, cp, rfl, hrow, hlow, hb⟩
end Go.Proofs.Ytnoobonlmfgfhaa
