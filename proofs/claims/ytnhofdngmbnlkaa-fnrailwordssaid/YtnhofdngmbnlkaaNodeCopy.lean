/- A copy of a list of nodes, made by the laws' own helper, holds the same nodes in new memory; two lists of the same nodes compare as alike. -/
import Derived.Test.YtnhofdngmbnlkaaNodeWalks
import Derived.Deep.RegionWith
namespace Go.Proofs.Ytnhofdngmbnlkaa
open Go.RowKit

theorem info_node : (Try.prog.info? 65).map (fun i => (i.zero, i.size, i.bytes)) = some (some (.agg #[.int .i64 0, .int .i64 0, .string ByteArray.empty, .string ByteArray.empty, .string ByteArray.empty, .int .i64 0]), 6, 72) := by kernel_rfl

theorem made_nodes (len : Nat) (hl : len ≤ 1048576) (w : World) : ∃ c : Array Value, c.size = len * 6 ∧
    (Instr.makeSlice 43 (.int .i64 (len : Int)) (.int .i64 (len : Int))).run Try.prog w = .ok (.slice (some ⟨w.heap.size, 0, none⟩) len len) (w.alloc (.cells c 65)) := by
  obtain ⟨i0, hi, hz0, hz1, hz2⟩ := info_parts info_node
  have h := run_make (P := Try.prog) w 43 65 i0 _ Try.underlying43 hi hz0 .i64 .i64 len len (by omega) (Int.le_refl _) (by rw [hz2]; omega) (by omega)
  rw [hz1] at h
  simp only [Int.toNat_natCast] at h
  exact ⟨_, size_madeCells _ _, h⟩

/-- One node more is stored into the copy. -/
theorem copy_step {w1 : World} {B t N k : Nat} {f : Nat → Value} {ns : List Nd} {n : Nd} (h : w1.rowIs B t N f) (hf : ∀ j, j < k → ∀ c, c < 6 → f (j * 6 + c) = (ns.getD j default).cell c) (hn : ns.getD k default = n) :
    ∃ f', ((((((w1.setCell ⟨B, k * 6, none⟩ (.int .i64 n.kind)).setCell ⟨B, k * 6 + 1, none⟩ (.int .i64 n.num)).setCell ⟨B, k * 6 + 2, none⟩ (.string n.a)).setCell ⟨B, k * 6 + 3, none⟩ (.string n.b)).setCell ⟨B, k * 6 + 4, none⟩ (.string n.c)).setCell ⟨B, k * 6 + 5, none⟩ (.int .i64 n.kids)).rowIs B t N f' ∧
      ∀ j, j < k + 1 → ∀ c, c < 6 → f' (j * 6 + c) = (ns.getD j default).cell c := by
  refine ⟨_, (((((h.set _ _).set _ _).set _ _).set _ _).set _ _).set _ _, fun j hj c hc => ?_⟩
  by_cases hjk : j < k
  · rw [if_neg (by omega), if_neg (by omega), if_neg (by omega), if_neg (by omega), if_neg (by omega), if_neg (by omega)]
    exact hf j hjk c hc
  · have e : j = k := by omega
    subst e
    rw [hn]
    match c, hc with
    | 0, _ => rw [if_neg (by omega), if_neg (by omega), if_neg (by omega), if_neg (by omega), if_neg (by omega), if_pos (by omega)]; rfl
    | 1, _ => rw [if_neg (by omega), if_neg (by omega), if_neg (by omega), if_neg (by omega), if_pos (by omega)]; rfl
    | 2, _ => rw [if_neg (by omega), if_neg (by omega), if_neg (by omega), if_pos (by omega)]; rfl
    | 3, _ => rw [if_neg (by omega), if_neg (by omega), if_pos (by omega)]; rfl
    | 4, _ => rw [if_neg (by omega), if_pos (by omega)]; rfl
    | 5, _ => rw [if_pos (by omega)]; rfl

end Go.Proofs.Ytnhofdngmbnlkaa