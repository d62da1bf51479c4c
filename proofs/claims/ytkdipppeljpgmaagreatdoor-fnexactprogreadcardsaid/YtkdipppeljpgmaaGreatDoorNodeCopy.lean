/- A copy of a list of nodes, made by the laws' own helper, holds the same nodes in new memory; two lists of the same nodes compare as alike. -/
import Derived.Test.YtkdipppeljpgmaaGreatDoorNodeWalks
import Derived.Deep.RegionWith
namespace Go.Proofs.YtkdipppeljpgmaaGreatDoor
open Go.RowKit

theorem info_node : (Tryz.prog.info? 64).map (fun i => (i.zero, i.size, i.bytes)) = some (some (.agg #[.int .i64 0, .int .i64 0, .string ByteArray.empty, .string ByteArray.empty, .string ByteArray.empty, .int .i64 0]), 6, 72) := by kernel_rfl

theorem made_nodes (len : Nat) (hl : len ≤ 1048576) (w : World) : ∃ c : Array Value, c.size = len * 6 ∧
    (Instr.makeSlice 23 (.int .i64 (len : Int)) (.int .i64 (len : Int))).run Tryz.prog w = .ok (.slice (some ⟨w.heap.size, 0, none⟩) len len) (w.alloc (.cells c 64)) := by
  obtain ⟨i0, hi, hz0, hz1, hz2⟩ := info_parts info_node
  have h := run_make (P := Tryz.prog) w 23 64 i0 _ Tryz.underlying23 hi hz0 .i64 .i64 len len (by omega) (Int.le_refl _) (by rw [hz2]; omega) (by omega)
  rw [hz1] at h
  simp only [Int.toNat_natCast] at h
  exact ⟨_, size_madeCells _ _, h⟩

/-- One node more is stored into the copy. -/
theorem copy_step {w1 : World} {B t N k : Nat} {f : Nat → Value} {ns : List Nd} {n : Nd} (h : w1.rowIs B t N f) (hf : ∀ j, j < k → ∀ c, c < 6 → f (j * 6 + c) = (ns.getD j default).cell c) (hn : ns.getD k default = n) :
    ∃ f', ((((((w1.setCell ⟨B, k * 6, none⟩ (.int .i64 n.kind)).setCell ⟨B, k * 6 + 1, none⟩ (.int .i64 n.num)).setCell ⟨B, k * 6 + 2, none⟩ (.string n.a)).setCell ⟨B, k * 6 + 3, none⟩ (.string n.b)).setCell ⟨B, k * 6 + 4, none⟩ (.string n.c)).setCell ⟨B, k * 6 + 5, none⟩ (.int .i64 n.kids)).rowIs B t N f' ∧
      ∀ j, j < k + 1 → ∀ c, c < 6 → f' (j * 6 + c) = (ns.getD j default).cell c := by
  refine ⟨_, (((((h.set _ _).set _ _).set _ _).set _ _).set _ _).set _ _, fun j hj c hc => ?_⟩
  by_cases hjk : j < k
  · rw [if_neg (by omega), if_neg (by omega), if_neg (by omega), if_neg (by omega), if_neg (by omega), if_neg (by omega)]
    exact hf j hjk c hc
  · have e : j = k := by omega
    subst e
    rw [hn]
    match c, hc with
    | 0, _ => rw [if_neg (by omega), if_neg (by omega), if_neg (by omega), if_neg (by omega), if_neg (by omega), if_pos (by omega)]; rfl
    | 1, _ => rw [if_neg (by omega), if_neg (by omega), if_neg (by omega), if_neg (by omega), if_pos (by omega)]; rfl
    | 2, _ => rw [if_neg (by omega), if_neg (by omega), if_neg (by omega), if_pos (by omega)]; rfl
    | 3, _ => rw [if_neg (by omega), if_neg (by omega), if_pos (by omega)]; rfl
    | 4, _ => rw [if_neg (by omega), if_pos (by omega)]; rfl
    | 5, _ => rw [if_pos (by omega)]; rfl

set_option maxRecDepth 100000 in
theorem eqNodeS_calls (b off b' off' len cap cap' : Nat) (ns : List Nd) (w : World) (hb : b < w.heap.size) (hb' : b' < w.heap.size) (hn : NodesAt w b off ns) (hn' : NodesAt w b' off' ns) (hl : len ≤ ns.length) (hm : len ≤ 1048576) :
    Calls Tryz.prog 21 #[.slice (some ⟨b, off, none⟩) len cap, .slice (some ⟨b', off', none⟩) len cap'] w fun e w' => e = .returned (.bool true) ∧ Below w.heap.size w w' := by
  go_enter Tryz.func21, Tryz.ntmps21
  go_wp2_with fail
  go_loopw [5] (fun i wr => ∃ k : Nat, k ≤ len ∧ i = .int .i64 k ∧ Below w.heap.size w wr) (fun i _ => len - (intOf i).toNat)
  case atStart => exact ⟨0, Nat.zero_le _, rfl, Below.refl _ _⟩
  case round =>
    obtain ⟨k, hk, rfl, hnx⟩ := hrel
    by_cases hkl : k < len
    · have hcell := fun c (hc : c < 6) => (hnx.cell (p := ⟨b, off + k * 6 + c, none⟩) hb).trans (hn k (by omega) c hc)
      have hcell' := fun c (hc : c < 6) => (hnx.cell (p := ⟨b', off' + k * 6 + c, none⟩) hb').trans (hn' k (by omega) c hc)
      obtain ⟨n, hnd⟩ : ∃ n, ns.getD k default = n := ⟨_, rfl⟩
      rw [hnd] at hcell hcell'
      have c0 := hcell 0 (by omega)
      have c1 := hcell 1 (by omega)
      have c2 := hcell 2 (by omega)
      have c3 := hcell 3 (by omega)
      have c4 := hcell 4 (by omega)
      have c5 := hcell 5 (by omega)
      have d0 := hcell' 0 (by omega)
      have d1 := hcell' 1 (by omega)
      have d2 := hcell' 2 (by omega)
      have d3 := hcell' 3 (by omega)
      have d4 := hcell' 4 (by omega)
      have d5 := hcell' 5 (by omega)
      simp only [Nd.cell, Nat.add_zero] at c0 c1 c2 c3 c4 c5 d0 d1 d2 d3 d4 d5
      clear hcell hcell' hn hn' hnd
      have hi : (k : Int) < (len : Int) := by omega
      have hi0 : (0 : Int) ≤ (k : Int) := by omega
      go_wp2_with fail
      go_region_with (go_at_call 50; refine (eqNode_calls _ _ _ _ _ _ _).mono ?_; rintro e w1 ⟨rfl, hb1⟩)
      all_goals
        have hb2 := hnx.drew.trans (hb1.mono hnx.size)
        clear hb1 c0 c1 c2 c3 c4 c5 d0 d1 d2 d3 d4 d5
        go_wp2_with fail
        exact ⟨⟨k + 1, by omega, by simp, hb2⟩, by simp [intOf]; omega⟩
    · go_wp2_with fail
      go_ret
      exact ⟨rfl, hnx⟩
end Go.Proofs.YtkdipppeljpgmaaGreatDoor
