/- The program lays a heap out. -/
import Derived.Test.YtnoobonlmfgfhaaImplHeapR
namespace Go.Proofs.Ytnoobonlmfgfhaa
open Go.RowKit

set_option maxHeartbeats 8000000 in
set_option maxRecDepth 1000000 in
theorem layOut_calls (b off cap N : Nat) (ws : List Int) (h : HpN) (w : World) (hN : ws.length = N) (ho : Ordered h N) (hcap : N ≤ cap)
    (hb : b < w.heap.size) (hw : ∀ k, k < N → w.cell? ⟨b, off + k, none⟩ = some (.int .i64 (ws.getD k 0))) :
    Calls Try.prog 40 #[heapV (.slice (some ⟨b, off, none⟩) N cap) h] w (LayTold b off cap N ws h w) := by
  have HOr := hid (fun w => ordered_calls (some ⟨b, off, none⟩) N cap h w)
  rw [decide_eq_true ho] at HOr
  have HO := hid ho
  have HW := hid hw
  have HN := hid hN
  have HCap := hid hcap
  have hN8 : N ≤ 8000 := by obtain ⟨o1, o2, o3, _⟩ := ho; omega
  have hmk := run_make_row' (P := Try.prog) 22 3 (.int .i64 0) 8 Try.underlying22 info_int rfl .i64 .i64 N (by omega) (by omega)
  clear ho hw hN hcap
  obtain ⟨g1, g2, g3, g4, g5, g6, g7, g8, g9⟩ := h
  unfold heapV at *
  dsimp only at *
  go_enter Try.func40, Try.ntmps40
  go_wp2_with fail
  refine (HOr.out _).mono ?_
  rintro e W1 ⟨rfl, hb1⟩
  obtain ⟨eA, eB, hbw⟩ := two_kept hb1
  obtain ⟨c0, c1, c2, c3, c4, c5, c6, c7, c8, c9⟩ := HeapBlk.cells (h := ⟨g1, g2, g3, g4, g5, g6, g7, g8, g9⟩) eA
  dsimp only at c0 c1 c2 c3 c4 c5 c6 c7 c8 c9
  have hz1 : w.heap.size < W1.heap.size := heap_lt eA
  go_wp2_with fail
  rename_i K1 hK1
  go_region_held3 (fun w' => w'.cell? ⟨w.heap.size, 0, none⟩ = some (.slice (some ⟨b, off, none⟩) N cap) ∧ w'.cell? ⟨w.heap.size, 1, none⟩ = some (.int .i64 g1) ∧ w'.cell? ⟨w.heap.size, 2, none⟩ = some (.int .i64 g2) ∧ w'.cell? ⟨w.heap.size, 3, none⟩ = some (.int .i64 g3) ∧ w'.cell? ⟨w.heap.size, 4, none⟩ = some (.int .i64 g4) ∧ w'.cell? ⟨w.heap.size, 5, none⟩ = some (.int .i64 g5) ∧ w'.cell? ⟨w.heap.size, 6, none⟩ = some (.int .i64 g6) ∧ w'.cell? ⟨w.heap.size, 7, none⟩ = some (.int .i64 g7) ∧ w'.cell? ⟨w.heap.size, 8, none⟩ = some (.int .i64 g8) ∧ w'.cell? ⟨w.heap.size, 9, none⟩ = some (.int .i64 g9)) (go_keep) (fail)
  · have k2 := (((Below.refl W1.heap.size W1).alloc (Nat.le_refl _) (.cells (madeCells #[.int .i64 0] N) 3)).alloc (by simp) (.cells #[.slice (some ⟨b, off, none⟩) N cap, .int .i64 g1, .int .i64 g2, .int .i64 g3, .int .i64 g4, .int .i64 g5, .int .i64 g6, .int .i64 g7, .int .i64 g8, .int .i64 g9, .slice (some ⟨W1.heap.size, 0, none⟩) N N] 59)).drew
    have hL0 : LSt w b off (w.heap.size + 1) (W1.heap.size + 1) W1.heap.size N ws (.slice (some ⟨b, off, none⟩) N cap) ⟨g1, g2, g3, g4, g5, g6, g7, g8, g9⟩ (List.replicate N 0) (((W1.alloc (.cells (madeCells #[.int .i64 0] N) 3)).alloc (.cells #[.slice (some ⟨b, off, none⟩) N cap, .int .i64 g1, .int .i64 g2, .int .i64 g3, .int .i64 g4, .int .i64 g5, .int .i64 g6, .int .i64 g7, .int .i64 g8, .int .i64 g9, .slice (some ⟨W1.heap.size, 0, none⟩) N N] 59)).drew) := by
      have hblk := LayBlk.new (W1.alloc (.cells (madeCells #[.int .i64 0] N) 3)) (.slice (some ⟨b, off, none⟩) N cap) ⟨g1, g2, g3, g4, g5, g6, g7, g8, g9⟩ (.slice (some ⟨W1.heap.size, 0, none⟩) N N)
      rw [World.size_alloc] at hblk
      have hrow := (ints_made W1 N).of_block (w' := ((W1.alloc (.cells (madeCells #[.int .i64 0] N) 3)).alloc (.cells #[.slice (some ⟨b, off, none⟩) N cap, .int .i64 g1, .int .i64 g2, .int .i64 g3, .int .i64 g4, .int .i64 g5, .int .i64 g6, .int .i64 g7, .int .i64 g8, .int .i64 g9, .slice (some ⟨W1.heap.size, 0, none⟩) N N] 59)).drew) (Below.heap_alloc _ _ _ (by simp))
      exact ⟨HN.out, Nat.lt_of_lt_of_le hb (hbw.trans (k2.mono hbw.size)).size, fun k hk => ((hbw.trans (k2.mono hbw.size)).cell (p := ⟨b, off + k, none⟩) hb).trans (HW.out k hk), HeapBlk.below (h := ⟨g1, g2, g3, g4, g5, g6, g7, g8, g9⟩) eA k2, LayBlk.below (h := ⟨0, 0, 0, 0, 0, 0, 0, 0, 0⟩) eB k2, hblk, by simp, hrow, by omega, by omega, by have := heap_lt eB; omega, by omega, by have := heap_lt eB; omega, by omega, by omega, hbw.trans (k2.mono hbw.size)⟩
    simp only [Exit.then]
    refine hK1 _ _ ?_
    exact layRest_wp b off cap _ _ _ N ws ⟨g1, g2, g3, g4, g5, g6, g7, g8, g9⟩ w _ HN.out HO.out HCap.out hb hL0 _ _ _ _ _ _ _ _ _ _ _ _ _ _ _ _ _ _ _ _ _ _ _ _ _ _ _ _ _ _ _ _ _ _ _ _ _ _ _ _ _ _ _ _ _ _ _ _ _ _ _ _ _ _ _ _ _ _ _ _ _ _ _ _ _ _ _ _ _ _ _ _ _ _ _ _ _ _ _ _ _ _ _ _ _ _ _ _
  · have k2 := (((Below.refl W1.heap.size W1).alloc (Nat.le_refl _) (.cells #[.slice (some ⟨b, off, none⟩) N cap, .int .i64 g1, .int .i64 g2, .int .i64 g3, .int .i64 g4, .int .i64 g5, .int .i64 g6, .int .i64 g7, .int .i64 g8, .int .i64 g9, .slice (some ⟨W1.heap.size + 1, 0, none⟩) N N] 59)).alloc (by simp) (.cells (madeCells #[.int .i64 0] N) 3)).drew
    have hL0 : LSt w b off (w.heap.size + 1) W1.heap.size (W1.heap.size + 1) N ws (.slice (some ⟨b, off, none⟩) N cap) ⟨g1, g2, g3, g4, g5, g6, g7, g8, g9⟩ (List.replicate N 0) (((W1.alloc (.cells #[.slice (some ⟨b, off, none⟩) N cap, .int .i64 g1, .int .i64 g2, .int .i64 g3, .int .i64 g4, .int .i64 g5, .int .i64 g6, .int .i64 g7, .int .i64 g8, .int .i64 g9, .slice (some ⟨W1.heap.size + 1, 0, none⟩) N N] 59)).alloc (.cells (madeCells #[.int .i64 0] N) 3)).drew) := by
      have hblk0 := LayBlk.new W1 (.slice (some ⟨b, off, none⟩) N cap) ⟨g1, g2, g3, g4, g5, g6, g7, g8, g9⟩ (.slice (some ⟨W1.heap.size + 1, 0, none⟩) N N)
      have hblk : LayBlk ((W1.alloc (.cells #[.slice (some ⟨b, off, none⟩) N cap, .int .i64 g1, .int .i64 g2, .int .i64 g3, .int .i64 g4, .int .i64 g5, .int .i64 g6, .int .i64 g7, .int .i64 g8, .int .i64 g9, .slice (some ⟨W1.heap.size + 1, 0, none⟩) N N] 59)).alloc (.cells (madeCells #[.int .i64 0] N) 3)).drew W1.heap.size (.slice (some ⟨b, off, none⟩) N cap) ⟨g1, g2, g3, g4, g5, g6, g7, g8, g9⟩ (.slice (some ⟨W1.heap.size + 1, 0, none⟩) N N) := (Below.heap_alloc _ _ _ (by simp)).trans hblk0
      have hrow0 := ints_made (W1.alloc (.cells #[.slice (some ⟨b, off, none⟩) N cap, .int .i64 g1, .int .i64 g2, .int .i64 g3, .int .i64 g4, .int .i64 g5, .int .i64 g6, .int .i64 g7, .int .i64 g8, .int .i64 g9, .slice (some ⟨W1.heap.size + 1, 0, none⟩) N N] 59)) N
      rw [World.size_alloc] at hrow0
      have hrow : CellRow 3 ((W1.alloc (.cells #[.slice (some ⟨b, off, none⟩) N cap, .int .i64 g1, .int .i64 g2, .int .i64 g3, .int .i64 g4, .int .i64 g5, .int .i64 g6, .int .i64 g7, .int .i64 g8, .int .i64 g9, .slice (some ⟨W1.heap.size + 1, 0, none⟩) N N] 59)).alloc (.cells (madeCells #[.int .i64 0] N) 3)).drew (W1.heap.size + 1) N (intCells (List.replicate N 0)) := hrow0.of_block rfl
      exact ⟨HN.out, Nat.lt_of_lt_of_le hb (hbw.trans (k2.mono hbw.size)).size, fun k hk => ((hbw.trans (k2.mono hbw.size)).cell (p := ⟨b, off + k, none⟩) hb).trans (HW.out k hk), HeapBlk.below (h := ⟨g1, g2, g3, g4, g5, g6, g7, g8, g9⟩) eA k2, LayBlk.below (h := ⟨0, 0, 0, 0, 0, 0, 0, 0, 0⟩) eB k2, hblk, by simp, hrow, by omega, by omega, by have := heap_lt eB; omega, by omega, by have := heap_lt eB; omega, by omega, by omega, hbw.trans (k2.mono hbw.size)⟩
    simp only [Exit.then]
    refine hK1 _ _ ?_
    exact layRest_wp b off cap _ _ _ N ws ⟨g1, g2, g3, g4, g5, g6, g7, g8, g9⟩ w _ HN.out HO.out HCap.out hb hL0 _ _ _ _ _ _ _ _ _ _ _ _ _ _ _ _ _ _ _ _ _ _ _ _ _ _ _ _ _ _ _ _ _ _ _ _ _ _ _ _ _ _ _ _ _ _ _ _ _ _ _ _ _ _ _ _ _ _ _ _ _ _ _ _ _ _ _ _ _ _ _ _ _ _ _ _ _ _ _ _ _ _ _ _ _ _ _ _
end Go.Proofs.Ytnoobonlmfgfhaa
