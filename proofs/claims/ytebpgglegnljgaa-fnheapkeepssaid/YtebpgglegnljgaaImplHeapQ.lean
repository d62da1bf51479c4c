/- The program makes a collector of a heap. -/
import Derived.Test.YtebpgglegnljgaaImplHeapO
namespace Go.Proofs.Ytebpgglegnljgaa
open Go.RowKit

set_option maxHeartbeats 1000000 in
set_option maxRecDepth 100000 in
theorem collectorOf_calls (b off cap N : Nat) (ws : List Int) (h : HpN) (w : World) (hN0 : 0 < N) (hl : ws.length = N) (hN : N ≤ 8000) (hb : b < w.heap.size)
    (hw : ∀ k, k < N → w.cell? ⟨b, off + k, none⟩ = some (.int .i64 (ws.getD k 0))) :
    Calls Try.prog 42 #[heapV (.slice (some ⟨b, off, none⟩) N cap) h] w fun e w' => ∃ bc bw cap' : Nat, e = .returned (.pointer (some ⟨bc, 0, none⟩)) ∧ Col w bc bw N cap' ws h 0 0 w' ∧ w.heap.size ≤ bc ∧ w.heap.size ≤ bw := by
  have HCl := hid (fun (X : World) (hX : Below w.heap.size w X) => Try.slices_Clone_int b off N cap ws X (by omega) (by omega) (fun j hj => (hX.cell (p := ⟨b, off + j, none⟩) hb).trans (hw j (by omega))))
  clear hw
  obtain ⟨g1, g2, g3, g4, g5, g6, g7, g8, g9⟩ := h
  unfold heapV
  dsimp only
  go_enter Try.func42, Try.ntmps42
  go_wp2_with fail
  refine (HCl.out _ (by first | exact (Below.refl _ _).alloc (Nat.le_refl _) _ | exact ((Below.refl _ _).alloc (Nat.le_refl _) _).drew)).mono ?_
  rintro e W1 ⟨v', rfl, how, hv0, hb1⟩
  have hH : HeapBlk W1 w.heap.size (.slice (some ⟨b, off, none⟩) N cap) ⟨g1, g2, g3, g4, g5, g6, g7, g8, g9⟩ := (hb1.block w.heap.size (by simp)).trans ((MapKept.heap_alloc w _).1)
  obtain ⟨hxl, hh | ⟨g, cp, cur, rfl, hg, hcur, hcp, -, hcs, htk⟩⟩ := how
  · exact absurd hh.1 hv0
  have hbl : Below w.heap.size w W1 := one_below hb1
  obtain ⟨c0, c1, c2, c3, c4, c5, c6, c7, c8, c9⟩ := hH.cells
  dsimp only at c0 c1 c2 c3 c4 c5 c6 c7 c8 c9
  have f0 := frozen_of_heap hH 0
  have HB := hid hbl
  have HCur := hid hcur
  have HG : Hid (w.heap.size < g) := by have := hg; simp at this; exact this
  have HH := hid hH
  clear hb1 hbl hcur hg hH HCl hv0 hxl
  go_wp2_with fail
  go_ret
  have hrow : CellRow 3 W1 g N (intCells ws) := by
    refine ⟨cp, fun i => (cur[i]?).getD undef, ⟨cur, (0, 0), HCur.out, by omega, fun i hi => ?_, Or.inl rfl⟩, hcp, fun i hi => ?_⟩
    · have e := Array.getElem?_eq_getElem (xs := cur) (i := i) (by omega)
      dsimp only
      rw [e]
      rfl
    · have e : (cur.toList.take (N * 1))[i]? = (List.map (Value.int IntKind.i64) (List.take N ws))[i]? := by rw [htk]
      rw [Nat.mul_one, List.getElem?_take_of_lt hi, List.getElem?_map, List.getElem?_take_of_lt hi, Array.getElem?_toList, List.getElem?_eq_getElem (by omega)] at e
      dsimp only
      rw [e]
      simp [intCells, List.getD, hl, hi]
  have hs : (W1.setCell ⟨w.heap.size, 0, none⟩ (.slice (some ⟨g, 0, none⟩) N cp)).heap.size = W1.heap.size := by simp [World.setCell]
  have hgl := hrow.lt
  have hsz := HB.out.size
  refine ⟨W1.heap.size, g, cp, rfl, ⟨?_, ?_, hl, by omega, Frm.of_below ((HB.out.setCell (Nat.le_refl _) _).alloc (by rw [hs]; exact hsz) _)⟩, hsz, Nat.le_of_lt HG.out⟩
  · have e := (MapKept.heap_alloc (W1.setCell ⟨w.heap.size, 0, none⟩ (.slice (some ⟨g, 0, none⟩) N cp)) (.cells #[.slice (some ⟨g, 0, none⟩) N cp, .int .i64 g1, .int .i64 g2, .int .i64 g3, .int .i64 g4, .int .i64 g5, .int .i64 g6, .int .i64 g7, .int .i64 g8, .int .i64 g9, .int .i64 0, .int .i64 0] 102)).1
    rw [hs] at e
    exact e
  · refine hrow.of_block ?_
    have e1 := ((Below.refl (W1.setCell ⟨w.heap.size, 0, none⟩ (.slice (some ⟨g, 0, none⟩) N cp)).heap.size _).alloc (Nat.le_refl _) (.cells #[.slice (some ⟨g, 0, none⟩) N cp, .int .i64 g1, .int .i64 g2, .int .i64 g3, .int .i64 g4, .int .i64 g5, .int .i64 g6, .int .i64 g7, .int .i64 g8, .int .i64 g9, .int .i64 0, .int .i64 0] 102)).block g (by rw [hs]; exact hgl)
    exact e1.trans (Below.heap_setCell _ _ _ _ (by have := HG.out; dsimp only; omega))
end Go.Proofs.Ytebpgglegnljgaa
