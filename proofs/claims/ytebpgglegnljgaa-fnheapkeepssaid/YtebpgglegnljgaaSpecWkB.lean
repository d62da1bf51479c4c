/- The specification opens a heap: a worker with words of its own. -/
import Derived.Test.YtebpgglegnljgaaSpecWkA
namespace Go.Proofs.Ytebpgglegnljgaa
open Go.RowKit

theorem heap_alloc2 (w : World) (o o' : Obj) : ((w.alloc o).alloc o').heap[w.heap.size]? = some o ∧ ((w.alloc o).alloc o').heap[w.heap.size + 1]? = some o' ∧ ((w.alloc o).alloc o').heap.size = w.heap.size + 2 := by
  have h := two_kept (w := w) (o := o) (o' := o') (Below.refl _ _)
  exact ⟨h.1, h.2.1, by simp⟩

theorem row_of_owns {w : World} {B g N cap : Nat} {ws : List Int} (hl : ws.length = N) (h : w.ownsRow B 3 1 (.slice (some ⟨g, 0, none⟩) N cap) N (ws.map (fun x => Value.int .i64 x))) : CellRow 3 w g N (intCells ws) ∧ B ≤ g := by
  obtain ⟨-, hh | ⟨g', cp, cur, e, hg, hcur, hcp, -, hcs, htk⟩⟩ := h
  · exact absurd hh.1 (by simp)
  · cases e
    refine ⟨⟨cap, fun i => (cur[i]?).getD undef, ⟨cur, (0, 0), hcur, by omega, fun i hi => ?_, Or.inl rfl⟩, hcp, fun i hi => ?_⟩, hg⟩
    · have e := Array.getElem?_eq_getElem (xs := cur) (i := i) (by omega)
      dsimp only
      rw [e]
      rfl
    · have e : (cur.toList.take (N * 1))[i]? = (ws.map (fun x => Value.int .i64 x))[i]? := by rw [htk]
      rw [Nat.mul_one, List.getElem?_take_of_lt hi, List.getElem?_map, Array.getElem?_toList, List.getElem?_eq_getElem (by omega)] at e
      dsimp only
      rw [e]
      simp [intCells, List.getD, hl, hi]

set_option maxHeartbeats 1000000 in
set_option maxRecDepth 100000 in
theorem open_calls (b off cap N : Nat) (ws : List Int) (h : HpN) (w : World) (hN0 : 0 < N) (hl : ws.length = N) (hN : N ≤ 8000) (hb : b < w.heap.size)
    (hw : ∀ k, k < N → w.cell? ⟨b, off + k, none⟩ = some (.int .i64 (ws.getD k 0))) (ht0 : 0 ≤ h.touched) (ht1 : h.touched < 9223372036854775808) :
    Calls Try.prog 46 #[heapV (.slice (some ⟨b, off, none⟩) N cap) h] w fun e w' => ∃ bm bw cap' : Nat, e = .returned (.pointer (some ⟨bm, 0, none⟩)) ∧ Wk w bm bw N cap' ⟨ws, h, 0, 0⟩ false w' ∧ w.heap.size ≤ bm ∧ w.heap.size ≤ bw := by
  obtain ⟨g1, g2, g3, g4, g5, g6, g7, g8, g9⟩ := h
  unfold heapV
  dsimp only at *
  have HW := hid hw
  have HT : Hid (touchZ ⟨ws, ⟨g1, g2, g3, g4, g5, g6, g7, g8, g9⟩, 0, 0⟩ = g9) := by
    show _ = _
    unfold touchZ wrap64
    dsimp only
    omega
  clear hw ht0 ht1
  obtain ⟨i0, hi, hz0, hz1, hz2⟩ := info_parts info_int
  obtain ⟨eA, eB, eS⟩ := heap_alloc2 w (.cells #[.slice (some ⟨b, off, none⟩) N cap, .int .i64 g1, .int .i64 g2, .int .i64 g3, .int .i64 g4, .int .i64 g5, .int .i64 g6, .int .i64 g7, .int .i64 g8, .int .i64 g9] 25) (.cells #[] 3)
  have k2 := ((Below.refl w.heap.size w).alloc (Nat.le_refl _) (.cells #[.slice (some ⟨b, off, none⟩) N cap, .int .i64 g1, .int .i64 g2, .int .i64 g3, .int .i64 g4, .int .i64 g5, .int .i64 g6, .int .i64 g7, .int .i64 g8, .int .i64 g9] 25)).alloc (by simp) (.cells #[] 3)
  have HEA := hid eA
  have HEB := hid eB
  have HES := hid eS
  have HK2 := hid k2
  clear eA eB eS k2
  go_enter Try.func46, Try.ntmps46
  go_wp2_with (first
    | (at_builtin; refine wpList_append_own _ rfl _ _ 23 rfl w.heap.size 3 i0 (.int .i64 0) 1 8 Try.underlying23 hi hz0 hz1 hz2 rfl (by decide) (.slice (some ⟨w.heap.size + 1, 0, none⟩) 0 0) 0 [] rfl ⟨rfl, Or.inr ⟨w.heap.size + 1, 0, #[], rfl, by omega, HEB.out, by omega, by decide, rfl, rfl⟩⟩ ⟨b, off, none⟩ N cap (ws.map (fun x => Value.int .i64 x)) rfl (by simp [hl]) (fun j u hu => ?_) (fun u hu => ?_) (by unfold maxLen; omega) (by omega) (by rw [HES.out]; omega) ?_))
  · rw [List.getElem?_map] at hu
    obtain ⟨x, hx, rfl⟩ := Option.map_eq_some_iff.1 hu
    have hj : j < N := by have := (List.getElem?_eq_some_iff.1 hx).1; omega
    have e := (HK2.out.cell (p := ⟨b, off + j, none⟩) hb).trans (HW.out j hj)
    rw [show ws.getD j 0 = x by simp [List.getD, hx]] at e
    have ea : (⟨b, off, none⟩ : Addr).add j = ⟨b, off + j, none⟩ := by
      unfold Addr.add
      split
      · simp_all
      · rfl
    rw [ea]
    exact e
  · simp only [List.mem_map] at hu
    obtain ⟨x, _, rfl⟩ := hu
    rfl
  · intro v' w3 hown hgrow hnil
    obtain ⟨-, hh | ⟨g, cp, cur, rfl, hg, hcur, hcp, hcm, hcs, htk⟩⟩ := id hown
    · exact absurd hh.1 hnil
    obtain ⟨hrow, hlow⟩ := row_of_owns hl hown
    have hH : HeapBlk w3 w.heap.size (.slice (some ⟨b, off, none⟩) N cap) ⟨g1, g2, g3, g4, g5, g6, g7, g8, g9⟩ := (hgrow.block w.heap.size (by rw [HES.out]; omega) (by simp [Value.ownBlock])).trans HEA.out
    have hbw : Below w.heap.size w w3 := Below.grown HK2.out hgrow (by rw [HES.out]; omega) (fun j hj => by simp [Value.ownBlock] at hj; omega)
    have hne : g ≠ w.heap.size := by
      rintro rfl
      have e := hH
      unfold HeapBlk at e
      rw [hcur] at e
      simp at e
    obtain ⟨c0, c1, c2, c3, c4, c5, c6, c7, c8, c9⟩ := hH.cells
    dsimp only at c0 c1 c2 c3 c4 c5 c6 c7 c8 c9
    have f0 := frozen_of_heap hH 0
    have HB := hid hbw
    have HR := hid hrow
    have HH := hid hH
    have hsz := hbw.size
    clear hown hgrow hnil hcur hcp hcm hcs htk hbw hrow hH HK2 HEA HEB HES HW
    go_wp2_with fail
    go_ret
    have hs : (w3.setCell ⟨w.heap.size, 0, none⟩ (.slice (some ⟨g, 0, none⟩) N cp)).heap.size = w3.heap.size := by simp [World.setCell]
    have hgl := HR.out.lt
    refine ⟨w3.heap.size, g, cp, rfl, ⟨?_, ?_, hl, by omega, Frm.of_below ((HB.out.setCell (Nat.le_refl _) _).alloc (by rw [hs]; exact hsz) _)⟩, hsz, hlow⟩
    · have e := (MapKept.heap_alloc (w3.setCell ⟨w.heap.size, 0, none⟩ (.slice (some ⟨g, 0, none⟩) N cp)) (.cells #[.slice (some ⟨g, 0, none⟩) N cp, .int .i64 g1, .int .i64 g2, .int .i64 g3, .int .i64 g4, .int .i64 g5, .int .i64 g6, .int .i64 g7, .int .i64 g8, .int .i64 g9, .bool false] 82)).1
      rw [hs] at e
      unfold WkBlk
      rw [HT.out]
      exact e
    · refine HR.out.of_block ?_
      have e1 := ((Below.refl (w3.setCell ⟨w.heap.size, 0, none⟩ (.slice (some ⟨g, 0, none⟩) N cp)).heap.size _).alloc (Nat.le_refl _) (.cells #[.slice (some ⟨g, 0, none⟩) N cp, .int .i64 g1, .int .i64 g2, .int .i64 g3, .int .i64 g4, .int .i64 g5, .int .i64 g6, .int .i64 g7, .int .i64 g8, .int .i64 g9, .bool false] 82)).block g (by rw [hs]; exact hgl)
      exact e1.trans (Below.heap_setCell _ _ _ _ hne)
end Go.Proofs.Ytebpgglegnljgaa
