/- The heap that a collector tells. -/
import Derived.Test.YtebpgglegnljgaaImplHeapQ
namespace Go.Proofs.Ytebpgglegnljgaa
open Go.RowKit

theorem set10T (a0 a1 a2 a3 a4 a5 a6 a7 a8 a9 x0 x1 x2 x3 x4 x5 x6 x7 x8 x9 : Value) : ((((((((((#[a0, a1, a2, a3, a4, a5, a6, a7, a8, a9].setIfInBounds 0 x0).setIfInBounds 1 x1).setIfInBounds 2 x2).setIfInBounds 3 x3).setIfInBounds 4 x4).setIfInBounds 5 x5).setIfInBounds 6 x6).setIfInBounds 7 x7).setIfInBounds 8 x8).setIfInBounds 9 x9) = #[x0, x1, x2, x3, x4, x5, x6, x7, x8, x9] := by
  simp

/-- A heap is stored into a block of its kind. -/
theorem heap_useT {W : World} {b : Nat} {v : Value} {h : HpN} (e : HeapBlk W b v h) (v' : Value) (h' : HpN) (Q : World → Prop)
    (k : ∀ W' : World, HeapBlk W' b v' h' → (∀ B, B ≤ b → Below B W W') → (∀ g, g ≠ b → W'.heap[g]? = W.heap[g]?) → Q W') : Q ((((((((((W.setCell ⟨b, 0, none⟩ v').setCell ⟨b, 1, none⟩ (.int .i64 h'.size)).setCell ⟨b, 2, none⟩ (.int .i64 h'.to)).setCell ⟨b, 3, none⟩ (.int .i64 h'.bottom)).setCell ⟨b, 4, none⟩ (.int .i64 h'.top)).setCell ⟨b, 5, none⟩ (.int .i64 h'.scan)).setCell ⟨b, 6, none⟩ (.int .i64 h'.fb)).setCell ⟨b, 7, none⟩ (.int .i64 h'.ft)).setCell ⟨b, 8, none⟩ (.int .i64 h'.flips)).setCell ⟨b, 9, none⟩ (.int .i64 h'.touched)) := by
  refine k _ ?_ (fun B hB => ?_) (fun g hg => ?_)
  · have e1 := set_block (set_block (set_block (set_block (set_block (set_block (set_block (set_block (set_block (set_block e 0 v') 1 (.int .i64 h'.size)) 2 (.int .i64 h'.to)) 3 (.int .i64 h'.bottom)) 4 (.int .i64 h'.top)) 5 (.int .i64 h'.scan)) 6 (.int .i64 h'.fb)) 7 (.int .i64 h'.ft)) 8 (.int .i64 h'.flips)) 9 (.int .i64 h'.touched)
    rw [set10T] at e1
    exact e1
  · exact ((((((((((Below.refl B W).setCell hB _).setCell hB _).setCell hB _).setCell hB _).setCell hB _).setCell hB _).setCell hB _).setCell hB _).setCell hB _).setCell hB _
  · have hh : ∀ (X : World) (i : Nat) (x : Value), (X.setCell ⟨b, i, none⟩ x).heap[g]? = X.heap[g]? := fun X i x => Below.heap_setCell X ⟨b, i, none⟩ x g hg
    simp only [hh]

set_option maxHeartbeats 1000000 in
set_option maxRecDepth 100000 in
theorem told_calls {w0 W : World} {bc bw N cap : Nat} {ws : List Int} {h : HpN} {r t : Int} (c : Col w0 bc bw N cap ws h r t W) :
    Calls Try.prog 45 #[.pointer (some ⟨bc, 0, none⟩)] W fun e w' => e = .returned (heapV (.slice (some ⟨bw, 0, none⟩) N cap) { h with touched := wrap64 (wrap64 (h.touched + r) + t) }) ∧ Below W.heap.size W w' := by
  obtain ⟨c0, c1, c2, c3, c4, c5, c6, c7, c8, c9, c10, c11⟩ := c.blk.cells
  have hbc := heap_lt c.blk
  clear c
  obtain ⟨g1, g2, g3, g4, g5, g6, g7, g8, g9⟩ := h
  dsimp only at c0 c1 c2 c3 c4 c5 c6 c7 c8 c9 c10 c11
  unfold heapV
  dsimp only
  go_enter Try.func45, Try.ntmps45
  go_wp2_with fail
  go_loopw [14] (fun i wr => ∃ T : Int, (i = .int .i64 0 ∧ T = g9 ∨ i = .int .i64 1 ∧ T = wrap64 (g9 + r) ∨ i = .int .i64 2 ∧ T = wrap64 (wrap64 (g9 + r) + t)) ∧ Hid (Below W.heap.size W wr) ∧ HeapBlk wr W.heap.size (.slice none 0 0) ⟨0, 0, 0, 0, 0, 0, 0, 0, 0⟩ ∧ HeapBlk wr (W.heap.size + 1) (.slice (some ⟨bw, 0, none⟩) N cap) ⟨g1, g2, g3, g4, g5, g6, g7, g8, T⟩) (fun i _ => 2 - (intOf i).toNat)
  case atStart =>
    obtain ⟨eA, eB, hbw⟩ := two_kept (Below.refl ((W.alloc (.cells #[.slice none 0 0, .int .i64 0, .int .i64 0, .int .i64 0, .int .i64 0, .int .i64 0, .int .i64 0, .int .i64 0, .int .i64 0, .int .i64 0] 25)).alloc (.cells #[.slice (some ⟨bw, 0, none⟩) N cap, .int .i64 g1, .int .i64 g2, .int .i64 g3, .int .i64 g4, .int .i64 g5, .int .i64 g6, .int .i64 g7, .int .i64 g8, .int .i64 g9] 25)).heap.size _)
    exact ⟨g9, Or.inl ⟨rfl, rfl⟩, hbw, eA, eB⟩
  case round =>
    obtain ⟨T, hT, HBw, hR, hH⟩ := hrel
    have HR := hid hR
    have HH := hid hH
    obtain ⟨d0, d1, d2, d3, d4, d5, d6, d7, d8, d9⟩ := hH.cells
    dsimp only at d0 d1 d2 d3 d4 d5 d6 d7 d8 d9
    have f9 := frozen_of_heap hH 9
    have HS : ∀ X : Int, Hid (HeapBlk (wr.setCell ⟨W.heap.size + 1, 9, none⟩ (.int .i64 X)) (W.heap.size + 1) (.slice (some ⟨bw, 0, none⟩) N cap) ⟨g1, g2, g3, g4, g5, g6, g7, g8, X⟩) := fun X => by
      have e := set_block hH 9 (.int .i64 X)
      have e2 : HeapBlk (wr.setCell ⟨W.heap.size + 1, 9, none⟩ (.int .i64 X)) (W.heap.size + 1) (.slice (some ⟨bw, 0, none⟩) N cap) ⟨g1, g2, g3, g4, g5, g6, g7, g8, X⟩ := by simpa [HeapBlk] using e
      exact e2
    have HS' : ∀ X : Int, Hid (HeapBlk (wr.setCell ⟨W.heap.size + 1, 9, none⟩ (.int .i64 X)) W.heap.size (.slice none 0 0) ⟨0, 0, 0, 0, 0, 0, 0, 0, 0⟩) := fun X => (Below.heap_setCell _ _ _ _ (by dsimp only; omega)).trans hR
    clear hR hH c0 c1 c2 c3 c4 c5 c6 c7 c8 c9 c10 c11
    rcases hT with ⟨rfl, rfl⟩ | ⟨rfl, rfl⟩ | ⟨rfl, rfl⟩
    · have E : Sem.run Try.prog (Instr.index 100 (.agg #[.int .i64 r, .int .i64 t]) (.int .i64 0)) wr = .ok (.int .i64 r) wr := by kernel_rfl
      go_wp2_with fail
      exact ⟨⟨wrap64 (T + r), Or.inr (Or.inl ⟨rfl, rfl⟩), HBw.out.setCell (p := ⟨W.heap.size + 1, 9, none⟩) (Nat.le_succ _) _, (HS' _).out, (HS _).out⟩, by decide⟩
    · generalize wrap64 (g9 + r) = T at *
      have E : Sem.run Try.prog (Instr.index 100 (.agg #[.int .i64 r, .int .i64 t]) (.int .i64 1)) wr = .ok (.int .i64 t) wr := by kernel_rfl
      go_wp2_with fail
      exact ⟨⟨wrap64 (T + t), Or.inr (Or.inr ⟨rfl, rfl⟩), HBw.out.setCell (p := ⟨W.heap.size + 1, 9, none⟩) (Nat.le_succ _) _, (HS' _).out, (HS _).out⟩, by decide⟩
    · generalize hT2 : wrap64 (wrap64 (g9 + r) + t) = T at *
      clear HS HS'
      obtain ⟨e0, e1, e2, e3, e4, e5, e6, e7, e8, e9⟩ := HR.out.cells
      dsimp only at e0 e1 e2 e3 e4 e5 e6 e7 e8 e9
      have z0 := frozen_of_heap HR.out 0
      have z1 := frozen_of_heap HR.out 1
      have z2 := frozen_of_heap HR.out 2
      have z3 := frozen_of_heap HR.out 3
      have z4 := frozen_of_heap HR.out 4
      have z5 := frozen_of_heap HR.out 5
      have z6 := frozen_of_heap HR.out 6
      have z7 := frozen_of_heap HR.out 7
      have z8 := frozen_of_heap HR.out 8
      have z9 := frozen_of_heap HR.out 9
      go_wp2_with fail
      refine heap_useT HR.out (.slice (some ⟨bw, 0, none⟩) N cap) ⟨g1, g2, g3, g4, g5, g6, g7, g8, T⟩ _ ?_
      intro W2 hL hb2 _
      obtain ⟨y0, y1, y2, y3, y4, y5, y6, y7, y8, y9⟩ := hL.cells
      dsimp only at y0 y1 y2 y3 y4 y5 y6 y7 y8 y9
      exact bodyPost_ret (v := .agg #[.slice (some ⟨bw, 0, none⟩) N cap, .int .i64 g1, .int .i64 g2, .int .i64 g3, .int .i64 g4, .int .i64 g5, .int .i64 g6, .int .i64 g7, .int .i64 g8, .int .i64 T]) (by simp [results, Try.results45, go_sem, y0, y1, y2, y3, y4, y5, y6, y7, y8, y9]) rfl ⟨by rw [hT2], HBw.out.trans (hb2 _ (Nat.le_refl _))⟩
end Go.Proofs.Ytebpgglegnljgaa
