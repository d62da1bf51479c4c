/- The program's HeapFlip. -/
import Derived.Test.YtnoobonlmfgfhaaImplFlipRFlip
import Derived.Test.YtnoobonlmfgfhaaImplRootsRFlip
import Derived.Test.YtnoobonlmfgfhaaSpecWkFRFlip
import Derived.Deep.Cut
namespace Go.Proofs.Ytnoobonlmfgfhaa
open Go.RowKit

/-- What changing the spaces of a heap comes to. -/
def FlipTold (N n : Nat) (w : World) (o : Option (List Int × CN)) (e : Ending) (w' : World) : Prop :=
  match o with
  | some (ys, s) => ∃ bw cap' g c : Nat, e = .returned (.tuple #[heapV (.slice (some ⟨bw, 0, none⟩) N cap') { s.h with touched := touchZ s }, .slice (some ⟨g, 0, none⟩) n c, .bool true]) ∧ CellRow 3 w' bw N (intCells s.ws) ∧ CellRow 3 w' g n (intCells ys) ∧ g ≠ bw ∧ w.heap.size ≤ bw ∧ w.heap.size ≤ g ∧ Below w.heap.size w w'
  | none => e = .returned (.tuple #[noHeap, .slice none 0 0, .bool false]) ∧ Below w.heap.size w w'

set_option maxHeartbeats 2000000 in
set_option maxRecDepth 100000 in
theorem iFlip_notOk (b off cap N : Nat) (h : HpN) (rg n rc : Nat) (w : World)
    (HLy : Hid (∀ X, Below w.heap.size w X → Calls Try.prog 40 #[heapV (.slice (some ⟨b, off, none⟩) N cap) h] X fun e w' => e = .returned (.tuple #[noLay, .bool false]) ∧ Below X.heap.size X w')) :
    Calls Try.prog 27 #[heapV (.slice (some ⟨b, off, none⟩) N cap) h, .slice (some ⟨rg, 0, none⟩) n rc] w fun e w' => e = .returned (.tuple #[noHeap, .slice none 0 0, .bool false]) ∧ Below w.heap.size w w' := by
  obtain ⟨g1, g2, g3, g4, g5, g6, g7, g8, g9⟩ := h
  unfold heapV at *
  dsimp only at *
  obtain ⟨W0, hW0, hA, hR, k2⟩ := both_new w (.slice (some ⟨b, off, none⟩) N cap) ⟨g1, g2, g3, g4, g5, g6, g7, g8, g9⟩
  dsimp only at hW0
  have HW0 := hid hW0
  have HA := hid hA
  have HR := hid hR
  have HK2 := hid k2
  clear hW0 hA hR k2
  go_enter Try.func27, Try.ntmps27
  go_wp2_with fail
  rw [HW0.out]
  refine (HLy.out _ HK2.out).mono ?_
  rintro e W1 ⟨rfl, hb1⟩
  unfold noLay layV
  dsimp only
  have k1 := HK2.out.trans (hb1.mono HK2.out.size)
  have HB6 := hid (k1.alloc k1.size (.cells #[.slice none 0 0, .int .i64 0, .int .i64 0, .int .i64 0, .int .i64 0, .int .i64 0, .int .i64 0, .int .i64 0, .int .i64 0, .int .i64 0, .slice none 0 0] 59))
  have hR1 := HR.out.below hb1
  have HR6 := hid (hR1.below ((Below.refl _ W1).alloc (Nat.le_refl _) (.cells #[.slice none 0 0, .int .i64 0, .int .i64 0, .int .i64 0, .int .i64 0, .int .i64 0, .int .i64 0, .int .i64 0, .int .i64 0, .int .i64 0, .slice none 0 0] 59)))
  have hltR := heap_lt hR1
  clear k1 hb1 HW0 HA HR HK2 HLy
  clear hR1
  go_upto_if 29 with fail
  generalize W1.alloc (.cells #[.slice none 0 0, .int .i64 0, .int .i64 0, .int .i64 0, .int .i64 0, .int .i64 0, .int .i64 0, .int .i64 0, .int .i64 0, .int .i64 0, .slice none 0 0] 59) = W2 at *
  obtain ⟨c0, c1, c2, c3, c4, c5, c6, c7, c8, c9⟩ := HR6.out.cells
  dsimp only at c0 c1 c2 c3 c4 c5 c6 c7 c8 c9
  have z0 := frozen_of_heap HR6.out 0
  have z1 := frozen_of_heap HR6.out 1
  have z2 := frozen_of_heap HR6.out 2
  have z3 := frozen_of_heap HR6.out 3
  have z4 := frozen_of_heap HR6.out 4
  have z5 := frozen_of_heap HR6.out 5
  have z6 := frozen_of_heap HR6.out 6
  have z7 := frozen_of_heap HR6.out 7
  have z8 := frozen_of_heap HR6.out 8
  have z9 := frozen_of_heap HR6.out 9
  go_wp2_with fail
  refine heap_use HR6.out (.slice none 0 0) ⟨0, 0, 0, 0, 0, 0, 0, 0, 0⟩ _ ?_
  intro W7 hL hb7 _ _
  obtain ⟨y0, y1, y2, y3, y4, y5, y6, y7, y8, y9⟩ := hL.cells
  dsimp only at y0 y1 y2 y3 y4 y5 y6 y7 y8 y9
  exact bodyPost_ret (v := .tuple #[noHeap, .slice none 0 0, .bool false]) (by simp [results, Try.results27, go_sem, y0, y1, y2, y3, y4, y5, y6, y7, y8, y9, noHeap, heapV]) rfl ⟨rfl, HB6.out.trans (hb7 _ (Nat.le_succ _))⟩

set_option maxHeartbeats 2000000 in
set_option maxRecDepth 100000 in
theorem iFlip_scan (b off cap N : Nat) (h : HpN) (rg n rc : Nat) (w : World)
    (ws S : List Int) (hne : (h.scan != h.bottom) = true) (hne2 : ¬ h.scan = h.bottom)
    (HLy : Hid (∀ X, Below w.heap.size w X → Calls Try.prog 40 #[heapV (.slice (some ⟨b, off, none⟩) N cap) h] X fun e w' => ∃ gb, e = .returned (.tuple #[layV (.slice (some ⟨b, off, none⟩) N cap) h (.slice (some ⟨gb, 0, none⟩) N N), .bool true]) ∧ Hid (ISt b off gb N ws S w') ∧ Below X.heap.size X w')) :
    Calls Try.prog 27 #[heapV (.slice (some ⟨b, off, none⟩) N cap) h, .slice (some ⟨rg, 0, none⟩) n rc] w fun e w' => e = .returned (.tuple #[noHeap, .slice none 0 0, .bool false]) ∧ Below w.heap.size w w' := by
  obtain ⟨g1, g2, g3, g4, g5, g6, g7, g8, g9⟩ := h
  unfold heapV at *
  dsimp only at *
  obtain ⟨W0, hW0, hA, hR, k2⟩ := both_new w (.slice (some ⟨b, off, none⟩) N cap) ⟨g1, g2, g3, g4, g5, g6, g7, g8, g9⟩
  dsimp only at hW0
  have HW0 := hid hW0
  have HA := hid hA
  have HR := hid hR
  have HK2 := hid k2
  clear hW0 hA hR k2
  go_enter Try.func27, Try.ntmps27
  go_wp2_with fail
  rw [HW0.out]
  refine (HLy.out _ HK2.out).mono ?_
  rintro e W1 ⟨gb, rfl, HI, hb1⟩
  unfold layV at *
  dsimp only at *
  have k1 := HK2.out.trans (hb1.mono HK2.out.size)
  have HB2 := hid (k1.alloc k1.size (.cells #[.slice (some ⟨b, off, none⟩) N cap, .int .i64 g1, .int .i64 g2, .int .i64 g3, .int .i64 g4, .int .i64 g5, .int .i64 g6, .int .i64 g7, .int .i64 g8, .int .i64 g9, .slice (some ⟨gb, 0, none⟩) N N] 59))
  have HR2 := hid ((HR.out.below hb1).below ((Below.refl _ W1).alloc (Nat.le_refl _) (.cells #[.slice (some ⟨b, off, none⟩) N cap, .int .i64 g1, .int .i64 g2, .int .i64 g3, .int .i64 g4, .int .i64 g5, .int .i64 g6, .int .i64 g7, .int .i64 g8, .int .i64 g9, .slice (some ⟨gb, 0, none⟩) N N] 59)))
  have hA1 := HA.out.below hb1
  have HA2 := hid (hA1.below ((Below.refl _ W1).alloc (Nat.le_refl _) (.cells #[.slice (some ⟨b, off, none⟩) N cap, .int .i64 g1, .int .i64 g2, .int .i64 g3, .int .i64 g4, .int .i64 g5, .int .i64 g6, .int .i64 g7, .int .i64 g8, .int .i64 g9, .slice (some ⟨gb, 0, none⟩) N N] 59)))
  have HI2 := hid (HI.out.kept ((Below.refl _ W1).alloc (Nat.le_refl _) (.cells #[.slice (some ⟨b, off, none⟩) N cap, .int .i64 g1, .int .i64 g2, .int .i64 g3, .int .i64 g4, .int .i64 g5, .int .i64 g6, .int .i64 g7, .int .i64 g8, .int .i64 g9, .slice (some ⟨gb, 0, none⟩) N N] 59)))
  have a3 := hA1.cells.2.2.2.1
  have a5 := hA1.cells.2.2.2.2.2.1
  have hltA := heap_lt hA1
  dsimp only at a3 a5
  clear k1 hb1 HW0 HA HR HK2 HLy HI hA1
  have HR6 := HR2
  have HB6 := HB2
  clear HR2 HB2 HA2 HI2
  go_upto_if 29 with fail
  generalize W1.alloc (.cells #[.slice (some ⟨b, off, none⟩) N cap, .int .i64 g1, .int .i64 g2, .int .i64 g3, .int .i64 g4, .int .i64 g5, .int .i64 g6, .int .i64 g7, .int .i64 g8, .int .i64 g9, .slice (some ⟨gb, 0, none⟩) N N] 59) = W2 at *
  obtain ⟨c0, c1, c2, c3, c4, c5, c6, c7, c8, c9⟩ := HR6.out.cells
  dsimp only at c0 c1 c2 c3 c4 c5 c6 c7 c8 c9
  have z0 := frozen_of_heap HR6.out 0
  have z1 := frozen_of_heap HR6.out 1
  have z2 := frozen_of_heap HR6.out 2
  have z3 := frozen_of_heap HR6.out 3
  have z4 := frozen_of_heap HR6.out 4
  have z5 := frozen_of_heap HR6.out 5
  have z6 := frozen_of_heap HR6.out 6
  have z7 := frozen_of_heap HR6.out 7
  have z8 := frozen_of_heap HR6.out 8
  have z9 := frozen_of_heap HR6.out 9
  go_wp2_with fail
  refine heap_use HR6.out (.slice none 0 0) ⟨0, 0, 0, 0, 0, 0, 0, 0, 0⟩ _ ?_
  intro W7 hL hb7 _ _
  obtain ⟨y0, y1, y2, y3, y4, y5, y6, y7, y8, y9⟩ := hL.cells
  dsimp only at y0 y1 y2 y3 y4 y5 y6 y7 y8 y9
  exact bodyPost_ret (v := .tuple #[noHeap, .slice none 0 0, .bool false]) (by simp [results, Try.results27, go_sem, y0, y1, y2, y3, y4, y5, y6, y7, y8, y9, noHeap, heapV]) rfl ⟨rfl, HB6.out.trans (hb7 _ (Nat.le_succ _))⟩

set_option maxHeartbeats 2000000 in
set_option maxRecDepth 100000 in
theorem iFlip_noRoot (b off cap N : Nat) (h : HpN) (rg n rc : Nat) (w : World)
    (ws S : List Int) (heq : (h.scan != h.bottom) = false)
    (HLy : Hid (∀ X, Below w.heap.size w X → Calls Try.prog 40 #[heapV (.slice (some ⟨b, off, none⟩) N cap) h] X fun e w' => ∃ gb, e = .returned (.tuple #[layV (.slice (some ⟨b, off, none⟩) N cap) h (.slice (some ⟨gb, 0, none⟩) N N), .bool true]) ∧ Hid (ISt b off gb N ws S w') ∧ Below X.heap.size X w'))
    (HRt : Hid (∀ (X : World) (gb : Nat), Below w.heap.size w X → ISt b off gb N ws S X → Calls Try.prog 46 #[layV (.slice (some ⟨b, off, none⟩) N cap) h (.slice (some ⟨gb, 0, none⟩) N N), .slice (some ⟨rg, 0, none⟩) n rc] X fun e w' => e = .returned (.bool false) ∧ Below X.heap.size X w')) :
    Calls Try.prog 27 #[heapV (.slice (some ⟨b, off, none⟩) N cap) h, .slice (some ⟨rg, 0, none⟩) n rc] w fun e w' => e = .returned (.tuple #[noHeap, .slice none 0 0, .bool false]) ∧ Below w.heap.size w w' := by
  obtain ⟨g1, g2, g3, g4, g5, g6, g7, g8, g9⟩ := h
  unfold heapV at *
  dsimp only at *
  obtain ⟨W0, hW0, hA, hR, k2⟩ := both_new w (.slice (some ⟨b, off, none⟩) N cap) ⟨g1, g2, g3, g4, g5, g6, g7, g8, g9⟩
  dsimp only at hW0
  have HW0 := hid hW0
  have HA := hid hA
  have HR := hid hR
  have HK2 := hid k2
  clear hW0 hA hR k2
  go_enter Try.func27, Try.ntmps27
  go_wp2_with fail
  rw [HW0.out]
  refine (HLy.out _ HK2.out).mono ?_
  rintro e W1 ⟨gb, rfl, HI, hb1⟩
  unfold layV at *
  dsimp only at *
  have k1 := HK2.out.trans (hb1.mono HK2.out.size)
  have HB2 := hid (k1.alloc k1.size (.cells #[.slice (some ⟨b, off, none⟩) N cap, .int .i64 g1, .int .i64 g2, .int .i64 g3, .int .i64 g4, .int .i64 g5, .int .i64 g6, .int .i64 g7, .int .i64 g8, .int .i64 g9, .slice (some ⟨gb, 0, none⟩) N N] 59))
  have HR2 := hid ((HR.out.below hb1).below ((Below.refl _ W1).alloc (Nat.le_refl _) (.cells #[.slice (some ⟨b, off, none⟩) N cap, .int .i64 g1, .int .i64 g2, .int .i64 g3, .int .i64 g4, .int .i64 g5, .int .i64 g6, .int .i64 g7, .int .i64 g8, .int .i64 g9, .slice (some ⟨gb, 0, none⟩) N N] 59)))
  have hA1 := HA.out.below hb1
  have HA2 := hid (hA1.below ((Below.refl _ W1).alloc (Nat.le_refl _) (.cells #[.slice (some ⟨b, off, none⟩) N cap, .int .i64 g1, .int .i64 g2, .int .i64 g3, .int .i64 g4, .int .i64 g5, .int .i64 g6, .int .i64 g7, .int .i64 g8, .int .i64 g9, .slice (some ⟨gb, 0, none⟩) N N] 59)))
  have HI2 := hid (HI.out.kept ((Below.refl _ W1).alloc (Nat.le_refl _) (.cells #[.slice (some ⟨b, off, none⟩) N cap, .int .i64 g1, .int .i64 g2, .int .i64 g3, .int .i64 g4, .int .i64 g5, .int .i64 g6, .int .i64 g7, .int .i64 g8, .int .i64 g9, .slice (some ⟨gb, 0, none⟩) N N] 59)))
  have a3 := hA1.cells.2.2.2.1
  have a5 := hA1.cells.2.2.2.2.2.1
  have hltA := heap_lt hA1
  dsimp only at a3 a5
  clear k1 hb1 HW0 HA HR HK2 HLy HI hA1
  go_wp2_with fail
  generalize W1.alloc (.cells #[.slice (some ⟨b, off, none⟩) N cap, .int .i64 g1, .int .i64 g2, .int .i64 g3, .int .i64 g4, .int .i64 g5, .int .i64 g6, .int .i64 g7, .int .i64 g8, .int .i64 g9, .slice (some ⟨gb, 0, none⟩) N N] 59) = W2 at *
  refine (HRt.out _ _ HB2.out HI2.out).mono ?_
  rintro e W6 ⟨rfl, hb6⟩
  have HB6 := hid (HB2.out.trans (hb6.mono HB2.out.size))
  have HR6 := hid (HR2.out.below hb6)
  have HA6 := hid (HA2.out.below hb6)
  clear a3 a5 hltA hb6 HB2 HR2 HA2 HI2
  obtain ⟨c0, c1, c2, c3, c4, c5, c6, c7, c8, c9⟩ := HR6.out.cells
  dsimp only at c0 c1 c2 c3 c4 c5 c6 c7 c8 c9
  have z0 := frozen_of_heap HR6.out 0
  have z1 := frozen_of_heap HR6.out 1
  have z2 := frozen_of_heap HR6.out 2
  have z3 := frozen_of_heap HR6.out 3
  have z4 := frozen_of_heap HR6.out 4
  have z5 := frozen_of_heap HR6.out 5
  have z6 := frozen_of_heap HR6.out 6
  have z7 := frozen_of_heap HR6.out 7
  have z8 := frozen_of_heap HR6.out 8
  have z9 := frozen_of_heap HR6.out 9
  go_wp2_with fail
  refine heap_use HR6.out (.slice none 0 0) ⟨0, 0, 0, 0, 0, 0, 0, 0, 0⟩ _ ?_
  intro W7 hL hb7 _ _
  obtain ⟨y0, y1, y2, y3, y4, y5, y6, y7, y8, y9⟩ := hL.cells
  dsimp only at y0 y1 y2 y3 y4 y5 y6 y7 y8 y9
  exact bodyPost_ret (v := .tuple #[noHeap, .slice none 0 0, .bool false]) (by simp [results, Try.results27, go_sem, y0, y1, y2, y3, y4, y5, y6, y7, y8, y9, noHeap, heapV]) rfl ⟨rfl, HB6.out.trans (hb7 _ (Nat.le_succ _))⟩

set_option maxHeartbeats 2000000 in
set_option maxRecDepth 100000 in
theorem iFlip_good (b off cap N : Nat) (h : HpN) (rg n rc : Nat) (w : World)
    (ws S xs : List Int) (heq : (h.scan != h.bottom) = false) (s0 : CN) (o : Option (List Int × CN))
    (HLy : Hid (∀ X, Below w.heap.size w X → Calls Try.prog 40 #[heapV (.slice (some ⟨b, off, none⟩) N cap) h] X fun e w' => ∃ gb, e = .returned (.tuple #[layV (.slice (some ⟨b, off, none⟩) N cap) h (.slice (some ⟨gb, 0, none⟩) N N), .bool true]) ∧ Hid (ISt b off gb N ws S w') ∧ Below X.heap.size X w'))
    (HRt : Hid (∀ (X : World) (gb : Nat), Below w.heap.size w X → ISt b off gb N ws S X → Calls Try.prog 46 #[layV (.slice (some ⟨b, off, none⟩) N cap) h (.slice (some ⟨gb, 0, none⟩) N N), .slice (some ⟨rg, 0, none⟩) n rc] X fun e w' => e = .returned (.bool true) ∧ Below X.heap.size X w'))
    (HOp : Hid (∀ X, Below w.heap.size w X → Calls Try.prog 48 #[heapV (.slice (some ⟨b, off, none⟩) N cap) h] X fun e w' => ∃ bc bw cap' : Nat, e = .returned (.pointer (some ⟨bc, 0, none⟩)) ∧ ColAt X bc bw N cap' s0 w' ∧ X.heap.size ≤ bc ∧ X.heap.size ≤ bw))
    (HCl : Hid (∀ X, Below w.heap.size w X → Calls Try.prog 49 #[.slice (some ⟨rg, 0, none⟩) n rc] X fun e w' => ∃ g c, e = .returned (.slice (some ⟨g, 0, none⟩) n c) ∧ Hid (CellRow 3 w' g n (intCells xs)) ∧ X.heap.size ≤ g ∧ Below X.heap.size X w'))
    (HCh : Hid (∀ (X w0 : World) (bc bw cap' g c : Nat), ColAt w0 bc bw N cap' s0 X → g ≠ bc → g ≠ bw → CellRow 3 X g n (intCells xs) → Calls Try.prog 59 #[.pointer (some ⟨bc, 0, none⟩), .slice (some ⟨g, 0, none⟩) n c] X (MovesPost X bc bw N cap' g n o)))
    (HTd : Hid (∀ (ys : List Int) (s1 : CN) (X w0 : World) (bc bw cap' : Nat), o = some (ys, s1) → ColAt w0 bc bw N cap' s1 X → Calls Try.prog 51 #[.pointer (some ⟨bc, 0, none⟩)] X fun e w' => e = .returned (heapV (.slice (some ⟨bw, 0, none⟩) N cap') { s1.h with touched := touchZ s1 }) ∧ Below X.heap.size X w')) :
    Calls Try.prog 27 #[heapV (.slice (some ⟨b, off, none⟩) N cap) h, .slice (some ⟨rg, 0, none⟩) n rc] w (FlipTold N n w o) := by
  obtain ⟨g1, g2, g3, g4, g5, g6, g7, g8, g9⟩ := h
  unfold heapV at *
  dsimp only at *
  obtain ⟨W0, hW0, hA, hR, k2⟩ := both_new w (.slice (some ⟨b, off, none⟩) N cap) ⟨g1, g2, g3, g4, g5, g6, g7, g8, g9⟩
  dsimp only at hW0
  have HW0 := hid hW0
  have HA := hid hA
  have HR := hid hR
  have HK2 := hid k2
  clear hW0 hA hR k2
  go_enter Try.func27, Try.ntmps27
  go_wp2_with fail
  rw [HW0.out]
  refine (HLy.out _ HK2.out).mono ?_
  rintro e W1 ⟨gb, rfl, HI, hb1⟩
  unfold layV at *
  dsimp only at *
  have k1 := HK2.out.trans (hb1.mono HK2.out.size)
  have HB2 := hid (k1.alloc k1.size (.cells #[.slice (some ⟨b, off, none⟩) N cap, .int .i64 g1, .int .i64 g2, .int .i64 g3, .int .i64 g4, .int .i64 g5, .int .i64 g6, .int .i64 g7, .int .i64 g8, .int .i64 g9, .slice (some ⟨gb, 0, none⟩) N N] 59))
  have HR2 := hid ((HR.out.below hb1).below ((Below.refl _ W1).alloc (Nat.le_refl _) (.cells #[.slice (some ⟨b, off, none⟩) N cap, .int .i64 g1, .int .i64 g2, .int .i64 g3, .int .i64 g4, .int .i64 g5, .int .i64 g6, .int .i64 g7, .int .i64 g8, .int .i64 g9, .slice (some ⟨gb, 0, none⟩) N N] 59)))
  have hA1 := HA.out.below hb1
  have HA2 := hid (hA1.below ((Below.refl _ W1).alloc (Nat.le_refl _) (.cells #[.slice (some ⟨b, off, none⟩) N cap, .int .i64 g1, .int .i64 g2, .int .i64 g3, .int .i64 g4, .int .i64 g5, .int .i64 g6, .int .i64 g7, .int .i64 g8, .int .i64 g9, .slice (some ⟨gb, 0, none⟩) N N] 59)))
  have HI2 := hid (HI.out.kept ((Below.refl _ W1).alloc (Nat.le_refl _) (.cells #[.slice (some ⟨b, off, none⟩) N cap, .int .i64 g1, .int .i64 g2, .int .i64 g3, .int .i64 g4, .int .i64 g5, .int .i64 g6, .int .i64 g7, .int .i64 g8, .int .i64 g9, .slice (some ⟨gb, 0, none⟩) N N] 59)))
  have a3 := hA1.cells.2.2.2.1
  have a5 := hA1.cells.2.2.2.2.2.1
  have hltA := heap_lt hA1
  dsimp only at a3 a5
  clear k1 hb1 HW0 HA HR HK2 HLy HI hA1
  go_wp2_with fail
  generalize W1.alloc (.cells #[.slice (some ⟨b, off, none⟩) N cap, .int .i64 g1, .int .i64 g2, .int .i64 g3, .int .i64 g4, .int .i64 g5, .int .i64 g6, .int .i64 g7, .int .i64 g8, .int .i64 g9, .slice (some ⟨gb, 0, none⟩) N N] 59) = W2 at *
  refine (HRt.out _ _ HB2.out HI2.out).mono ?_
  rintro e W6 ⟨rfl, hb6⟩
  have HB6 := hid (HB2.out.trans (hb6.mono HB2.out.size))
  have HR6 := hid (HR2.out.below hb6)
  have HA6 := hid (HA2.out.below hb6)
  clear a3 a5 hltA hb6 HB2 HR2 HA2 HI2
  obtain ⟨c0, c1, c2, c3, c4, c5, c6, c7, c8, c9⟩ := HA6.out.cells
  dsimp only at c0 c1 c2 c3 c4 c5 c6 c7 c8 c9
  go_wp2_with fail
  refine (HOp.out _ HB6.out).mono ?_
  rintro e W7 ⟨bc, bw, cap', rfl, hW7, hlo, hlo2⟩
  have HW7 := hid hW7
  have hlt6 := heap_lt HR6.out
  have HB7 := hid (HB6.out.trans ((Col.frame hW7).below hlo hlo2 |>.mono HB6.out.size))
  clear hW7 HOp HA6 c0 c1 c2 c3 c4 c5 c6 c7 c8 c9
  go_wp2_with fail
  refine (HCl.out _ HB7.out).mono ?_
  rintro e W8 ⟨g, gc, rfl, HRw, hg, hb8⟩
  have HW8 := hid (Col.keep HW7.out hb8)
  have hgc : g ≠ bc := by have := heap_lt (Col.blk HW7.out); omega
  have hgw : g ≠ bw := by have := CellRow.lt (Col.row HW7.out); omega
  have hg6 : W6.heap.size ≤ g := by have := (Col.frame HW7.out).size; omega
  have HCh' := hid (HCh.out _ _ _ _ _ _ gc HW8.out hgc hgw HRw.out)
  have HF8 := hid (Col.frame HW8.out)
  clear hb8 HCl HCh HW7 HW8 hg
  go_wp2_with fail
  refine HCh'.out.mono ?_
  intro e W9 hP
  have HP := hid hP
  clear hP HCh'
  have KB : Hid (∀ W9, Frm3 W8 bc bw g W9 → Below w.heap.size w W9 ∧ HeapBlk W9 (w.heap.size + 1) (.slice none 0 0) ⟨0, 0, 0, 0, 0, 0, 0, 0, 0⟩) := fun W9 hf => by
    obtain ⟨f1, f2, f3, f4, f5⟩ := hf
    have e1 : Below W6.heap.size W6 W9 := ⟨f1.trans HF8.out.os, f2.trans HF8.out.tape, f3.trans HF8.out.output, Nat.le_trans HF8.out.size f4, fun c hc => (f5 c (Nat.lt_of_lt_of_le hc HF8.out.size) (by omega) (by omega) (by omega)).trans (HF8.out.block c hc (by omega) (by omega))⟩
    exact ⟨HB6.out.trans (e1.mono HB6.out.size), HR6.out.below e1⟩
  cases o with
  | none =>
    obtain ⟨rfl, -, hf⟩ := HP.out
    have HB8 := hid (KB.out _ hf).1
    have HR8 := hid (KB.out _ hf).2
    clear hf HP KB HF8 HR6 HB6 HTd
    obtain ⟨c0, c1, c2, c3, c4, c5, c6, c7, c8, c9⟩ := HR8.out.cells
    dsimp only at c0 c1 c2 c3 c4 c5 c6 c7 c8 c9
    have z0 := frozen_of_heap HR8.out 0
    have z1 := frozen_of_heap HR8.out 1
    have z2 := frozen_of_heap HR8.out 2
    have z3 := frozen_of_heap HR8.out 3
    have z4 := frozen_of_heap HR8.out 4
    have z5 := frozen_of_heap HR8.out 5
    have z6 := frozen_of_heap HR8.out 6
    have z7 := frozen_of_heap HR8.out 7
    have z8 := frozen_of_heap HR8.out 8
    have z9 := frozen_of_heap HR8.out 9
    go_wp2_with fail
    refine heap_use HR8.out (.slice none 0 0) ⟨0, 0, 0, 0, 0, 0, 0, 0, 0⟩ _ ?_
    intro W10 hL hb7 _ _
    obtain ⟨y0, y1, y2, y3, y4, y5, y6, y7, y8, y9⟩ := hL.cells
    dsimp only at y0 y1 y2 y3 y4 y5 y6 y7 y8 y9
    exact bodyPost_ret (v := .tuple #[noHeap, .slice none 0 0, .bool false]) (by simp [results, Try.results27, go_sem, y0, y1, y2, y3, y4, y5, y6, y7, y8, y9, noHeap, heapV]) rfl ⟨rfl, HB8.out.trans (hb7 _ (Nat.le_succ _))⟩
  | some p =>
    obtain ⟨ys, s1⟩ := p
    obtain ⟨rfl, hc9, hr9, hf9⟩ := HP.out
    have HW9 := hid hc9
    have HRy := hid hr9
    have HF9 := hid hf9
    have HTd' := hid (HTd.out ys s1 W9 W9 bc bw cap' rfl HW9.out)
    clear hc9 hr9 hf9 HP HTd
    obtain ⟨i9, hi9⟩ : ∃ i9, touchZ s1 = i9 := ⟨_, rfl⟩
    have HI9 := hid hi9
    rw [hi9] at HTd'
    clear hi9
    go_wp2_with fail
    refine HTd'.out.mono ?_
    rintro e W10 ⟨rfl, hb10⟩
    have HW10 := hid (Col.keep HW9.out hb10)
    have HRy10 := hid (HRy.out.of_block (hb10.block g HRy.out.lt))
    have HB10 := hid ((KB.out _ HF9.out).1.trans (hb10.mono (KB.out _ HF9.out).1.size))
    have HR10 := hid ((KB.out _ HF9.out).2.below hb10)
    obtain ⟨c0, c1, c2, c3, c4, c5, c6, c7, c8, c9⟩ := HR10.out.cells
    dsimp only at c0 c1 c2 c3 c4 c5 c6 c7 c8 c9
    have z0 := frozen_of_heap HR10.out 0
    have z1 := frozen_of_heap HR10.out 1
    have z2 := frozen_of_heap HR10.out 2
    have z3 := frozen_of_heap HR10.out 3
    have z4 := frozen_of_heap HR10.out 4
    have z5 := frozen_of_heap HR10.out 5
    have z6 := frozen_of_heap HR10.out 6
    have z7 := frozen_of_heap HR10.out 7
    have z8 := frozen_of_heap HR10.out 8
    have z9 := frozen_of_heap HR10.out 9
    have hsz6 := HB6.out.size
    clear hb10 HTd' HW9 HRy HF9 KB HF8 HR6 HB6
    go_wp2_with fail
    refine heap_use HR10.out (.slice (some ⟨bw, 0, none⟩) N cap') ⟨s1.h.size, s1.h.to, s1.h.bottom, s1.h.top, s1.h.scan, s1.h.fb, s1.h.ft, s1.h.flips, i9⟩ _ ?_
    intro W11 hL hb11 _ hoth
    obtain ⟨y0, y1, y2, y3, y4, y5, y6, y7, y8, y9⟩ := hL.cells
    dsimp only at y0 y1 y2 y3 y4 y5 y6 y7 y8 y9
    refine bodyPost_ret (v := .tuple #[heapV (.slice (some ⟨bw, 0, none⟩) N cap') ⟨s1.h.size, s1.h.to, s1.h.bottom, s1.h.top, s1.h.scan, s1.h.fb, s1.h.ft, s1.h.flips, i9⟩, .slice (some ⟨g, 0, none⟩) n gc, .bool true]) (by simp [results, Try.results27, go_sem, y0, y1, y2, y3, y4, y5, y6, y7, y8, y9, heapV]) rfl ?_
    exact ⟨bw, cap', g, gc, by rw [HI9.out], HW10.out.row.of_block (hoth _ (by omega)), HRy10.out.of_block (hoth _ (by omega)), hgw, by omega, by omega, HB10.out.trans (hb11 _ (Nat.le_succ _))⟩

end Go.Proofs.Ytnoobonlmfgfhaa
