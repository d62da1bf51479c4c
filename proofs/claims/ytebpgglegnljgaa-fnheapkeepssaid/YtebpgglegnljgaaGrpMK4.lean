/- The program's HeapFlip. -/
import Derived.Test.YtebpgglegnljgaaImplFlip
import Derived.Test.YtebpgglegnljgaaGrpMK1
import Derived.Test.YtebpgglegnljgaaGrpMK3
import Derived.Deep.Cut
import Derived.Test.YtebpgglegnljgaaGrpMK0
import Derived.Test.YtebpgglegnljgaaGrpMK2
import Derived.Test.YtebpgglegnljgaaImplHeapW
import Derived.Test.YtebpgglegnljgaaHeapFacts
import Derived.Test.YtebpgglegnljgaaScanStart
namespace Go.Proofs.Ytebpgglegnljgaa
open Go.RowKit

/-- What changing the spaces of a heap comes to. -/
def FlipTold (N n : Nat) (w : World) (o : Option (List Int × CN)) (e : Ending) (w' : World) : Prop :=
  match o with
  | some (ys, s) => ∃ bw cap' g c : Nat, e = .returned (.tuple #[heapV (.slice (some ⟨bw, 0, none⟩) N cap') { s.h with touched := touchZ s }, .slice (some ⟨g, 0, none⟩) n c, .bool true]) ∧ CellRow 3 w' bw N (intCells s.ws) ∧ CellRow 3 w' g n (intCells ys) ∧ g ≠ bw ∧ w.heap.size ≤ bw ∧ w.heap.size ≤ g ∧ Below w.heap.size w w'
  | none => e = .returned (.tuple #[noHeap, .slice none 0 0, .bool false]) ∧ Below w.heap.size w w'

set_option maxHeartbeats 2000000 in
set_option maxRecDepth 100000 in
theorem iFlip_notOk (b off cap N : Nat) (h : HpN) (rg n rc : Nat) (w : World)
    (HLy : Hid (∀ X, Below w.heap.size w X → Calls Try.prog 30 #[heapV (.slice (some ⟨b, off, none⟩) N cap) h] X fun e w' => e = .returned (.tuple #[noLay, .bool false]) ∧ Below X.heap.size X w')) :
    Calls Try.prog 17 #[heapV (.slice (some ⟨b, off, none⟩) N cap) h, .slice (some ⟨rg, 0, none⟩) n rc] w fun e w' => e = .returned (.tuple #[noHeap, .slice none 0 0, .bool false]) ∧ Below w.heap.size w w' := by
  obtain ⟨g1, g2, g3, g4, g5, g6, g7, g8, g9⟩ := h
  unfold heapV at *
  dsimp only at *
  obtain ⟨W0, hW0, hA, hR, k2⟩ := both_new w (.slice (some ⟨b, off, none⟩) N cap) ⟨g1, g2, g3, g4, g5, g6, g7, g8, g9⟩
  dsimp only at hW0
  have HW0 := hid hW0
  have HA := hid hA
  have HR := hid hR
  have HK2 := hid k2
  clear hW0 hA hR k2
  go_enter Try.func17, Try.ntmps17
  go_wp2_with fail
  rw [HW0.out]
  refine (HLy.out _ HK2.out).mono ?_
  rintro e W1 ⟨rfl, hb1⟩
  unfold noLay layV
  dsimp only
  have k1 := HK2.out.trans (hb1.mono HK2.out.size)
  have HB6 := hid (k1.alloc k1.size (.cells #[.slice none 0 0, .int .i64 0, .int .i64 0, .int .i64 0, .int .i64 0, .int .i64 0, .int .i64 0, .int .i64 0, .int .i64 0, .int .i64 0, .slice none 0 0] 58))
  have hR1 := HR.out.below hb1
  have HR6 := hid (hR1.below ((Below.refl _ W1).alloc (Nat.le_refl _) (.cells #[.slice none 0 0, .int .i64 0, .int .i64 0, .int .i64 0, .int .i64 0, .int .i64 0, .int .i64 0, .int .i64 0, .int .i64 0, .int .i64 0, .slice none 0 0] 58)))
  have hltR := heap_lt hR1
  clear k1 hb1 HW0 HA HR HK2 HLy
  clear hR1
  go_upto_if 29 with fail
  generalize W1.alloc (.cells #[.slice none 0 0, .int .i64 0, .int .i64 0, .int .i64 0, .int .i64 0, .int .i64 0, .int .i64 0, .int .i64 0, .int .i64 0, .int .i64 0, .slice none 0 0] 58) = W2 at *
  obtain ⟨c0, c1, c2, c3, c4, c5, c6, c7, c8, c9⟩ := HR6.out.cells
  dsimp only at c0 c1 c2 c3 c4 c5 c6 c7 c8 c9
  have z0 := frozen_of_heap HR6.out 0
  have z1 := frozen_of_heap HR6.out 1
  have z2 := frozen_of_heap HR6.out 2
  have z3 := frozen_of_heap HR6.out 3
  have z4 := frozen_of_heap HR6.out 4
  have z5 := frozen_of_heap HR6.out 5
  have z6 := frozen_of_heap HR6.out 6
  have z7 := frozen_of_heap HR6.out 7
  have z8 := frozen_of_heap HR6.out 8
  have z9 := frozen_of_heap HR6.out 9
  go_wp2_with fail
  refine heap_use HR6.out (.slice none 0 0) ⟨0, 0, 0, 0, 0, 0, 0, 0, 0⟩ _ ?_
  intro W7 hL hb7 _ _
  obtain ⟨y0, y1, y2, y3, y4, y5, y6, y7, y8, y9⟩ := hL.cells
  dsimp only at y0 y1 y2 y3 y4 y5 y6 y7 y8 y9
  exact bodyPost_ret (v := .tuple #[noHeap, .slice none 0 0, .bool false]) (by simp [results, Try.results17, go_sem, y0, y1, y2, y3, y4, y5, y6, y7, y8, y9, noHeap, heapV]) rfl ⟨rfl, HB6.out.trans (hb7 _ (Nat.le_succ _))⟩

set_option maxHeartbeats 2000000 in
set_option maxRecDepth 100000 in
theorem iFlip_scan (b off cap N : Nat) (h : HpN) (rg n rc : Nat) (w : World)
    (ws S : List Int) (hne : (h.scan != h.bottom) = true) (hne2 : ¬ h.scan = h.bottom)
    (HLy : Hid (∀ X, Below w.heap.size w X → Calls Try.prog 30 #[heapV (.slice (some ⟨b, off, none⟩) N cap) h] X fun e w' => ∃ gb, e = .returned (.tuple #[layV (.slice (some ⟨b, off, none⟩) N cap) h (.slice (some ⟨gb, 0, none⟩) N N), .bool true]) ∧ Hid (ISt b off gb N ws S w') ∧ Below X.heap.size X w')) :
    Calls Try.prog 17 #[heapV (.slice (some ⟨b, off, none⟩) N cap) h, .slice (some ⟨rg, 0, none⟩) n rc] w fun e w' => e = .returned (.tuple #[noHeap, .slice none 0 0, .bool false]) ∧ Below w.heap.size w w' := by
  obtain ⟨g1, g2, g3, g4, g5, g6, g7, g8, g9⟩ := h
  unfold heapV at *
  dsimp only at *
  obtain ⟨W0, hW0, hA, hR, k2⟩ := both_new w (.slice (some ⟨b, off, none⟩) N cap) ⟨g1, g2, g3, g4, g5, g6, g7, g8, g9⟩
  dsimp only at hW0
  have HW0 := hid hW0
  have HA := hid hA
  have HR := hid hR
  have HK2 := hid k2
  clear hW0 hA hR k2
  go_enter Try.func17, Try.ntmps17
  go_wp2_with fail
  rw [HW0.out]
  refine (HLy.out _ HK2.out).mono ?_
  rintro e W1 ⟨gb, rfl, HI, hb1⟩
  unfold layV at *
  dsimp only at *
  have k1 := HK2.out.trans (hb1.mono HK2.out.size)
  have HB2 := hid (k1.alloc k1.size (.cells #[.slice (some ⟨b, off, none⟩) N cap, .int .i64 g1, .int .i64 g2, .int .i64 g3, .int .i64 g4, .int .i64 g5, .int .i64 g6, .int .i64 g7, .int .i64 g8, .int .i64 g9, .slice (some ⟨gb, 0, none⟩) N N] 58))
  have HR2 := hid ((HR.out.below hb1).below ((Below.refl _ W1).alloc (Nat.le_refl _) (.cells #[.slice (some ⟨b, off, none⟩) N cap, .int .i64 g1, .int .i64 g2, .int .i64 g3, .int .i64 g4, .int .i64 g5, .int .i64 g6, .int .i64 g7, .int .i64 g8, .int .i64 g9, .slice (some ⟨gb, 0, none⟩) N N] 58)))
  have hA1 := HA.out.below hb1
  have HA2 := hid (hA1.below ((Below.refl _ W1).alloc (Nat.le_refl _) (.cells #[.slice (some ⟨b, off, none⟩) N cap, .int .i64 g1, .int .i64 g2, .int .i64 g3, .int .i64 g4, .int .i64 g5, .int .i64 g6, .int .i64 g7, .int .i64 g8, .int .i64 g9, .slice (some ⟨gb, 0, none⟩) N N] 58)))
  have HI2 := hid (HI.out.kept ((Below.refl _ W1).alloc (Nat.le_refl _) (.cells #[.slice (some ⟨b, off, none⟩) N cap, .int .i64 g1, .int .i64 g2, .int .i64 g3, .int .i64 g4, .int .i64 g5, .int .i64 g6, .int .i64 g7, .int .i64 g8, .int .i64 g9, .slice (some ⟨gb, 0, none⟩) N N] 58)))
  have a3 := hA1.cells.2.2.2.1
  have a5 := hA1.cells.2.2.2.2.2.1
  have hltA := heap_lt hA1
  dsimp only at a3 a5
  clear k1 hb1 HW0 HA HR HK2 HLy HI hA1
  have HR6 := HR2
  have HB6 := HB2
  clear HR2 HB2 HA2 HI2
  go_upto_if 29 with fail
  generalize W1.alloc (.cells #[.slice (some ⟨b, off, none⟩) N cap, .int .i64 g1, .int .i64 g2, .int .i64 g3, .int .i64 g4, .int .i64 g5, .int .i64 g6, .int .i64 g7, .int .i64 g8, .int .i64 g9, .slice (some ⟨gb, 0, none⟩) N N] 58) = W2 at *
  obtain ⟨c0, c1, c2, c3, c4, c5, c6, c7, c8, c9⟩ := HR6.out.cells
  dsimp only at c0 c1 c2 c3 c4 c5 c6 c7 c8 c9
  have z0 := frozen_of_heap HR6.out 0
  have z1 := frozen_of_heap HR6.out 1
  have z2 := frozen_of_heap HR6.out 2
  have z3 := frozen_of_heap HR6.out 3
  have z4 := frozen_of_heap HR6.out 4
  have z5 := frozen_of_heap HR6.out 5
  have z6 := frozen_of_heap HR6.out 6
  have z7 := frozen_of_heap HR6.out 7
  have z8 := frozen_of_heap HR6.out 8
  have z9 := frozen_of_heap HR6.out 9
  go_wp2_with fail
  refine heap_use HR6.out (.slice none 0 0) ⟨0, 0, 0, 0, 0, 0, 0, 0, 0⟩ _ ?_
  intro W7 hL hb7 _ _
  obtain ⟨y0, y1, y2, y3, y4, y5, y6, y7, y8, y9⟩ := hL.cells
  dsimp only at y0 y1 y2 y3 y4 y5 y6 y7 y8 y9
  exact bodyPost_ret (v := .tuple #[noHeap, .slice none 0 0, .bool false]) (by simp [results, Try.results17, go_sem, y0, y1, y2, y3, y4, y5, y6, y7, y8, y9, noHeap, heapV]) rfl ⟨rfl, HB6.out.trans (hb7 _ (Nat.le_succ _))⟩

set_option maxHeartbeats 2000000 in
set_option maxRecDepth 100000 in
theorem iFlip_noRoot (b off cap N : Nat) (h : HpN) (rg n rc : Nat) (w : World)
    (ws S : List Int) (heq : (h.scan != h.bottom) = false)
    (HLy : Hid (∀ X, Below w.heap.size w X → Calls Try.prog 30 #[heapV (.slice (some ⟨b, off, none⟩) N cap) h] X fun e w' => ∃ gb, e = .returned (.tuple #[layV (.slice (some ⟨b, off, none⟩) N cap) h (.slice (some ⟨gb, 0, none⟩) N N), .bool true]) ∧ Hid (ISt b off gb N ws S w') ∧ Below X.heap.size X w'))
    (HRt : Hid (∀ (X : World) (gb : Nat), Below w.heap.size w X → ISt b off gb N ws S X → Calls Try.prog 31 #[layV (.slice (some ⟨b, off, none⟩) N cap) h (.slice (some ⟨gb, 0, none⟩) N N), .slice (some ⟨rg, 0, none⟩) n rc] X fun e w' => e = .returned (.bool false) ∧ Below X.heap.size X w')) :
    Calls Try.prog 17 #[heapV (.slice (some ⟨b, off, none⟩) N cap) h, .slice (some ⟨rg, 0, none⟩) n rc] w fun e w' => e = .returned (.tuple #[noHeap, .slice none 0 0, .bool false]) ∧ Below w.heap.size w w' := by
  obtain ⟨g1, g2, g3, g4, g5, g6, g7, g8, g9⟩ := h
  unfold heapV at *
  dsimp only at *
  obtain ⟨W0, hW0, hA, hR, k2⟩ := both_new w (.slice (some ⟨b, off, none⟩) N cap) ⟨g1, g2, g3, g4, g5, g6, g7, g8, g9⟩
  dsimp only at hW0
  have HW0 := hid hW0
  have HA := hid hA
  have HR := hid hR
  have HK2 := hid k2
  clear hW0 hA hR k2
  go_enter Try.func17, Try.ntmps17
  go_wp2_with fail
  rw [HW0.out]
  refine (HLy.out _ HK2.out).mono ?_
  rintro e W1 ⟨gb, rfl, HI, hb1⟩
  unfold layV at *
  dsimp only at *
  have k1 := HK2.out.trans (hb1.mono HK2.out.size)
  have HB2 := hid (k1.alloc k1.size (.cells #[.slice (some ⟨b, off, none⟩) N cap, .int .i64 g1, .int .i64 g2, .int .i64 g3, .int .i64 g4, .int .i64 g5, .int .i64 g6, .int .i64 g7, .int .i64 g8, .int .i64 g9, .slice (some ⟨gb, 0, none⟩) N N] 58))
  have HR2 := hid ((HR.out.below hb1).below ((Below.refl _ W1).alloc (Nat.le_refl _) (.cells #[.slice (some ⟨b, off, none⟩) N cap, .int .i64 g1, .int .i64 g2, .int .i64 g3, .int .i64 g4, .int .i64 g5, .int .i64 g6, .int .i64 g7, .int .i64 g8, .int .i64 g9, .slice (some ⟨gb, 0, none⟩) N N] 58)))
  have hA1 := HA.out.below hb1
  have HA2 := hid (hA1.below ((Below.refl _ W1).alloc (Nat.le_refl _) (.cells #[.slice (some ⟨b, off, none⟩) N cap, .int .i64 g1, .int .i64 g2, .int .i64 g3, .int .i64 g4, .int .i64 g5, .int .i64 g6, .int .i64 g7, .int .i64 g8, .int .i64 g9, .slice (some ⟨gb, 0, none⟩) N N] 58)))
  have HI2 := hid (HI.out.kept ((Below.refl _ W1).alloc (Nat.le_refl _) (.cells #[.slice (some ⟨b, off, none⟩) N cap, .int .i64 g1, .int .i64 g2, .int .i64 g3, .int .i64 g4, .int .i64 g5, .int .i64 g6, .int .i64 g7, .int .i64 g8, .int .i64 g9, .slice (some ⟨gb, 0, none⟩) N N] 58)))
  have a3 := hA1.cells.2.2.2.1
  have a5 := hA1.cells.2.2.2.2.2.1
  have hltA := heap_lt hA1
  dsimp only at a3 a5
  clear k1 hb1 HW0 HA HR HK2 HLy HI hA1
  go_wp2_with fail
  generalize W1.alloc (.cells #[.slice (some ⟨b, off, none⟩) N cap, .int .i64 g1, .int .i64 g2, .int .i64 g3, .int .i64 g4, .int .i64 g5, .int .i64 g6, .int .i64 g7, .int .i64 g8, .int .i64 g9, .slice (some ⟨gb, 0, none⟩) N N] 58) = W2 at *
  refine (HRt.out _ _ HB2.out HI2.out).mono ?_
  rintro e W6 ⟨rfl, hb6⟩
  have HB6 := hid (HB2.out.trans (hb6.mono HB2.out.size))
  have HR6 := hid (HR2.out.below hb6)
  have HA6 := hid (HA2.out.below hb6)
  clear a3 a5 hltA hb6 HB2 HR2 HA2 HI2
  obtain ⟨c0, c1, c2, c3, c4, c5, c6, c7, c8, c9⟩ := HR6.out.cells
  dsimp only at c0 c1 c2 c3 c4 c5 c6 c7 c8 c9
  have z0 := frozen_of_heap HR6.out 0
  have z1 := frozen_of_heap HR6.out 1
  have z2 := frozen_of_heap HR6.out 2
  have z3 := frozen_of_heap HR6.out 3
  have z4 := frozen_of_heap HR6.out 4
  have z5 := frozen_of_heap HR6.out 5
  have z6 := frozen_of_heap HR6.out 6
  have z7 := frozen_of_heap HR6.out 7
  have z8 := frozen_of_heap HR6.out 8
  have z9 := frozen_of_heap HR6.out 9
  go_wp2_with fail
  refine heap_use HR6.out (.slice none 0 0) ⟨0, 0, 0, 0, 0, 0, 0, 0, 0⟩ _ ?_
  intro W7 hL hb7 _ _
  obtain ⟨y0, y1, y2, y3, y4, y5, y6, y7, y8, y9⟩ := hL.cells
  dsimp only at y0 y1 y2 y3 y4 y5 y6 y7 y8 y9
  exact bodyPost_ret (v := .tuple #[noHeap, .slice none 0 0, .bool false]) (by simp [results, Try.results17, go_sem, y0, y1, y2, y3, y4, y5, y6, y7, y8, y9, noHeap, heapV]) rfl ⟨rfl, HB6.out.trans (hb7 _ (Nat.le_succ _))⟩

set_option maxHeartbeats 2000000 in
set_option maxRecDepth 100000 in
theorem iFlip_good (b off cap N : Nat) (h : HpN) (rg n rc : Nat) (w : World)
    (ws S xs : List Int) (heq : (h.scan != h.bottom) = false) (s0 : CN) (o : Option (List Int × CN))
    (HLy : Hid (∀ X, Below w.heap.size w X → Calls Try.prog 30 #[heapV (.slice (some ⟨b, off, none⟩) N cap) h] X fun e w' => ∃ gb, e = .returned (.tuple #[layV (.slice (some ⟨b, off, none⟩) N cap) h (.slice (some ⟨gb, 0, none⟩) N N), .bool true]) ∧ Hid (ISt b off gb N ws S w') ∧ Below X.heap.size X w'))
    (HRt : Hid (∀ (X : World) (gb : Nat), Below w.heap.size w X → ISt b off gb N ws S X → Calls Try.prog 31 #[layV (.slice (some ⟨b, off, none⟩) N cap) h (.slice (some ⟨gb, 0, none⟩) N N), .slice (some ⟨rg, 0, none⟩) n rc] X fun e w' => e = .returned (.bool true) ∧ Below X.heap.size X w'))
    (HOp : Hid (∀ X, Below w.heap.size w X → Calls Try.prog 42 #[heapV (.slice (some ⟨b, off, none⟩) N cap) h] X fun e w' => ∃ bc bw cap' : Nat, e = .returned (.pointer (some ⟨bc, 0, none⟩)) ∧ ColAt X bc bw N cap' s0 w' ∧ X.heap.size ≤ bc ∧ X.heap.size ≤ bw))
    (HCl : Hid (∀ X, Below w.heap.size w X → Calls Try.prog 43 #[.slice (some ⟨rg, 0, none⟩) n rc] X fun e w' => ∃ g c, e = .returned (.slice (some ⟨g, 0, none⟩) n c) ∧ Hid (CellRow 3 w' g n (intCells xs)) ∧ X.heap.size ≤ g ∧ Below X.heap.size X w'))
    (HCh : Hid (∀ (X w0 : World) (bc bw cap' g c : Nat), ColAt w0 bc bw N cap' s0 X → g ≠ bc → g ≠ bw → CellRow 3 X g n (intCells xs) → Calls Try.prog 48 #[.pointer (some ⟨bc, 0, none⟩), .slice (some ⟨g, 0, none⟩) n c] X (MovesPost X bc bw N cap' g n o)))
    (HTd : Hid (∀ (ys : List Int) (s1 : CN) (X w0 : World) (bc bw cap' : Nat), o = some (ys, s1) → ColAt w0 bc bw N cap' s1 X → Calls Try.prog 45 #[.pointer (some ⟨bc, 0, none⟩)] X fun e w' => e = .returned (heapV (.slice (some ⟨bw, 0, none⟩) N cap') { s1.h with touched := touchZ s1 }) ∧ Below X.heap.size X w')) :
    Calls Try.prog 17 #[heapV (.slice (some ⟨b, off, none⟩) N cap) h, .slice (some ⟨rg, 0, none⟩) n rc] w (FlipTold N n w o) := by
  obtain ⟨g1, g2, g3, g4, g5, g6, g7, g8, g9⟩ := h
  unfold heapV at *
  dsimp only at *
  obtain ⟨W0, hW0, hA, hR, k2⟩ := both_new w (.slice (some ⟨b, off, none⟩) N cap) ⟨g1, g2, g3, g4, g5, g6, g7, g8, g9⟩
  dsimp only at hW0
  have HW0 := hid hW0
  have HA := hid hA
  have HR := hid hR
  have HK2 := hid k2
  clear hW0 hA hR k2
  go_enter Try.func17, Try.ntmps17
  go_wp2_with fail
  rw [HW0.out]
  refine (HLy.out _ HK2.out).mono ?_
  rintro e W1 ⟨gb, rfl, HI, hb1⟩
  unfold layV at *
  dsimp only at *
  have k1 := HK2.out.trans (hb1.mono HK2.out.size)
  have HB2 := hid (k1.alloc k1.size (.cells #[.slice (some ⟨b, off, none⟩) N cap, .int .i64 g1, .int .i64 g2, .int .i64 g3, .int .i64 g4, .int .i64 g5, .int .i64 g6, .int .i64 g7, .int .i64 g8, .int .i64 g9, .slice (some ⟨gb, 0, none⟩) N N] 58))
  have HR2 := hid ((HR.out.below hb1).below ((Below.refl _ W1).alloc (Nat.le_refl _) (.cells #[.slice (some ⟨b, off, none⟩) N cap, .int .i64 g1, .int .i64 g2, .int .i64 g3, .int .i64 g4, .int .i64 g5, .int .i64 g6, .int .i64 g7, .int .i64 g8, .int .i64 g9, .slice (some ⟨gb, 0, none⟩) N N] 58)))
  have hA1 := HA.out.below hb1
  have HA2 := hid (hA1.below ((Below.refl _ W1).alloc (Nat.le_refl _) (.cells #[.slice (some ⟨b, off, none⟩) N cap, .int .i64 g1, .int .i64 g2, .int .i64 g3, .int .i64 g4, .int .i64 g5, .int .i64 g6, .int .i64 g7, .int .i64 g8, .int .i64 g9, .slice (some ⟨gb, 0, none⟩) N N] 58)))
  have HI2 := hid (HI.out.kept ((Below.refl _ W1).alloc (Nat.le_refl _) (.cells #[.slice (some ⟨b, off, none⟩) N cap, .int .i64 g1, .int .i64 g2, .int .i64 g3, .int .i64 g4, .int .i64 g5, .int .i64 g6, .int .i64 g7, .int .i64 g8, .int .i64 g9, .slice (some ⟨gb, 0, none⟩) N N] 58)))
  have a3 := hA1.cells.2.2.2.1
  have a5 := hA1.cells.2.2.2.2.2.1
  have hltA := heap_lt hA1
  dsimp only at a3 a5
  clear k1 hb1 HW0 HA HR HK2 HLy HI hA1
  go_wp2_with fail
  generalize W1.alloc (.cells #[.slice (some ⟨b, off, none⟩) N cap, .int .i64 g1, .int .i64 g2, .int .i64 g3, .int .i64 g4, .int .i64 g5, .int .i64 g6, .int .i64 g7, .int .i64 g8, .int .i64 g9, .slice (some ⟨gb, 0, none⟩) N N] 58) = W2 at *
  refine (HRt.out _ _ HB2.out HI2.out).mono ?_
  rintro e W6 ⟨rfl, hb6⟩
  have HB6 := hid (HB2.out.trans (hb6.mono HB2.out.size))
  have HR6 := hid (HR2.out.below hb6)
  have HA6 := hid (HA2.out.below hb6)
  clear a3 a5 hltA hb6 HB2 HR2 HA2 HI2
  obtain ⟨c0, c1, c2, c3, c4, c5, c6, c7, c8, c9⟩ := HA6.out.cells
  dsimp only at c0 c1 c2 c3 c4 c5 c6 c7 c8 c9
  go_wp2_with fail
  refine (HOp.out _ HB6.out).mono ?_
  rintro e W7 ⟨bc, bw, cap', rfl, hW7, hlo, hlo2⟩
  have HW7 := hid hW7
  have hlt6 := heap_lt HR6.out
  have HB7 := hid (HB6.out.trans ((Col.frame hW7).below hlo hlo2 |>.mono HB6.out.size))
  clear hW7 HOp HA6 c0 c1 c2 c3 c4 c5 c6 c7 c8 c9
  go_wp2_with fail
  refine (HCl.out _ HB7.out).mono ?_
  rintro e W8 ⟨g, gc, rfl, HRw, hg, hb8⟩
  have HW8 := hid (Col.keep HW7.out hb8)
  have hgc : g ≠ bc := by have := heap_lt (Col.blk HW7.out); omega
  have hgw : g ≠ bw := by have := CellRow.lt (Col.row HW7.out); omega
  have hg6 : W6.heap.size ≤ g := by have := (Col.frame HW7.out).size; omega
  have HCh' := hid (HCh.out _ _ _ _ _ _ gc HW8.out hgc hgw HRw.out)
  have HF8 := hid (Col.frame HW8.out)
  clear hb8 HCl HCh HW7 HW8 hg
  go_wp2_with fail
  refine HCh'.out.mono ?_
  intro e W9 hP
  have HP := hid hP
  clear hP HCh'
  have KB : Hid (∀ W9, Frm3 W8 bc bw g W9 → Below w.heap.size w W9 ∧ HeapBlk W9 (w.heap.size + 1) (.slice none 0 0) ⟨0, 0, 0, 0, 0, 0, 0, 0, 0⟩) := fun W9 hf => by
    obtain ⟨f1, f2, f3, f4, f5⟩ := hf
    have e1 : Below W6.heap.size W6 W9 := ⟨f1.trans HF8.out.os, f2.trans HF8.out.tape, f3.trans HF8.out.output, Nat.le_trans HF8.out.size f4, fun c hc => (f5 c (Nat.lt_of_lt_of_le hc HF8.out.size) (by omega) (by omega) (by omega)).trans (HF8.out.block c hc (by omega) (by omega))⟩
    exact ⟨HB6.out.trans (e1.mono HB6.out.size), HR6.out.below e1⟩
  cases o with
  | none =>
    obtain ⟨rfl, -, hf⟩ := HP.out
    have HB8 := hid (KB.out _ hf).1
    have HR8 := hid (KB.out _ hf).2
    clear hf HP KB HF8 HR6 HB6 HTd
    obtain ⟨c0, c1, c2, c3, c4, c5, c6, c7, c8, c9⟩ := HR8.out.cells
    dsimp only at c0 c1 c2 c3 c4 c5 c6 c7 c8 c9
    have z0 := frozen_of_heap HR8.out 0
    have z1 := frozen_of_heap HR8.out 1
    have z2 := frozen_of_heap HR8.out 2
    have z3 := frozen_of_heap HR8.out 3
    have z4 := frozen_of_heap HR8.out 4
    have z5 := frozen_of_heap HR8.out 5
    have z6 := frozen_of_heap HR8.out 6
    have z7 := frozen_of_heap HR8.out 7
    have z8 := frozen_of_heap HR8.out 8
    have z9 := frozen_of_heap HR8.out 9
    go_wp2_with fail
    refine heap_use HR8.out (.slice none 0 0) ⟨0, 0, 0, 0, 0, 0, 0, 0, 0⟩ _ ?_
    intro W10 hL hb7 _ _
    obtain ⟨y0, y1, y2, y3, y4, y5, y6, y7, y8, y9⟩ := hL.cells
    dsimp only at y0 y1 y2 y3 y4 y5 y6 y7 y8 y9
    exact bodyPost_ret (v := .tuple #[noHeap, .slice none 0 0, .bool false]) (by simp [results, Try.results17, go_sem, y0, y1, y2, y3, y4, y5, y6, y7, y8, y9, noHeap, heapV]) rfl ⟨rfl, HB8.out.trans (hb7 _ (Nat.le_succ _))⟩
  | some p =>
    obtain ⟨ys, s1⟩ := p
    obtain ⟨rfl, hc9, hr9, hf9⟩ := HP.out
    have HW9 := hid hc9
    have HRy := hid hr9
    have HF9 := hid hf9
    have HTd' := hid (HTd.out ys s1 W9 W9 bc bw cap' rfl HW9.out)
    clear hc9 hr9 hf9 HP HTd
    obtain ⟨i9, hi9⟩ : ∃ i9, touchZ s1 = i9 := ⟨_, rfl⟩
    have HI9 := hid hi9
    rw [hi9] at HTd'
    clear hi9
    go_wp2_with fail
    refine HTd'.out.mono ?_
    rintro e W10 ⟨rfl, hb10⟩
    have HW10 := hid (Col.keep HW9.out hb10)
    have HRy10 := hid (HRy.out.of_block (hb10.block g HRy.out.lt))
    have HB10 := hid ((KB.out _ HF9.out).1.trans (hb10.mono (KB.out _ HF9.out).1.size))
    have HR10 := hid ((KB.out _ HF9.out).2.below hb10)
    obtain ⟨c0, c1, c2, c3, c4, c5, c6, c7, c8, c9⟩ := HR10.out.cells
    dsimp only at c0 c1 c2 c3 c4 c5 c6 c7 c8 c9
    have z0 := frozen_of_heap HR10.out 0
    have z1 := frozen_of_heap HR10.out 1
    have z2 := frozen_of_heap HR10.out 2
    have z3 := frozen_of_heap HR10.out 3
    have z4 := frozen_of_heap HR10.out 4
    have z5 := frozen_of_heap HR10.out 5
    have z6 := frozen_of_heap HR10.out 6
    have z7 := frozen_of_heap HR10.out 7
    have z8 := frozen_of_heap HR10.out 8
    have z9 := frozen_of_heap HR10.out 9
    have hsz6 := HB6.out.size
    clear hb10 HTd' HW9 HRy HF9 KB HF8 HR6 HB6
    go_wp2_with fail
    refine heap_use HR10.out (.slice (some ⟨bw, 0, none⟩) N cap') ⟨s1.h.size, s1.h.to, s1.h.bottom, s1.h.top, s1.h.scan, s1.h.fb, s1.h.ft, s1.h.flips, i9⟩ _ ?_
    intro W11 hL hb11 _ hoth
    obtain ⟨y0, y1, y2, y3, y4, y5, y6, y7, y8, y9⟩ := hL.cells
    dsimp only at y0 y1 y2 y3 y4 y5 y6 y7 y8 y9
    refine bodyPost_ret (v := .tuple #[heapV (.slice (some ⟨bw, 0, none⟩) N cap') ⟨s1.h.size, s1.h.to, s1.h.bottom, s1.h.top, s1.h.scan, s1.h.fb, s1.h.ft, s1.h.flips, i9⟩, .slice (some ⟨g, 0, none⟩) n gc, .bool true]) (by simp [results, Try.results17, go_sem, y0, y1, y2, y3, y4, y5, y6, y7, y8, y9, heapV]) rfl ?_
    exact ⟨bw, cap', g, gc, by rw [HI9.out], HW10.out.row.of_block (hoth _ (by omega)), HRy10.out.of_block (hoth _ (by omega)), hgw, by omega, by omega, HB10.out.trans (hb11 _ (Nat.le_succ _))⟩

end Go.Proofs.Ytebpgglegnljgaa

/- The program's change of spaces, told with the room of its words. -/
namespace Go.Proofs.Ytebpgglegnljgaa
open Go.RowKit

/-- A heap, its words with room, and a list are told. -/
def FlipToldC (N n : Nat) (w : World) (o : Option (List Int × CN)) (e : Ending) (w' : World) : Prop :=
  match o with
  | some (ys, s) => ∃ bw cap' g c : Nat, e = .returned (.tuple #[heapV (.slice (some ⟨bw, 0, none⟩) N cap') { s.h with touched := touchZ s }, .slice (some ⟨g, 0, none⟩) n c, .bool true]) ∧ CellRow 3 w' bw N (intCells s.ws) ∧ CellRow 3 w' g n (intCells ys) ∧ g ≠ bw ∧ w.heap.size ≤ bw ∧ w.heap.size ≤ g ∧ Below w.heap.size w w' ∧ N ≤ cap'
  | none => e = .returned (.tuple #[noHeap, .slice none 0 0, .bool false]) ∧ Below w.heap.size w w'

set_option maxHeartbeats 2000000 in
set_option maxRecDepth 100000 in
theorem iFlip_goodC (b off cap N : Nat) (h : HpN) (rg n rc : Nat) (w : World)
    (ws S xs : List Int) (heq : (h.scan != h.bottom) = false) (s0 : CN) (o : Option (List Int × CN))
    (HLy : Hid (∀ X, Below w.heap.size w X → Calls Try.prog 30 #[heapV (.slice (some ⟨b, off, none⟩) N cap) h] X fun e w' => ∃ gb, e = .returned (.tuple #[layV (.slice (some ⟨b, off, none⟩) N cap) h (.slice (some ⟨gb, 0, none⟩) N N), .bool true]) ∧ Hid (ISt b off gb N ws S w') ∧ Below X.heap.size X w'))
    (HRt : Hid (∀ (X : World) (gb : Nat), Below w.heap.size w X → ISt b off gb N ws S X → Calls Try.prog 31 #[layV (.slice (some ⟨b, off, none⟩) N cap) h (.slice (some ⟨gb, 0, none⟩) N N), .slice (some ⟨rg, 0, none⟩) n rc] X fun e w' => e = .returned (.bool true) ∧ Below X.heap.size X w'))
    (HOp : Hid (∀ X, Below w.heap.size w X → Calls Try.prog 42 #[heapV (.slice (some ⟨b, off, none⟩) N cap) h] X fun e w' => ∃ bc bw cap' : Nat, e = .returned (.pointer (some ⟨bc, 0, none⟩)) ∧ (ColAt X bc bw N cap' s0 w' ∧ N ≤ cap') ∧ X.heap.size ≤ bc ∧ X.heap.size ≤ bw))
    (HCl : Hid (∀ X, Below w.heap.size w X → Calls Try.prog 43 #[.slice (some ⟨rg, 0, none⟩) n rc] X fun e w' => ∃ g c, e = .returned (.slice (some ⟨g, 0, none⟩) n c) ∧ Hid (CellRow 3 w' g n (intCells xs)) ∧ X.heap.size ≤ g ∧ Below X.heap.size X w'))
    (HCh : Hid (∀ (X w0 : World) (bc bw cap' g c : Nat), ColAt w0 bc bw N cap' s0 X → g ≠ bc → g ≠ bw → CellRow 3 X g n (intCells xs) → Calls Try.prog 48 #[.pointer (some ⟨bc, 0, none⟩), .slice (some ⟨g, 0, none⟩) n c] X (MovesPost X bc bw N cap' g n o)))
    (HTd : Hid (∀ (ys : List Int) (s1 : CN) (X w0 : World) (bc bw cap' : Nat), o = some (ys, s1) → ColAt w0 bc bw N cap' s1 X → Calls Try.prog 45 #[.pointer (some ⟨bc, 0, none⟩)] X fun e w' => e = .returned (heapV (.slice (some ⟨bw, 0, none⟩) N cap') { s1.h with touched := touchZ s1 }) ∧ Below X.heap.size X w')) :
    Calls Try.prog 17 #[heapV (.slice (some ⟨b, off, none⟩) N cap) h, .slice (some ⟨rg, 0, none⟩) n rc] w (FlipToldC N n w o) := by
  obtain ⟨g1, g2, g3, g4, g5, g6, g7, g8, g9⟩ := h
  unfold heapV at *
  dsimp only at *
  obtain ⟨W0, hW0, hA, hR, k2⟩ := both_new w (.slice (some ⟨b, off, none⟩) N cap) ⟨g1, g2, g3, g4, g5, g6, g7, g8, g9⟩
  dsimp only at hW0
  have HW0 := hid hW0
  have HA := hid hA
  have HR := hid hR
  have HK2 := hid k2
  clear hW0 hA hR k2
  go_enter Try.func17, Try.ntmps17
  go_wp2_with fail
  rw [HW0.out]
  refine (HLy.out _ HK2.out).mono ?_
  rintro e W1 ⟨gb, rfl, HI, hb1⟩
  unfold layV at *
  dsimp only at *
  have k1 := HK2.out.trans (hb1.mono HK2.out.size)
  have HB2 := hid (k1.alloc k1.size (.cells #[.slice (some ⟨b, off, none⟩) N cap, .int .i64 g1, .int .i64 g2, .int .i64 g3, .int .i64 g4, .int .i64 g5, .int .i64 g6, .int .i64 g7, .int .i64 g8, .int .i64 g9, .slice (some ⟨gb, 0, none⟩) N N] 58))
  have HR2 := hid ((HR.out.below hb1).below ((Below.refl _ W1).alloc (Nat.le_refl _) (.cells #[.slice (some ⟨b, off, none⟩) N cap, .int .i64 g1, .int .i64 g2, .int .i64 g3, .int .i64 g4, .int .i64 g5, .int .i64 g6, .int .i64 g7, .int .i64 g8, .int .i64 g9, .slice (some ⟨gb, 0, none⟩) N N] 58)))
  have hA1 := HA.out.below hb1
  have HA2 := hid (hA1.below ((Below.refl _ W1).alloc (Nat.le_refl _) (.cells #[.slice (some ⟨b, off, none⟩) N cap, .int .i64 g1, .int .i64 g2, .int .i64 g3, .int .i64 g4, .int .i64 g5, .int .i64 g6, .int .i64 g7, .int .i64 g8, .int .i64 g9, .slice (some ⟨gb, 0, none⟩) N N] 58)))
  have HI2 := hid (HI.out.kept ((Below.refl _ W1).alloc (Nat.le_refl _) (.cells #[.slice (some ⟨b, off, none⟩) N cap, .int .i64 g1, .int .i64 g2, .int .i64 g3, .int .i64 g4, .int .i64 g5, .int .i64 g6, .int .i64 g7, .int .i64 g8, .int .i64 g9, .slice (some ⟨gb, 0, none⟩) N N] 58)))
  have a3 := hA1.cells.2.2.2.1
  have a5 := hA1.cells.2.2.2.2.2.1
  have hltA := heap_lt hA1
  dsimp only at a3 a5
  clear k1 hb1 HW0 HA HR HK2 HLy HI hA1
  go_wp2_with fail
  generalize W1.alloc (.cells #[.slice (some ⟨b, off, none⟩) N cap, .int .i64 g1, .int .i64 g2, .int .i64 g3, .int .i64 g4, .int .i64 g5, .int .i64 g6, .int .i64 g7, .int .i64 g8, .int .i64 g9, .slice (some ⟨gb, 0, none⟩) N N] 58) = W2 at *
  refine (HRt.out _ _ HB2.out HI2.out).mono ?_
  rintro e W6 ⟨rfl, hb6⟩
  have HB6 := hid (HB2.out.trans (hb6.mono HB2.out.size))
  have HR6 := hid (HR2.out.below hb6)
  have HA6 := hid (HA2.out.below hb6)
  clear a3 a5 hltA hb6 HB2 HR2 HA2 HI2
  obtain ⟨c0, c1, c2, c3, c4, c5, c6, c7, c8, c9⟩ := HA6.out.cells
  dsimp only at c0 c1 c2 c3 c4 c5 c6 c7 c8 c9
  go_wp2_with fail
  refine (HOp.out _ HB6.out).mono ?_
  rintro e W7 ⟨bc, bw, cap', rfl, ⟨hW7, hcpC⟩, hlo, hlo2⟩
  have HCpC := hid hcpC
  clear hcpC
  have HW7 := hid hW7
  have hlt6 := heap_lt HR6.out
  have HB7 := hid (HB6.out.trans ((Col.frame hW7).below hlo hlo2 |>.mono HB6.out.size))
  clear hW7 HOp HA6 c0 c1 c2 c3 c4 c5 c6 c7 c8 c9
  go_wp2_with fail
  refine (HCl.out _ HB7.out).mono ?_
  rintro e W8 ⟨g, gc, rfl, HRw, hg, hb8⟩
  have HW8 := hid (Col.keep HW7.out hb8)
  have hgc : g ≠ bc := by have := heap_lt (Col.blk HW7.out); omega
  have hgw : g ≠ bw := by have := CellRow.lt (Col.row HW7.out); omega
  have hg6 : W6.heap.size ≤ g := by have := (Col.frame HW7.out).size; omega
  have HCh' := hid (HCh.out _ _ _ _ _ _ gc HW8.out hgc hgw HRw.out)
  have HF8 := hid (Col.frame HW8.out)
  clear hb8 HCl HCh HW7 HW8 hg
  go_wp2_with fail
  refine HCh'.out.mono ?_
  intro e W9 hP
  have HP := hid hP
  clear hP HCh'
  have KB : Hid (∀ W9, Frm3 W8 bc bw g W9 → Below w.heap.size w W9 ∧ HeapBlk W9 (w.heap.size + 1) (.slice none 0 0) ⟨0, 0, 0, 0, 0, 0, 0, 0, 0⟩) := fun W9 hf => by
    obtain ⟨f1, f2, f3, f4, f5⟩ := hf
    have e1 : Below W6.heap.size W6 W9 := ⟨f1.trans HF8.out.os, f2.trans HF8.out.tape, f3.trans HF8.out.output, Nat.le_trans HF8.out.size f4, fun c hc => (f5 c (Nat.lt_of_lt_of_le hc HF8.out.size) (by omega) (by omega) (by omega)).trans (HF8.out.block c hc (by omega) (by omega))⟩
    exact ⟨HB6.out.trans (e1.mono HB6.out.size), HR6.out.below e1⟩
  cases o with
  | none =>
    obtain ⟨rfl, -, hf⟩ := HP.out
    have HB8 := hid (KB.out _ hf).1
    have HR8 := hid (KB.out _ hf).2
    clear hf HP KB HF8 HR6 HB6 HTd
    obtain ⟨c0, c1, c2, c3, c4, c5, c6, c7, c8, c9⟩ := HR8.out.cells
    dsimp only at c0 c1 c2 c3 c4 c5 c6 c7 c8 c9
    have z0 := frozen_of_heap HR8.out 0
    have z1 := frozen_of_heap HR8.out 1
    have z2 := frozen_of_heap HR8.out 2
    have z3 := frozen_of_heap HR8.out 3
    have z4 := frozen_of_heap HR8.out 4
    have z5 := frozen_of_heap HR8.out 5
    have z6 := frozen_of_heap HR8.out 6
    have z7 := frozen_of_heap HR8.out 7
    have z8 := frozen_of_heap HR8.out 8
    have z9 := frozen_of_heap HR8.out 9
    go_wp2_with fail
    refine heap_use HR8.out (.slice none 0 0) ⟨0, 0, 0, 0, 0, 0, 0, 0, 0⟩ _ ?_
    intro W10 hL hb7 _ _
    obtain ⟨y0, y1, y2, y3, y4, y5, y6, y7, y8, y9⟩ := hL.cells
    dsimp only at y0 y1 y2 y3 y4 y5 y6 y7 y8 y9
    exact bodyPost_ret (v := .tuple #[noHeap, .slice none 0 0, .bool false]) (by simp [results, Try.results17, go_sem, y0, y1, y2, y3, y4, y5, y6, y7, y8, y9, noHeap, heapV]) rfl ⟨rfl, HB8.out.trans (hb7 _ (Nat.le_succ _))⟩
  | some p =>
    obtain ⟨ys, s1⟩ := p
    obtain ⟨rfl, hc9, hr9, hf9⟩ := HP.out
    have HW9 := hid hc9
    have HRy := hid hr9
    have HF9 := hid hf9
    have HTd' := hid (HTd.out ys s1 W9 W9 bc bw cap' rfl HW9.out)
    clear hc9 hr9 hf9 HP HTd
    obtain ⟨i9, hi9⟩ : ∃ i9, touchZ s1 = i9 := ⟨_, rfl⟩
    have HI9 := hid hi9
    rw [hi9] at HTd'
    clear hi9
    go_wp2_with fail
    refine HTd'.out.mono ?_
    rintro e W10 ⟨rfl, hb10⟩
    have HW10 := hid (Col.keep HW9.out hb10)
    have HRy10 := hid (HRy.out.of_block (hb10.block g HRy.out.lt))
    have HB10 := hid ((KB.out _ HF9.out).1.trans (hb10.mono (KB.out _ HF9.out).1.size))
    have HR10 := hid ((KB.out _ HF9.out).2.below hb10)
    obtain ⟨c0, c1, c2, c3, c4, c5, c6, c7, c8, c9⟩ := HR10.out.cells
    dsimp only at c0 c1 c2 c3 c4 c5 c6 c7 c8 c9
    have z0 := frozen_of_heap HR10.out 0
    have z1 := frozen_of_heap HR10.out 1
    have z2 := frozen_of_heap HR10.out 2
    have z3 := frozen_of_heap HR10.out 3
    have z4 := frozen_of_heap HR10.out 4
    have z5 := frozen_of_heap HR10.out 5
    have z6 := frozen_of_heap HR10.out 6
    have z7 := frozen_of_heap HR10.out 7
    have z8 := frozen_of_heap HR10.out 8
    have z9 := frozen_of_heap HR10.out 9
    have hsz6 := HB6.out.size
    clear hb10 HTd' HW9 HRy HF9 KB HF8 HR6 HB6
    go_wp2_with fail
    refine heap_use HR10.out (.slice (some ⟨bw, 0, none⟩) N cap') ⟨s1.h.size, s1.h.to, s1.h.bottom, s1.h.top, s1.h.scan, s1.h.fb, s1.h.ft, s1.h.flips, i9⟩ _ ?_
    intro W11 hL hb11 _ hoth
    obtain ⟨y0, y1, y2, y3, y4, y5, y6, y7, y8, y9⟩ := hL.cells
    dsimp only at y0 y1 y2 y3 y4 y5 y6 y7 y8 y9
    refine bodyPost_ret (v := .tuple #[heapV (.slice (some ⟨bw, 0, none⟩) N cap') ⟨s1.h.size, s1.h.to, s1.h.bottom, s1.h.top, s1.h.scan, s1.h.fb, s1.h.ft, s1.h.flips, i9⟩, .slice (some ⟨g, 0, none⟩) n gc, .bool true]) (by simp [results, Try.results17, go_sem, y0, y1, y2, y3, y4, y5, y6, y7, y8, y9, heapV]) rfl ?_
    exact ⟨bw, cap', g, gc, by rw [HI9.out], HW10.out.row.of_block (hoth _ (by omega)), HRy10.out.of_block (hoth _ (by omega)), hgw, by omega, by omega, HB10.out.trans (hb11 _ (Nat.le_succ _)), HCpC.out⟩
end Go.Proofs.Ytebpgglegnljgaa

/- The specification's HeapFlip. -/
namespace Go.Proofs.Ytebpgglegnljgaa
open Go.RowKit

set_option maxHeartbeats 4000000 in
set_option maxRecDepth 100000 in
theorem sFlip_notOk (b off cap N : Nat) (h : HpN) (rg n rc : Nat) (w : World)
    (HOk : Hid (∀ X, Below w.heap.size w X → Calls Try.prog 35 #[heapV (.slice (some ⟨b, off, none⟩) N cap) h] X fun e w' => e = .returned (.bool false) ∧ Below X.heap.size X w')) :
    Calls Try.prog 18 #[heapV (.slice (some ⟨b, off, none⟩) N cap) h, .slice (some ⟨rg, 0, none⟩) n rc] w fun e w' => e = .returned (.tuple #[noHeap, .slice none 0 0, .bool false]) ∧ Below w.heap.size w w' := by
  obtain ⟨g1, g2, g3, g4, g5, g6, g7, g8, g9⟩ := h
  unfold heapV at *
  dsimp only at *
  obtain ⟨W0, hW0, hA, hR, k2⟩ := both_new w (.slice (some ⟨b, off, none⟩) N cap) ⟨g1, g2, g3, g4, g5, g6, g7, g8, g9⟩
  dsimp only at hW0
  have HW0 := hid hW0
  have HA := hid hA
  have HR := hid hR
  have HK2 := hid k2
  clear hW0 hA hR k2
  go_enter Try.func18, Try.ntmps18
  go_wp2_with fail
  rw [HW0.out]
  refine (HOk.out _ HK2.out).mono ?_
  rintro e W6 ⟨rfl, hb6⟩
  have HB6 := hid (HK2.out.trans (hb6.mono HK2.out.size))
  have HR6 := hid (HR.out.below hb6)
  have HA6 := hid (HA.out.below hb6)
  clear hb6 HW0 HA HR HK2 HOk
  obtain ⟨a0, a1, a2, a3, a4, a5, a6, a7, a8, a9⟩ := HA6.out.cells
  dsimp only at a0 a1 a2 a3 a4 a5 a6 a7 a8 a9
  obtain ⟨c0, c1, c2, c3, c4, c5, c6, c7, c8, c9⟩ := HR6.out.cells
  dsimp only at c0 c1 c2 c3 c4 c5 c6 c7 c8 c9
  have z0 := frozen_of_heap HR6.out 0
  have z1 := frozen_of_heap HR6.out 1
  have z2 := frozen_of_heap HR6.out 2
  have z3 := frozen_of_heap HR6.out 3
  have z4 := frozen_of_heap HR6.out 4
  have z5 := frozen_of_heap HR6.out 5
  have z6 := frozen_of_heap HR6.out 6
  have z7 := frozen_of_heap HR6.out 7
  have z8 := frozen_of_heap HR6.out 8
  have z9 := frozen_of_heap HR6.out 9
  go_wp2_with fail
  refine heap_use HR6.out (.slice none 0 0) ⟨0, 0, 0, 0, 0, 0, 0, 0, 0⟩ _ ?_
  intro W7 hL hb7 _ _
  obtain ⟨y0, y1, y2, y3, y4, y5, y6, y7, y8, y9⟩ := hL.cells
  dsimp only at y0 y1 y2 y3 y4 y5 y6 y7 y8 y9
  exact bodyPost_ret (v := .tuple #[noHeap, .slice none 0 0, .bool false]) (by simp [results, Try.results18, go_sem, y0, y1, y2, y3, y4, y5, y6, y7, y8, y9, noHeap, heapV]) rfl ⟨rfl, HB6.out.trans (hb7 _ (Nat.le_succ _))⟩

set_option maxHeartbeats 4000000 in
set_option maxRecDepth 100000 in
theorem sFlip_scan (b off cap N : Nat) (h : HpN) (rg n rc : Nat) (w : World)
    (hne : (h.scan != h.bottom) = true)
    (HOk : Hid (∀ X, Below w.heap.size w X → Calls Try.prog 35 #[heapV (.slice (some ⟨b, off, none⟩) N cap) h] X fun e w' => e = .returned (.bool true) ∧ Below X.heap.size X w')) :
    Calls Try.prog 18 #[heapV (.slice (some ⟨b, off, none⟩) N cap) h, .slice (some ⟨rg, 0, none⟩) n rc] w fun e w' => e = .returned (.tuple #[noHeap, .slice none 0 0, .bool false]) ∧ Below w.heap.size w w' := by
  obtain ⟨g1, g2, g3, g4, g5, g6, g7, g8, g9⟩ := h
  unfold heapV at *
  dsimp only at *
  obtain ⟨W0, hW0, hA, hR, k2⟩ := both_new w (.slice (some ⟨b, off, none⟩) N cap) ⟨g1, g2, g3, g4, g5, g6, g7, g8, g9⟩
  dsimp only at hW0
  have HW0 := hid hW0
  have HA := hid hA
  have HR := hid hR
  have HK2 := hid k2
  clear hW0 hA hR k2
  go_enter Try.func18, Try.ntmps18
  go_wp2_with fail
  rw [HW0.out]
  refine (HOk.out _ HK2.out).mono ?_
  rintro e W6 ⟨rfl, hb6⟩
  have HB6 := hid (HK2.out.trans (hb6.mono HK2.out.size))
  have HR6 := hid (HR.out.below hb6)
  have HA6 := hid (HA.out.below hb6)
  clear hb6 HW0 HA HR HK2 HOk
  obtain ⟨a0, a1, a2, a3, a4, a5, a6, a7, a8, a9⟩ := HA6.out.cells
  dsimp only at a0 a1 a2 a3 a4 a5 a6 a7 a8 a9
  obtain ⟨c0, c1, c2, c3, c4, c5, c6, c7, c8, c9⟩ := HR6.out.cells
  dsimp only at c0 c1 c2 c3 c4 c5 c6 c7 c8 c9
  have z0 := frozen_of_heap HR6.out 0
  have z1 := frozen_of_heap HR6.out 1
  have z2 := frozen_of_heap HR6.out 2
  have z3 := frozen_of_heap HR6.out 3
  have z4 := frozen_of_heap HR6.out 4
  have z5 := frozen_of_heap HR6.out 5
  have z6 := frozen_of_heap HR6.out 6
  have z7 := frozen_of_heap HR6.out 7
  have z8 := frozen_of_heap HR6.out 8
  have z9 := frozen_of_heap HR6.out 9
  go_wp2_with fail
  refine heap_use HR6.out (.slice none 0 0) ⟨0, 0, 0, 0, 0, 0, 0, 0, 0⟩ _ ?_
  intro W7 hL hb7 _ _
  obtain ⟨y0, y1, y2, y3, y4, y5, y6, y7, y8, y9⟩ := hL.cells
  dsimp only at y0 y1 y2 y3 y4 y5 y6 y7 y8 y9
  exact bodyPost_ret (v := .tuple #[noHeap, .slice none 0 0, .bool false]) (by simp [results, Try.results18, go_sem, y0, y1, y2, y3, y4, y5, y6, y7, y8, y9, noHeap, heapV]) rfl ⟨rfl, HB6.out.trans (hb7 _ (Nat.le_succ _))⟩

set_option maxHeartbeats 4000000 in
set_option maxRecDepth 100000 in
theorem sFlip_many (b off cap N : Nat) (h : HpN) (rg n rc : Nat) (w : World)
    (heq : (h.scan != h.bottom) = false) (hn : (20 : Int) < (n : Int))
    (HOk : Hid (∀ X, Below w.heap.size w X → Calls Try.prog 35 #[heapV (.slice (some ⟨b, off, none⟩) N cap) h] X fun e w' => e = .returned (.bool true) ∧ Below X.heap.size X w')) :
    Calls Try.prog 18 #[heapV (.slice (some ⟨b, off, none⟩) N cap) h, .slice (some ⟨rg, 0, none⟩) n rc] w fun e w' => e = .returned (.tuple #[noHeap, .slice none 0 0, .bool false]) ∧ Below w.heap.size w w' := by
  obtain ⟨g1, g2, g3, g4, g5, g6, g7, g8, g9⟩ := h
  unfold heapV at *
  dsimp only at *
  obtain ⟨W0, hW0, hA, hR, k2⟩ := both_new w (.slice (some ⟨b, off, none⟩) N cap) ⟨g1, g2, g3, g4, g5, g6, g7, g8, g9⟩
  dsimp only at hW0
  have HW0 := hid hW0
  have HA := hid hA
  have HR := hid hR
  have HK2 := hid k2
  clear hW0 hA hR k2
  go_enter Try.func18, Try.ntmps18
  go_wp2_with fail
  rw [HW0.out]
  refine (HOk.out _ HK2.out).mono ?_
  rintro e W6 ⟨rfl, hb6⟩
  have HB6 := hid (HK2.out.trans (hb6.mono HK2.out.size))
  have HR6 := hid (HR.out.below hb6)
  have HA6 := hid (HA.out.below hb6)
  clear hb6 HW0 HA HR HK2 HOk
  obtain ⟨a0, a1, a2, a3, a4, a5, a6, a7, a8, a9⟩ := HA6.out.cells
  dsimp only at a0 a1 a2 a3 a4 a5 a6 a7 a8 a9
  obtain ⟨c0, c1, c2, c3, c4, c5, c6, c7, c8, c9⟩ := HR6.out.cells
  dsimp only at c0 c1 c2 c3 c4 c5 c6 c7 c8 c9
  have z0 := frozen_of_heap HR6.out 0
  have z1 := frozen_of_heap HR6.out 1
  have z2 := frozen_of_heap HR6.out 2
  have z3 := frozen_of_heap HR6.out 3
  have z4 := frozen_of_heap HR6.out 4
  have z5 := frozen_of_heap HR6.out 5
  have z6 := frozen_of_heap HR6.out 6
  have z7 := frozen_of_heap HR6.out 7
  have z8 := frozen_of_heap HR6.out 8
  have z9 := frozen_of_heap HR6.out 9
  go_wp2_with fail
  refine heap_use HR6.out (.slice none 0 0) ⟨0, 0, 0, 0, 0, 0, 0, 0, 0⟩ _ ?_
  intro W7 hL hb7 _ _
  obtain ⟨y0, y1, y2, y3, y4, y5, y6, y7, y8, y9⟩ := hL.cells
  dsimp only at y0 y1 y2 y3 y4 y5 y6 y7 y8 y9
  exact bodyPost_ret (v := .tuple #[noHeap, .slice none 0 0, .bool false]) (by simp [results, Try.results18, go_sem, y0, y1, y2, y3, y4, y5, y6, y7, y8, y9, noHeap, heapV]) rfl ⟨rfl, HB6.out.trans (hb7 _ (Nat.le_succ _))⟩

set_option maxHeartbeats 4000000 in
set_option maxRecDepth 100000 in
theorem sFlip_noRoot (b off cap N : Nat) (h : HpN) (rg n rc : Nat) (w : World)
    (heq : (h.scan != h.bottom) = false) (hn : ¬ (20 : Int) < (n : Int))
    (HOk : Hid (∀ X, Below w.heap.size w X → Calls Try.prog 35 #[heapV (.slice (some ⟨b, off, none⟩) N cap) h] X fun e w' => e = .returned (.bool true) ∧ Below X.heap.size X w'))
    (HRt : Hid (∀ X, Below w.heap.size w X → Calls Try.prog 36 #[heapV (.slice (some ⟨b, off, none⟩) N cap) h, .slice (some ⟨rg, 0, none⟩) n rc] X fun e w' => e = .returned (.bool false) ∧ Below X.heap.size X w')) :
    Calls Try.prog 18 #[heapV (.slice (some ⟨b, off, none⟩) N cap) h, .slice (some ⟨rg, 0, none⟩) n rc] w fun e w' => e = .returned (.tuple #[noHeap, .slice none 0 0, .bool false]) ∧ Below w.heap.size w w' := by
  obtain ⟨g1, g2, g3, g4, g5, g6, g7, g8, g9⟩ := h
  unfold heapV at *
  dsimp only at *
  obtain ⟨W0, hW0, hA, hR, k2⟩ := both_new w (.slice (some ⟨b, off, none⟩) N cap) ⟨g1, g2, g3, g4, g5, g6, g7, g8, g9⟩
  dsimp only at hW0
  have HW0 := hid hW0
  have HA := hid hA
  have HR := hid hR
  have HK2 := hid k2
  clear hW0 hA hR k2
  go_enter Try.func18, Try.ntmps18
  go_wp2_with fail
  rw [HW0.out]
  refine (HOk.out _ HK2.out).mono ?_
  rintro e W6 ⟨rfl, hb6⟩
  have HB6 := hid (HK2.out.trans (hb6.mono HK2.out.size))
  have HR6 := hid (HR.out.below hb6)
  have HA6 := hid (HA.out.below hb6)
  clear hb6 HW0 HA HR HK2 HOk
  obtain ⟨a0, a1, a2, a3, a4, a5, a6, a7, a8, a9⟩ := HA6.out.cells
  dsimp only at a0 a1 a2 a3 a4 a5 a6 a7 a8 a9
  go_wp2_with fail
  refine (HRt.out _ HB6.out).mono ?_
  rintro e W7 ⟨rfl, hb7⟩
  have HB7 := hid (HB6.out.trans (hb7.mono HB6.out.size))
  have HR7 := hid (HR6.out.below hb7)
  have HA7 := hid (HA6.out.below hb7)
  clear hb7 HB6 HR6 HA6 HRt a0 a1 a2 a3 a4 a5 a6 a7 a8 a9
  obtain ⟨c0, c1, c2, c3, c4, c5, c6, c7, c8, c9⟩ := HR7.out.cells
  dsimp only at c0 c1 c2 c3 c4 c5 c6 c7 c8 c9
  have z0 := frozen_of_heap HR7.out 0
  have z1 := frozen_of_heap HR7.out 1
  have z2 := frozen_of_heap HR7.out 2
  have z3 := frozen_of_heap HR7.out 3
  have z4 := frozen_of_heap HR7.out 4
  have z5 := frozen_of_heap HR7.out 5
  have z6 := frozen_of_heap HR7.out 6
  have z7 := frozen_of_heap HR7.out 7
  have z8 := frozen_of_heap HR7.out 8
  have z9 := frozen_of_heap HR7.out 9
  go_wp2_with fail
  refine heap_use HR7.out (.slice none 0 0) ⟨0, 0, 0, 0, 0, 0, 0, 0, 0⟩ _ ?_
  intro W8 hL hb8 _ _
  obtain ⟨y0, y1, y2, y3, y4, y5, y6, y7, y8, y9⟩ := hL.cells
  dsimp only at y0 y1 y2 y3 y4 y5 y6 y7 y8 y9
  exact bodyPost_ret (v := .tuple #[noHeap, .slice none 0 0, .bool false]) (by simp [results, Try.results18, go_sem, y0, y1, y2, y3, y4, y5, y6, y7, y8, y9, noHeap, heapV]) rfl ⟨rfl, HB7.out.trans (hb8 _ (Nat.le_succ _))⟩

set_option maxHeartbeats 4000000 in
set_option maxRecDepth 100000 in
theorem sFlip_good (b off cap N : Nat) (h : HpN) (rg n rc : Nat) (w : World)
    (heq : (h.scan != h.bottom) = false) (hn : ¬ (20 : Int) < (n : Int)) (xs : List Int) (hl : xs.length = n) (hrg : 0 < n → rg < w.heap.size) (Hxs : Hid (∀ k, k < n → w.cell? ⟨rg, k, none⟩ = some (.int .i64 (xs.getD k 0)))) (s0 : CN) (o : Option (List Int × CN))
    (HOk : Hid (∀ X, Below w.heap.size w X → Calls Try.prog 35 #[heapV (.slice (some ⟨b, off, none⟩) N cap) h] X fun e w' => e = .returned (.bool true) ∧ Below X.heap.size X w'))
    (HRt : Hid (∀ X, Below w.heap.size w X → Calls Try.prog 36 #[heapV (.slice (some ⟨b, off, none⟩) N cap) h, .slice (some ⟨rg, 0, none⟩) n rc] X fun e w' => e = .returned (.bool true) ∧ Below X.heap.size X w'))
    (HOp : Hid (∀ X, Below w.heap.size w X → Calls Try.prog 46 #[heapV (.slice (some ⟨b, off, none⟩) N cap) h] X fun e w' => ∃ bm bw cap' : Nat, e = .returned (.pointer (some ⟨bm, 0, none⟩)) ∧ Wk X bm bw N cap' s0 false w' ∧ X.heap.size ≤ bm ∧ X.heap.size ≤ bw))
    (HFl : Hid (∀ (X w0 : World) (bm bw cap' g c : Nat), Wk w0 bm bw N cap' s0 false X → g ≠ bm → g ≠ bw → CellRow 3 X g n (intCells xs) → Calls Try.prog 49 #[.pointer (some ⟨bm, 0, none⟩), .slice (some ⟨g, 0, none⟩) n c] X (SMovesPost X bm bw N cap' g n o))) :
    Calls Try.prog 18 #[heapV (.slice (some ⟨b, off, none⟩) N cap) h, .slice (some ⟨rg, 0, none⟩) n rc] w (FlipTold N n w o) := by
  obtain ⟨g1, g2, g3, g4, g5, g6, g7, g8, g9⟩ := h
  unfold heapV at *
  dsimp only at *
  obtain ⟨W0, hW0, hA, hR, k2⟩ := both_new w (.slice (some ⟨b, off, none⟩) N cap) ⟨g1, g2, g3, g4, g5, g6, g7, g8, g9⟩
  dsimp only at hW0
  have HW0 := hid hW0
  have HA := hid hA
  have HR := hid hR
  have HK2 := hid k2
  clear hW0 hA hR k2
  go_enter Try.func18, Try.ntmps18
  go_wp2_with fail
  rw [HW0.out]
  refine (HOk.out _ HK2.out).mono ?_
  rintro e W6 ⟨rfl, hb6⟩
  have HB6 := hid (HK2.out.trans (hb6.mono HK2.out.size))
  have HR6 := hid (HR.out.below hb6)
  have HA6 := hid (HA.out.below hb6)
  clear hb6 HW0 HA HR HK2 HOk
  obtain ⟨a0, a1, a2, a3, a4, a5, a6, a7, a8, a9⟩ := HA6.out.cells
  dsimp only at a0 a1 a2 a3 a4 a5 a6 a7 a8 a9
  go_wp2_with fail
  refine (HRt.out _ HB6.out).mono ?_
  rintro e W7 ⟨rfl, hb7⟩
  have HB7 := hid (HB6.out.trans (hb7.mono HB6.out.size))
  have HR7 := hid (HR6.out.below hb7)
  have HA7 := hid (HA6.out.below hb7)
  clear hb7 HB6 HR6 HA6 HRt a0 a1 a2 a3 a4 a5 a6 a7 a8 a9
  obtain ⟨a0, a1, a2, a3, a4, a5, a6, a7, a8, a9⟩ := HA7.out.cells
  dsimp only at a0 a1 a2 a3 a4 a5 a6 a7 a8 a9
  go_wp2_with fail
  refine (HOp.out _ HB7.out).mono ?_
  rintro e W8 ⟨bm, bw, cap', rfl, hW8, hlo, hlo2⟩
  have HW8 := hid hW8
  have hlt7 := heap_lt HR7.out
  have hk8 := hW8.frame.below hlo hlo2
  have HB8 := hid (HB7.out.trans (hk8.mono HB7.out.size))
  have hbmlt := heap_lt hW8.blk
  have hbwlt := hW8.row.lt
  clear hW8 HOp HA7 a0 a1 a2 a3 a4 a5 a6 a7 a8 a9
  obtain ⟨i0, hi, hz0, hz1, hz2⟩ := info_parts info_int
  have hE : (W8.alloc (.cells #[] 3)).heap[W8.heap.size]? = some (.cells #[] 3) := (MapKept.heap_alloc W8 _).1
  have k9 := (Below.refl W8.heap.size W8).alloc (Nat.le_refl _) (.cells #[] 3)
  have hsz9 : (W8.alloc (.cells #[] 3)).heap.size = W8.heap.size + 1 := by simp
  have HE := hid hE
  have HK9 := hid k9
  have HS9 := hid hsz9
  clear hE k9 hsz9
  go_wp2_with (first
    | (at_builtin; refine wpList_append_own _ rfl _ _ 23 rfl W8.heap.size 3 i0 (.int .i64 0) 1 8 Try.underlying23 hi hz0 hz1 hz2 rfl (by decide) (.slice (some ⟨W8.heap.size, 0, none⟩) 0 0) 0 [] rfl ⟨rfl, Or.inr ⟨W8.heap.size, 0, #[], rfl, by omega, HE.out, by omega, by decide, rfl, rfl⟩⟩ ⟨rg, 0, none⟩ n rc (xs.map (fun x => Value.int .i64 x)) rfl (by simp [hl]) (fun j u hu => ?_) (fun u hu => ?_) (by unfold maxLen; omega) (by omega) (by rw [HS9.out]; omega) ?_))
  · rw [List.getElem?_map] at hu
    obtain ⟨x, hx, rfl⟩ := Option.map_eq_some_iff.1 hu
    have hj : j < n := by have := (List.getElem?_eq_some_iff.1 hx).1; omega
    have hkw := HB8.out.trans (HK9.out.mono HB8.out.size)
    have e := (hkw.cell (p := ⟨rg, j, none⟩) (hrg (by omega))).trans (Hxs.out j hj)
    rw [show xs.getD j 0 = x by simp [List.getD, hx]] at e
    have ea : (⟨rg, 0, none⟩ : Addr).add j = ⟨rg, j, none⟩ := by
      unfold Addr.add
      split
      · simp_all
      · simp
    rw [ea]
    exact e
  · simp only [List.mem_map] at hu
    obtain ⟨x, _, rfl⟩ := hu
    rfl
  · intro v' W9 hown hgrow hnil
    obtain ⟨-, hh | ⟨g, gc, cur, rfl, hg, hcur, hcp, hcm, hcs, htk⟩⟩ := id hown
    · exact absurd hh.1 (by simpa using hnil)
    obtain ⟨hrow, hlow⟩ := row_of_owns hl hown
    have hb9 : Below W8.heap.size W8 W9 := Below.grown HK9.out hgrow (by rw [HS9.out]; omega) (fun j hj => by simp [Value.ownBlock] at hj; omega)
    have HW9 := hid (HW8.out.keep hb9)
    have hgm : g ≠ bm := by omega
    have hgw : g ≠ bw := by omega
    have HRw := hid hrow
    have HFl' := hid (HFl.out _ _ _ _ _ _ gc HW9.out hgm hgw hrow)
    have HF9 := hid HW9.out.frame
    have hg7 : W7.heap.size ≤ g := by have := HW8.out.frame.size; omega
    clear hown hgrow hnil hcur hcp hcm hcs htk hrow hb9 HFl HW8 HE HK9 HS9 HB8 hbmlt hbwlt hk8 HW9
    go_wp2_with fail
    refine HFl'.out.mono ?_
    rintro e W10 ⟨rfl, hf, hP⟩
    have HP := hid hP
    have HF10 := hid hf
    clear hP hf HFl' HRw
    have KB : Hid (Below w.heap.size w W10 ∧ HeapBlk W10 (w.heap.size + 1) (.slice none 0 0) ⟨0, 0, 0, 0, 0, 0, 0, 0, 0⟩) := by
      obtain ⟨f1, f2, f3, f4, f5⟩ := HF10.out
      have e1 : Below W7.heap.size W7 W10 := ⟨f1.trans HF9.out.os, f2.trans HF9.out.tape, f3.trans HF9.out.output, Nat.le_trans HF9.out.size f4, fun c hc => (f5 c (Nat.lt_of_lt_of_le hc HF9.out.size) (by omega) (by omega) (by omega)).trans (HF9.out.block c hc (by omega) (by omega))⟩
      exact ⟨HB7.out.trans (e1.mono HB7.out.size), HR7.out.below e1⟩
    have hsz7 := HB7.out.size
    have HB10 := hid KB.out.1
    have HR10 := hid KB.out.2
    obtain ⟨c0, c1, c2, c3, c4, c5, c6, c7, c8, c9⟩ := HR10.out.cells
    dsimp only at c0 c1 c2 c3 c4 c5 c6 c7 c8 c9
    have z0 := frozen_of_heap HR10.out 0
    have z1 := frozen_of_heap HR10.out 1
    have z2 := frozen_of_heap HR10.out 2
    have z3 := frozen_of_heap HR10.out 3
    have z4 := frozen_of_heap HR10.out 4
    have z5 := frozen_of_heap HR10.out 5
    have z6 := frozen_of_heap HR10.out 6
    have z7 := frozen_of_heap HR10.out 7
    have z8 := frozen_of_heap HR10.out 8
    have z9 := frozen_of_heap HR10.out 9
    clear KB HF9 HF10 HB7 HR7
    cases o with
    | none =>
      obtain ⟨⟨s1, hc, -⟩, -⟩ := HP.out
      have d10 := hc.blk.cells.2.2.2.2.2.2.2.2.2.2
      clear hc HP
      go_wp2_with fail
      refine heap_use HR10.out (.slice none 0 0) ⟨0, 0, 0, 0, 0, 0, 0, 0, 0⟩ _ ?_
      intro W11 hL hb11 _ _
      obtain ⟨y0, y1, y2, y3, y4, y5, y6, y7, y8, y9⟩ := hL.cells
      dsimp only at y0 y1 y2 y3 y4 y5 y6 y7 y8 y9
      exact bodyPost_ret (v := .tuple #[noHeap, .slice none 0 0, .bool false]) (by simp [results, Try.results18, go_sem, y0, y1, y2, y3, y4, y5, y6, y7, y8, y9, noHeap, heapV]) rfl ⟨rfl, HB10.out.trans (hb11 _ (Nat.le_succ _))⟩
    | some p =>
      obtain ⟨ys, s1⟩ := p
      obtain ⟨hc, hry⟩ := HP.out
      have HW10 := hid hc
      have HRy := hid hry
      obtain ⟨d0, d1, d2, d3, d4, d5, d6, d7, d8, d9, d10⟩ := hc.blk.cells
      obtain ⟨tau, htau⟩ : ∃ tau, touchZ s1 = tau := ⟨_, rfl⟩
      rw [htau] at d9
      have HTau := hid htau
      clear htau hc hry HP
      go_wp2_with fail
      refine heap_use HR10.out (.slice (some ⟨bw, 0, none⟩) N cap') ⟨s1.h.size, s1.h.to, s1.h.bottom, s1.h.top, s1.h.scan, s1.h.fb, s1.h.ft, s1.h.flips, tau⟩ _ ?_
      intro W11 hL hb11 _ hoth
      obtain ⟨y0, y1, y2, y3, y4, y5, y6, y7, y8, y9⟩ := hL.cells
      dsimp only at y0 y1 y2 y3 y4 y5 y6 y7 y8 y9
      refine bodyPost_ret (v := .tuple #[heapV (.slice (some ⟨bw, 0, none⟩) N cap') ⟨s1.h.size, s1.h.to, s1.h.bottom, s1.h.top, s1.h.scan, s1.h.fb, s1.h.ft, s1.h.flips, tau⟩, .slice (some ⟨g, 0, none⟩) n gc, .bool true]) (by simp [results, Try.results18, go_sem, y0, y1, y2, y3, y4, y5, y6, y7, y8, y9, heapV]) rfl ?_
      exact ⟨bw, cap', g, gc, by rw [HTau.out], HW10.out.row.of_block (hoth _ (by omega)), HRy.out.of_block (hoth _ (by omega)), hgw, by omega, by omega, HB10.out.trans (hb11 _ (Nat.le_succ _))⟩

end Go.Proofs.Ytebpgglegnljgaa

/- HeapFlip: both sides answer the same, whatever they are given. -/
namespace Go.Proofs.Ytebpgglegnljgaa
open Go.RowKit

/-- A heap, a list and a bool are told; the heap's words and the list are new, and apart. -/
def ToldF (W : World) (ans : List Int) (H : HpN) (ys : List Int) (ok : Bool) (e : Ending) (w' : World) : Prop :=
  (∃ v u, e = .returned (.tuple #[heapV v H, u, .bool ok]) ∧ SliceR 3 1 W.heap.size w' v ans.length (intCells ans) ∧ SliceR 3 1 W.heap.size w' u ys.length (intCells ys) ∧ (ans.length ≠ 0 → ys.length ≠ 0 → u.ownBlock ≠ v.ownBlock)) ∧ Below W.heap.size W w'

theorem toldF_none {W w' : World} {e : Ending} (h : e = .returned (.tuple #[noHeap, .slice none 0 0, .bool false]) ∧ Below W.heap.size W w') : ToldF W [] ⟨0, 0, 0, 0, 0, 0, 0, 0, 0⟩ [] false e w' :=
  ⟨⟨_, _, h.1, ⟨none, 0, rfl, Or.inl rfl⟩, ⟨none, 0, rfl, Or.inl rfl⟩, fun h => absurd rfl h⟩, h.2⟩

theorem toldF_some {N n : Nat} {W w' : World} {ys : List Int} {s : CN} {e : Ending} (hl : s.ws.length = N) (hn : ys.length = n) (h : FlipTold N n W (some (ys, s)) e w') : ToldF W s.ws { s.h with touched := touchZ s } ys true e w' := by
  obtain ⟨bw, cap, g, c, rfl, hr, hr2, hne, hlow, hlow2, hb⟩ := h
  subst hl
  subst hn
  exact ⟨⟨_, _, rfl, ⟨some ⟨bw, 0, none⟩, cap, rfl, Or.inr ⟨bw, rfl, hlow, by rw [Nat.mul_one]; exact hr⟩⟩, ⟨some ⟨g, 0, none⟩, c, rfl, Or.inr ⟨g, rfl, hlow2, by rw [Nat.mul_one]; exact hr2⟩⟩, fun _ _ => by simp [Value.ownBlock]; exact hne⟩, hb⟩

theorem flip_both (bs xs : List Int) (h : HpN) (ht : h.touched < 9223372036854775808) (hm : bs.length ≤ 1048576) (hx : xs.length ≤ 1048576) : ∃ ans H ys ok, ans.length ≤ 1048576 ∧ ys.length ≤ 1048576 ∧
    (∀ B g B2 rg W, SliceR 3 1 B W (.slice (some ⟨g, 0, none⟩) bs.length bs.length) bs.length (intCells bs) → SliceR 3 1 B2 W (.slice (some ⟨rg, 0, none⟩) xs.length xs.length) xs.length (intCells xs) → Calls Try.prog 18 #[heapV (.slice (some ⟨g, 0, none⟩) bs.length bs.length) h, .slice (some ⟨rg, 0, none⟩) xs.length xs.length] W (ToldF W ans H ys ok)) ∧
    (∀ B g B2 rg W, SliceR 3 1 B W (.slice (some ⟨g, 0, none⟩) bs.length bs.length) bs.length (intCells bs) → SliceR 3 1 B2 W (.slice (some ⟨rg, 0, none⟩) xs.length xs.length) xs.length (intCells xs) → Calls Try.prog 17 #[heapV (.slice (some ⟨g, 0, none⟩) bs.length bs.length) h, .slice (some ⟨rg, 0, none⟩) xs.length xs.length] W (ToldF W ans H ys ok)) := by
  by_cases ho : Ordered h bs.length
  case neg =>
    exact ⟨[], _, [], _, by simp, by simp, fun B g B2 rg W _ _ => (sFlip_notOk g 0 bs.length bs.length h rg xs.length xs.length W (fun X _ => specOk_bad _ _ _ h X hm ho)).mono (fun _ _ => toldF_none), fun B g B2 rg W _ _ => (iFlip_notOk g 0 bs.length bs.length h rg xs.length xs.length W (fun X _ => layOut_bad _ _ _ h X ho)).mono (fun _ _ => toldF_none)⟩
  obtain ⟨o1, o2, o3, o4, o5, o6, o7, o8, o9, o10, o11, o12, o13⟩ := id ho
  have hN0 : bs.length ≠ 0 := by omega
  have hN8 : bs.length ≤ 8000 := by omega
  have SOk : ∀ B g W, SliceR 3 1 B W (.slice (some ⟨g, 0, none⟩) bs.length bs.length) bs.length (intCells bs) → ∀ X, Below W.heap.size W X → Calls Try.prog 35 #[heapV (.slice (some ⟨g, 0, none⟩) bs.length bs.length) h] X fun e w' => e = .returned (.bool (specOk bs h)) ∧ Below X.heap.size X w' := fun B g W hs X hX =>
    specOk_calls g 0 bs.length bs.length bs h X rfl ho (row_kept hN0 hs hX).1 (row_kept hN0 hs hX).2
  have ILy : ∀ B g W, SliceR 3 1 B W (.slice (some ⟨g, 0, none⟩) bs.length bs.length) bs.length (intCells bs) → ∀ X, Below W.heap.size W X → Calls Try.prog 30 #[heapV (.slice (some ⟨g, 0, none⟩) bs.length bs.length) h] X (LayTold g 0 bs.length bs.length bs h X) := fun B g W hs X hX =>
    layOut_calls g 0 bs.length bs.length bs h X rfl ho (Nat.le_refl _) (row_kept hN0 hs hX).1 (row_kept hN0 hs hX).2
  cases hk : specOk bs h with
  | false =>
    have hki : implOk bs h = false := by rw [← ok_same ho]; exact hk
    rw [hk] at SOk
    refine ⟨[], _, [], _, by simp, by simp, fun B g B2 rg W hs _ => (sFlip_notOk g 0 bs.length bs.length h rg xs.length xs.length W (SOk B g W hs)).mono (fun _ _ => toldF_none), fun B g B2 rg W hs _ => (iFlip_notOk g 0 bs.length bs.length h rg xs.length xs.length W (fun X hX => (ILy B g W hs X hX).mono ?_)).mono (fun _ _ => toldF_none)⟩
    rintro e w' ⟨hres, hb'⟩
    rcases hres with ⟨_, e1⟩ | ⟨S, gb, _, e2, _⟩
    · exact ⟨e1, hb'⟩
    · rw [hki] at e2
      cases e2
  | true =>
    have hki : implOk bs h = true := by rw [← ok_same ho]; exact hk
    rw [hk] at SOk
    obtain ⟨S, ok⟩ := ok_facts ho hk
    have ILg : ∀ B g W, SliceR 3 1 B W (.slice (some ⟨g, 0, none⟩) bs.length bs.length) bs.length (intCells bs) → ∀ X, Below W.heap.size W X → Calls Try.prog 30 #[heapV (.slice (some ⟨g, 0, none⟩) bs.length bs.length) h] X fun e w' => ∃ gb, e = .returned (.tuple #[layV (.slice (some ⟨g, 0, none⟩) bs.length bs.length) h (.slice (some ⟨gb, 0, none⟩) bs.length bs.length), .bool true]) ∧ Hid (ISt g 0 gb bs.length bs S w') ∧ Below X.heap.size X w' := fun B g W hs X hX => (ILy B g W hs X hX).mono (by
      rintro e w' ⟨hres, hb'⟩
      rcases hres with ⟨e1, _⟩ | ⟨S', gb, e1, _, e2, _, e3⟩
      · rw [hki] at e1
        cases e1
      · rw [ok.impl] at e1
        cases e1
        exact ⟨gb, e2, e3, hb'⟩)
    by_cases hsc : h.scan = h.bottom
    case neg =>
      have hne : (h.scan != h.bottom) = true := by simpa using hsc
      exact ⟨[], _, [], _, by simp, by simp, fun B g B2 rg W hs _ => (sFlip_scan g 0 bs.length bs.length h rg xs.length xs.length W hne (SOk B g W hs)).mono (fun _ _ => toldF_none), fun B g B2 rg W hs _ => (iFlip_scan g 0 bs.length bs.length h rg xs.length xs.length W bs S hne hsc (ILg B g W hs)).mono (fun _ _ => toldF_none)⟩
    have heq : (h.scan != h.bottom) = false := by simpa using hsc
    have IRt : ∀ g B2 rg W, SliceR 3 1 B2 W (.slice (some ⟨rg, 0, none⟩) xs.length xs.length) xs.length (intCells xs) → ∀ (X : World) (gb : Nat), Below W.heap.size W X → ISt g 0 gb bs.length bs S X → Calls Try.prog 31 #[layV (.slice (some ⟨g, 0, none⟩) bs.length bs.length) h (.slice (some ⟨gb, 0, none⟩) bs.length bs.length), .slice (some ⟨rg, 0, none⟩) xs.length xs.length] X fun e w' => e = .returned (.bool (decide (xs.length ≤ 20) && implRoots S h xs)) ∧ Below X.heap.size X w' := fun g B2 rg W hr X gb hX hI => rootsOk_calls (some ⟨rg, 0, none⟩) xs.length g 0 bs.length gb bs.length bs S h xs X ho hI (hr.below hX).intSlice hx
    by_cases hn : xs.length ≤ 20
    case neg =>
      rw [decide_eq_false hn, Bool.false_and] at IRt
      exact ⟨[], _, [], _, by simp, by simp, fun B g B2 rg W hs _ => (sFlip_many g 0 bs.length bs.length h rg xs.length xs.length W heq (by omega) (SOk B g W hs)).mono (fun _ _ => toldF_none), fun B g B2 rg W hs hr => (iFlip_noRoot g 0 bs.length bs.length h rg xs.length xs.length W bs S heq (ILg B g W hs) (IRt g B2 rg W hr)).mono (fun _ _ => toldF_none)⟩
    have hn2 : ¬ (20 : Int) < (xs.length : Int) := by omega
    rw [decide_eq_true hn, Bool.true_and] at IRt
    have SRt : ∀ B g B2 rg W, SliceR 3 1 B W (.slice (some ⟨g, 0, none⟩) bs.length bs.length) bs.length (intCells bs) → SliceR 3 1 B2 W (.slice (some ⟨rg, 0, none⟩) xs.length xs.length) xs.length (intCells xs) → ∀ X, Below W.heap.size W X → Calls Try.prog 36 #[heapV (.slice (some ⟨g, 0, none⟩) bs.length bs.length) h, .slice (some ⟨rg, 0, none⟩) xs.length xs.length] X fun e w' => e = .returned (.bool (specRoots bs S h xs)) ∧ Below X.heap.size X w' := fun B g B2 rg W hs hr X hX => specRoots_calls g 0 bs.length bs.length bs S h _ xs X rfl ho ok.spec (row_kept hN0 hs hX).1 (row_kept hN0 hs hX).2 (hr.below hX).intSlice hn
    have hsame : specRoots bs S h xs = implRoots S h xs := (roots_same ok xs).symm
    rw [hsame] at SRt
    cases hro : implRoots S h xs with
    | false =>
      rw [hro] at SRt IRt
      exact ⟨[], _, [], _, by simp, by simp, fun B g B2 rg W hs hr => (sFlip_noRoot g 0 bs.length bs.length h rg xs.length xs.length W heq hn2 (SOk B g W hs) (SRt B g B2 rg W hs hr)).mono (fun _ _ => toldF_none), fun B g B2 rg W hs hr => (iFlip_noRoot g 0 bs.length bs.length h rg xs.length xs.length W bs S heq (ILg B g W hs) (IRt g B2 rg W hr)).mono (fun _ _ => toldF_none)⟩
    | true =>
      rw [hro] at SRt IRt
      have ha : ∀ i, i < xs.length → Aim S (flipH h) bs.length (xs.getD i 0) := fun i hi => by
        unfold implRoots at hro
        rw [List.all_eq_true] at hro
        exact used_aim ok (hro i (List.mem_range.2 hi))
      have hst : Mvs S bs.length 0 ⟨bs, flipH h, 0, 0⟩ := mvs_start ok rfl rfl rfl (fun a _ hS => ((heads_noted ok.noted).2 a hS).2.2) (by omega) (by omega) (by omega) (by omega)
      have hrun := movesRun_mvs hst ha xs.length (Nat.le_refl _)
      have SOp : ∀ B g W, SliceR 3 1 B W (.slice (some ⟨g, 0, none⟩) bs.length bs.length) bs.length (intCells bs) → ∀ X, Below W.heap.size W X → Calls Try.prog 46 #[heapV (.slice (some ⟨g, 0, none⟩) bs.length bs.length) h] X fun e w' => ∃ bm bw cap' : Nat, e = .returned (.pointer (some ⟨bm, 0, none⟩)) ∧ Wk X bm bw bs.length cap' ⟨bs, h, 0, 0⟩ false w' ∧ X.heap.size ≤ bm ∧ X.heap.size ≤ bw := fun B g W hs X hX => open_calls g 0 bs.length bs.length bs h X (by omega) rfl hN8 (row_kept hN0 hs hX).1 (row_kept hN0 hs hX).2 o6 ht
      have IOp : ∀ B g W, SliceR 3 1 B W (.slice (some ⟨g, 0, none⟩) bs.length bs.length) bs.length (intCells bs) → ∀ X, Below W.heap.size W X → Calls Try.prog 42 #[heapV (.slice (some ⟨g, 0, none⟩) bs.length bs.length) h] X fun e w' => ∃ bc bw cap' : Nat, e = .returned (.pointer (some ⟨bc, 0, none⟩)) ∧ ColAt X bc bw bs.length cap' ⟨bs, h, 0, 0⟩ w' ∧ X.heap.size ≤ bc ∧ X.heap.size ≤ bw := fun B g W hs X hX => collectorOf_calls g 0 bs.length bs.length bs h X (by omega) rfl hN8 (row_kept hN0 hs hX).1 (row_kept hN0 hs hX).2
      have SFl : ∀ (X w0 : World) (bm bw cap' g c : Nat), Wk w0 bm bw bs.length cap' ⟨bs, h, 0, 0⟩ false X → g ≠ bm → g ≠ bw → CellRow 3 X g xs.length (intCells xs) → Calls Try.prog 49 #[.pointer (some ⟨bm, 0, none⟩), .slice (some ⟨g, 0, none⟩) xs.length c] X (SMovesPost X bm bw bs.length cap' g xs.length (movesRun xs xs.length ⟨bs, flipH h, 0, 0⟩)) := fun X w0 bm bw cap' g c hX h1 h2 hr => sflip_calls hX (show 0 ≤ h.to by omega) (show h.to ≤ h.size by omega) o2 hst xs rfl hn h1 h2 hr ha
      have IFl : ∀ (X w0 : World) (bc bw cap' g c : Nat), ColAt w0 bc bw bs.length cap' ⟨bs, h, 0, 0⟩ X → g ≠ bc → g ≠ bw → CellRow 3 X g xs.length (intCells xs) → Calls Try.prog 48 #[.pointer (some ⟨bc, 0, none⟩), .slice (some ⟨g, 0, none⟩) xs.length c] X (MovesPost X bc bw bs.length cap' g xs.length (movesRun xs xs.length ⟨bs, flipH h, 0, 0⟩)) := fun X w0 bc bw cap' g c hX h1 h2 hr => change_calls ⟨bs, h, 0, 0⟩ hX (show 0 ≤ h.to by omega) (show h.to ≤ h.size by omega) o2 hst xs rfl hn h1 h2 hr ha
      have HCs : ∀ B2 rg W, SliceR 3 1 B2 W (.slice (some ⟨rg, 0, none⟩) xs.length xs.length) xs.length (intCells xs) → ∀ X, Below W.heap.size W X → ∀ k, k < xs.length → rg < X.heap.size ∧ X.cell? ⟨rg, 0 + k, none⟩ = some (.int .i64 (xs.getD k 0)) := fun B2 rg W hr X hX k hk => ⟨(row_kept (by omega) hr hX).1, (row_kept (by omega) hr hX).2 k hk⟩
      have sS := fun B g B2 rg W hs hr => sFlip_good g 0 bs.length bs.length h rg xs.length xs.length W heq hn2 xs rfl (fun h0 => (HCs B2 rg W hr W (Below.refl _ _) 0 h0).1) (fun k hk => by have e := (HCs B2 rg W hr W (Below.refl _ _) k hk).2; rw [Nat.zero_add] at e; exact e) ⟨bs, h, 0, 0⟩ _ (SOk B g W hs) (SRt B g B2 rg W hs hr) (SOp B g W hs) SFl
      have sI := fun B g B2 rg W hs hr => iFlip_good g 0 bs.length bs.length h rg xs.length xs.length W bs S xs heq ⟨bs, h, 0, 0⟩ _ (ILg B g W hs) (IRt g B2 rg W hr) (IOp B g W hs) (fun X hX => clone_row rg xs.length xs.length xs X rfl hn (fun k hk => (HCs B2 rg W hr X hX k hk).2)) IFl (fun ys s1 X w0 bc bw cap' _ hX => by
        have e := told_calls hX
        rw [touch_same] at e
        exact e)
      cases hr : movesRun xs xs.length ⟨bs, flipH h, 0, 0⟩ with
      | none =>
        rw [hr] at sS sI
        exact ⟨[], _, [], _, by simp, by simp, fun B g B2 rg W hs hr => (sS B g B2 rg W hs hr).mono (fun _ _ => toldF_none), fun B g B2 rg W hs hr => (sI B g B2 rg W hs hr).mono (fun _ _ => toldF_none)⟩
      | some p =>
        obtain ⟨ys, s1⟩ := p
        rw [hr] at sS sI
        obtain ⟨c1, hl, -⟩ := hrun ys s1 hr
        have hl1 := c1.len
        exact ⟨s1.ws, _, ys, _, by omega, by omega, fun B g B2 rg W hs hr => (sS B g B2 rg W hs hr).mono (fun _ _ h => toldF_some hl1 hl h), fun B g B2 rg W hs hr => (sI B g B2 rg W hs hr).mono (fun _ _ h => toldF_some hl1 hl h)⟩
end Go.Proofs.Ytebpgglegnljgaa

/- The program's HeapField: what is refused. -/
namespace Go.Proofs.Ytebpgglegnljgaa
open Go.RowKit

set_option maxHeartbeats 8000000 in
set_option maxRecDepth 100000 in
theorem iField_notOk (b off cap N : Nat) (h : HpN) (x i : Int) (w : World)
    (HLy : Hid (∀ X, Below w.heap.size w X → Calls Try.prog 30 #[heapV (.slice (some ⟨b, off, none⟩) N cap) h] X fun e w' => e = .returned (.tuple #[noLay, .bool false]) ∧ Below X.heap.size X w')) :
    Calls Try.prog 21 #[heapV (.slice (some ⟨b, off, none⟩) N cap) h, .int .i64 x, .int .i64 i] w fun e w' => e = .returned (.tuple #[noHeap, .int .i64 0, .bool false]) ∧ Below w.heap.size w w' := by
  obtain ⟨g1, g2, g3, g4, g5, g6, g7, g8, g9⟩ := h
  unfold heapV at *
  dsimp only at *
  obtain ⟨W0, hW0, hA, hR, k2⟩ := both_new w (.slice (some ⟨b, off, none⟩) N cap) ⟨g1, g2, g3, g4, g5, g6, g7, g8, g9⟩
  dsimp only at hW0
  have HW0 := hid hW0
  have HA := hid hA
  have HR := hid hR
  have HK2 := hid k2
  clear hW0 hA hR k2
  go_enter Try.func21, Try.ntmps21
  go_wp2_with fail
  rw [HW0.out]
  refine (HLy.out _ HK2.out).mono ?_
  rintro e W1 ⟨rfl, hb1⟩
  unfold noLay layV
  dsimp only
  have k1 := HK2.out.trans (hb1.mono HK2.out.size)
  have HB2 := hid (k1.alloc k1.size (.cells #[.slice none 0 0, .int .i64 0, .int .i64 0, .int .i64 0, .int .i64 0, .int .i64 0, .int .i64 0, .int .i64 0, .int .i64 0, .int .i64 0, .slice none 0 0] 58))
  have HR2 := hid ((HR.out.below hb1).below ((Below.refl _ W1).alloc (Nat.le_refl _) (.cells #[.slice none 0 0, .int .i64 0, .int .i64 0, .int .i64 0, .int .i64 0, .int .i64 0, .int .i64 0, .int .i64 0, .int .i64 0, .int .i64 0, .slice none 0 0] 58)))
  clear k1 hb1 HW0 HA HR HK2 HLy
  go_wp2_with fail
  generalize W1.alloc (.cells #[.slice none 0 0, .int .i64 0, .int .i64 0, .int .i64 0, .int .i64 0, .int .i64 0, .int .i64 0, .int .i64 0, .int .i64 0, .int .i64 0, .slice none 0 0] 58) = W2 at *
  refine wp_region_calm W2.heap.size (by kernel_rfl) (by kernel_rfl) ?_
  repeat (go_big_quiet_step (fail))
  refine wpQuiet_nil ?_
  rintro w6 ⟨y, rfl⟩
  have HB6 := hid (HB2.out.trans (y.h.mono HB2.out.size))
  have HR6 := hid (HR2.out.below y.h)
  generalize y.w = W6 at *
  obtain ⟨c0, c1, c2, c3, c4, c5, c6, c7, c8, c9⟩ := HR6.out.cells
  dsimp only at c0 c1 c2 c3 c4 c5 c6 c7 c8 c9
  have z0 := frozen_of_heap HR6.out 0
  have z1 := frozen_of_heap HR6.out 1
  have z2 := frozen_of_heap HR6.out 2
  have z3 := frozen_of_heap HR6.out 3
  have z4 := frozen_of_heap HR6.out 4
  have z5 := frozen_of_heap HR6.out 5
  have z6 := frozen_of_heap HR6.out 6
  have z7 := frozen_of_heap HR6.out 7
  have z8 := frozen_of_heap HR6.out 8
  have z9 := frozen_of_heap HR6.out 9
  go_wp2_with fail
  refine heap_use HR6.out (.slice none 0 0) ⟨0, 0, 0, 0, 0, 0, 0, 0, 0⟩ _ ?_
  intro W7 hL hb7 _ _
  obtain ⟨y0, y1, y2, y3, y4, y5, y6, y7, y8, y9⟩ := hL.cells
  dsimp only at y0 y1 y2 y3 y4 y5 y6 y7 y8 y9
  exact bodyPost_ret (v := .tuple #[noHeap, .int .i64 0, .bool false]) (by simp [results, Try.results21, go_sem, y0, y1, y2, y3, y4, y5, y6, y7, y8, y9, noHeap, heapV]) rfl ⟨rfl, HB6.out.trans (hb7 _ (Nat.le_succ _))⟩

set_option maxHeartbeats 8000000 in
set_option maxRecDepth 100000 in
theorem iField_noRoot (b off cap N : Nat) (h : HpN) (x i : Int) (w : World)
    (ws S : List Int)
    (HLy : Hid (∀ X, Below w.heap.size w X → Calls Try.prog 30 #[heapV (.slice (some ⟨b, off, none⟩) N cap) h] X fun e w' => ∃ gb, e = .returned (.tuple #[layV (.slice (some ⟨b, off, none⟩) N cap) h (.slice (some ⟨gb, 0, none⟩) N N), .bool true]) ∧ Hid (ISt b off gb N ws S w') ∧ Below X.heap.size X w'))
    (HLd : Hid (∀ (X : World) (gb : Nat), ISt b off gb N ws S X → Calls Try.prog 51 #[layV (.slice (some ⟨b, off, none⟩) N cap) h (.slice (some ⟨gb, 0, none⟩) N N), .int .i64 x, .int .i64 h.to] X fun e w' => e = .returned (.bool false) ∧ Below X.heap.size X w')) :
    Calls Try.prog 21 #[heapV (.slice (some ⟨b, off, none⟩) N cap) h, .int .i64 x, .int .i64 i] w fun e w' => e = .returned (.tuple #[noHeap, .int .i64 0, .bool false]) ∧ Below w.heap.size w w' := by
  obtain ⟨g1, g2, g3, g4, g5, g6, g7, g8, g9⟩ := h
  unfold heapV at *
  dsimp only at *
  obtain ⟨W0, hW0, hA, hR, k2⟩ := both_new w (.slice (some ⟨b, off, none⟩) N cap) ⟨g1, g2, g3, g4, g5, g6, g7, g8, g9⟩
  dsimp only at hW0
  have HW0 := hid hW0
  have HA := hid hA
  have HR := hid hR
  have HK2 := hid k2
  clear hW0 hA hR k2
  go_enter Try.func21, Try.ntmps21
  go_wp2_with fail
  rw [HW0.out]
  refine (HLy.out _ HK2.out).mono ?_
  rintro e W1 ⟨gb, rfl, HI, hb1⟩
  unfold layV at *
  dsimp only at *
  have k1 := HK2.out.trans (hb1.mono HK2.out.size)
  have HB2 := hid (k1.alloc k1.size (.cells #[.slice (some ⟨b, off, none⟩) N cap, .int .i64 g1, .int .i64 g2, .int .i64 g3, .int .i64 g4, .int .i64 g5, .int .i64 g6, .int .i64 g7, .int .i64 g8, .int .i64 g9, .slice (some ⟨gb, 0, none⟩) N N] 58))
  have HR2 := hid ((HR.out.below hb1).below ((Below.refl _ W1).alloc (Nat.le_refl _) (.cells #[.slice (some ⟨b, off, none⟩) N cap, .int .i64 g1, .int .i64 g2, .int .i64 g3, .int .i64 g4, .int .i64 g5, .int .i64 g6, .int .i64 g7, .int .i64 g8, .int .i64 g9, .slice (some ⟨gb, 0, none⟩) N N] 58)))
  have HA2 := hid ((HA.out.below hb1).below ((Below.refl _ W1).alloc (Nat.le_refl _) (.cells #[.slice (some ⟨b, off, none⟩) N cap, .int .i64 g1, .int .i64 g2, .int .i64 g3, .int .i64 g4, .int .i64 g5, .int .i64 g6, .int .i64 g7, .int .i64 g8, .int .i64 g9, .slice (some ⟨gb, 0, none⟩) N N] 58)))
  have HI2 := hid (HI.out.kept ((Below.refl _ W1).alloc (Nat.le_refl _) (.cells #[.slice (some ⟨b, off, none⟩) N cap, .int .i64 g1, .int .i64 g2, .int .i64 g3, .int .i64 g4, .int .i64 g5, .int .i64 g6, .int .i64 g7, .int .i64 g8, .int .i64 g9, .slice (some ⟨gb, 0, none⟩) N N] 58)))
  have hLB := LayBlk.new W1 (.slice (some ⟨b, off, none⟩) N cap) ⟨g1, g2, g3, g4, g5, g6, g7, g8, g9⟩ (.slice (some ⟨gb, 0, none⟩) N N)
  dsimp only at hLB
  clear k1 hb1 HW0 HA HR HK2 HLy HI
  go_wp2_with fail
  generalize W1.alloc (.cells #[.slice (some ⟨b, off, none⟩) N cap, .int .i64 g1, .int .i64 g2, .int .i64 g3, .int .i64 g4, .int .i64 g5, .int .i64 g6, .int .i64 g7, .int .i64 g8, .int .i64 g9, .slice (some ⟨gb, 0, none⟩) N N] 58) = W2 at *
  obtain ⟨v0, v1, v2, v3, v4, v5, v6, v7, v8, v9, v10⟩ := hLB.later (B := W2.heap.size) (heap_lt hLB)
  dsimp only at v0 v1 v2 v3 v4 v5 v6 v7 v8 v9 v10
  have HLB := hid hLB
  clear hLB
  refine wp_region_calm W2.heap.size (by kernel_rfl) (by kernel_rfl) ?_
  repeat (go_big_quiet_step (first | (rename_i y; go_at_call 51; refine (HLd.out _ _ (HI2.out.kept y.h)).mono ?_; rintro e w5 ⟨rfl, hb5⟩; exact ⟨rfl, ⟨w5, y.h.trans (hb5.mono y.h.size)⟩, rfl⟩)))
  refine wpQuiet_nil ?_
  rintro w6 ⟨y, rfl⟩
  have HB6 := hid (HB2.out.trans (y.h.mono HB2.out.size))
  have HR6 := hid (HR2.out.below y.h)
  have HA6 := hid (HA2.out.below y.h)
  have HI6 := hid (HI2.out.kept y.h)
  clear v0 v1 v2 v3 v4 v5 v6 v7 v8 v9 v10
  generalize y.w = W6 at *
  obtain ⟨c0, c1, c2, c3, c4, c5, c6, c7, c8, c9⟩ := HR6.out.cells
  dsimp only at c0 c1 c2 c3 c4 c5 c6 c7 c8 c9
  have z0 := frozen_of_heap HR6.out 0
  have z1 := frozen_of_heap HR6.out 1
  have z2 := frozen_of_heap HR6.out 2
  have z3 := frozen_of_heap HR6.out 3
  have z4 := frozen_of_heap HR6.out 4
  have z5 := frozen_of_heap HR6.out 5
  have z6 := frozen_of_heap HR6.out 6
  have z7 := frozen_of_heap HR6.out 7
  have z8 := frozen_of_heap HR6.out 8
  have z9 := frozen_of_heap HR6.out 9
  go_wp2_with fail
  refine heap_use HR6.out (.slice none 0 0) ⟨0, 0, 0, 0, 0, 0, 0, 0, 0⟩ _ ?_
  intro W7 hL hb7 _ _
  obtain ⟨y0, y1, y2, y3, y4, y5, y6, y7, y8, y9⟩ := hL.cells
  dsimp only at y0 y1 y2 y3 y4 y5 y6 y7 y8 y9
  exact bodyPost_ret (v := .tuple #[noHeap, .int .i64 0, .bool false]) (by simp [results, Try.results21, go_sem, y0, y1, y2, y3, y4, y5, y6, y7, y8, y9, noHeap, heapV]) rfl ⟨rfl, HB6.out.trans (hb7 _ (Nat.le_succ _))⟩

set_option maxHeartbeats 8000000 in
set_option maxRecDepth 100000 in
theorem iField_below (b off cap N : Nat) (h : HpN) (x i : Int) (w : World)
    (ws S : List Int) (hi : i < 0)
    (HLy : Hid (∀ X, Below w.heap.size w X → Calls Try.prog 30 #[heapV (.slice (some ⟨b, off, none⟩) N cap) h] X fun e w' => ∃ gb, e = .returned (.tuple #[layV (.slice (some ⟨b, off, none⟩) N cap) h (.slice (some ⟨gb, 0, none⟩) N N), .bool true]) ∧ Hid (ISt b off gb N ws S w') ∧ Below X.heap.size X w'))
    (HLd : Hid (∀ (X : World) (gb : Nat), ISt b off gb N ws S X → Calls Try.prog 51 #[layV (.slice (some ⟨b, off, none⟩) N cap) h (.slice (some ⟨gb, 0, none⟩) N N), .int .i64 x, .int .i64 h.to] X fun e w' => e = .returned (.bool true) ∧ Below X.heap.size X w')) :
    Calls Try.prog 21 #[heapV (.slice (some ⟨b, off, none⟩) N cap) h, .int .i64 x, .int .i64 i] w fun e w' => e = .returned (.tuple #[noHeap, .int .i64 0, .bool false]) ∧ Below w.heap.size w w' := by
  obtain ⟨g1, g2, g3, g4, g5, g6, g7, g8, g9⟩ := h
  unfold heapV at *
  dsimp only at *
  obtain ⟨W0, hW0, hA, hR, k2⟩ := both_new w (.slice (some ⟨b, off, none⟩) N cap) ⟨g1, g2, g3, g4, g5, g6, g7, g8, g9⟩
  dsimp only at hW0
  have HW0 := hid hW0
  have HA := hid hA
  have HR := hid hR
  have HK2 := hid k2
  clear hW0 hA hR k2
  go_enter Try.func21, Try.ntmps21
  go_wp2_with fail
  rw [HW0.out]
  refine (HLy.out _ HK2.out).mono ?_
  rintro e W1 ⟨gb, rfl, HI, hb1⟩
  unfold layV at *
  dsimp only at *
  have k1 := HK2.out.trans (hb1.mono HK2.out.size)
  have HB2 := hid (k1.alloc k1.size (.cells #[.slice (some ⟨b, off, none⟩) N cap, .int .i64 g1, .int .i64 g2, .int .i64 g3, .int .i64 g4, .int .i64 g5, .int .i64 g6, .int .i64 g7, .int .i64 g8, .int .i64 g9, .slice (some ⟨gb, 0, none⟩) N N] 58))
  have HR2 := hid ((HR.out.below hb1).below ((Below.refl _ W1).alloc (Nat.le_refl _) (.cells #[.slice (some ⟨b, off, none⟩) N cap, .int .i64 g1, .int .i64 g2, .int .i64 g3, .int .i64 g4, .int .i64 g5, .int .i64 g6, .int .i64 g7, .int .i64 g8, .int .i64 g9, .slice (some ⟨gb, 0, none⟩) N N] 58)))
  have HA2 := hid ((HA.out.below hb1).below ((Below.refl _ W1).alloc (Nat.le_refl _) (.cells #[.slice (some ⟨b, off, none⟩) N cap, .int .i64 g1, .int .i64 g2, .int .i64 g3, .int .i64 g4, .int .i64 g5, .int .i64 g6, .int .i64 g7, .int .i64 g8, .int .i64 g9, .slice (some ⟨gb, 0, none⟩) N N] 58)))
  have HI2 := hid (HI.out.kept ((Below.refl _ W1).alloc (Nat.le_refl _) (.cells #[.slice (some ⟨b, off, none⟩) N cap, .int .i64 g1, .int .i64 g2, .int .i64 g3, .int .i64 g4, .int .i64 g5, .int .i64 g6, .int .i64 g7, .int .i64 g8, .int .i64 g9, .slice (some ⟨gb, 0, none⟩) N N] 58)))
  have hLB := LayBlk.new W1 (.slice (some ⟨b, off, none⟩) N cap) ⟨g1, g2, g3, g4, g5, g6, g7, g8, g9⟩ (.slice (some ⟨gb, 0, none⟩) N N)
  dsimp only at hLB
  clear k1 hb1 HW0 HA HR HK2 HLy HI
  go_wp2_with fail
  generalize W1.alloc (.cells #[.slice (some ⟨b, off, none⟩) N cap, .int .i64 g1, .int .i64 g2, .int .i64 g3, .int .i64 g4, .int .i64 g5, .int .i64 g6, .int .i64 g7, .int .i64 g8, .int .i64 g9, .slice (some ⟨gb, 0, none⟩) N N] 58) = W2 at *
  obtain ⟨v0, v1, v2, v3, v4, v5, v6, v7, v8, v9, v10⟩ := hLB.later (B := W2.heap.size) (heap_lt hLB)
  dsimp only at v0 v1 v2 v3 v4 v5 v6 v7 v8 v9 v10
  have HLB := hid hLB
  clear hLB
  refine wp_region_calm W2.heap.size (by kernel_rfl) (by kernel_rfl) ?_
  repeat (go_big_quiet_step (first | (rename_i y; go_at_call 51; refine (HLd.out _ _ (HI2.out.kept y.h)).mono ?_; rintro e w5 ⟨rfl, hb5⟩; exact ⟨rfl, ⟨w5, y.h.trans (hb5.mono y.h.size)⟩, rfl⟩)))
  refine wpQuiet_nil ?_
  rintro w6 ⟨y, rfl⟩
  have HB6 := hid (HB2.out.trans (y.h.mono HB2.out.size))
  have HR6 := hid (HR2.out.below y.h)
  have HA6 := hid (HA2.out.below y.h)
  have HI6 := hid (HI2.out.kept y.h)
  clear v0 v1 v2 v3 v4 v5 v6 v7 v8 v9 v10
  generalize y.w = W6 at *
  obtain ⟨c0, c1, c2, c3, c4, c5, c6, c7, c8, c9⟩ := HR6.out.cells
  dsimp only at c0 c1 c2 c3 c4 c5 c6 c7 c8 c9
  have z0 := frozen_of_heap HR6.out 0
  have z1 := frozen_of_heap HR6.out 1
  have z2 := frozen_of_heap HR6.out 2
  have z3 := frozen_of_heap HR6.out 3
  have z4 := frozen_of_heap HR6.out 4
  have z5 := frozen_of_heap HR6.out 5
  have z6 := frozen_of_heap HR6.out 6
  have z7 := frozen_of_heap HR6.out 7
  have z8 := frozen_of_heap HR6.out 8
  have z9 := frozen_of_heap HR6.out 9
  go_wp2_with fail
  refine heap_use HR6.out (.slice none 0 0) ⟨0, 0, 0, 0, 0, 0, 0, 0, 0⟩ _ ?_
  intro W7 hL hb7 _ _
  obtain ⟨y0, y1, y2, y3, y4, y5, y6, y7, y8, y9⟩ := hL.cells
  dsimp only at y0 y1 y2 y3 y4 y5 y6 y7 y8 y9
  exact bodyPost_ret (v := .tuple #[noHeap, .int .i64 0, .bool false]) (by simp [results, Try.results21, go_sem, y0, y1, y2, y3, y4, y5, y6, y7, y8, y9, noHeap, heapV]) rfl ⟨rfl, HB6.out.trans (hb7 _ (Nat.le_succ _))⟩

set_option maxHeartbeats 8000000 in
set_option maxRecDepth 100000 in
theorem iField_past (b off cap N : Nat) (h : HpN) (x i : Int) (w : World)
    (ws S : List Int)
    (k : Nat) (hk : k < N) (n : Int) (HSk : Hid (S.getD k 0 = n)) (hn0 : 0 ≤ n) (hn1 : n ≤ 6) (hd : decide (i < 0) = false) (hi1 : n - 1 ≤ i)
    (HLy : Hid (∀ X, Below w.heap.size w X → Calls Try.prog 30 #[heapV (.slice (some ⟨b, off, none⟩) N cap) h] X fun e w' => ∃ gb, e = .returned (.tuple #[layV (.slice (some ⟨b, off, none⟩) N cap) h (.slice (some ⟨gb, 0, none⟩) N N), .bool true]) ∧ Hid (ISt b off gb N ws S w') ∧ Below X.heap.size X w'))
    (HLd : Hid (∀ (X : World) (gb : Nat), ISt b off gb N ws S X → Calls Try.prog 51 #[layV (.slice (some ⟨b, off, none⟩) N cap) h (.slice (some ⟨gb, 0, none⟩) N N), .int .i64 x, .int .i64 h.to] X fun e w' => e = .returned (.bool true) ∧ Below X.heap.size X w'))
    (HNum : Hid (∀ w, Calls Try.prog 52 #[.int .i64 x] w fun e w' => e = .returned (.int .i64 (k : Int)) ∧ w = w')) :
    Calls Try.prog 21 #[heapV (.slice (some ⟨b, off, none⟩) N cap) h, .int .i64 x, .int .i64 i] w fun e w' => e = .returned (.tuple #[noHeap, .int .i64 0, .bool false]) ∧ Below w.heap.size w w' := by
  obtain ⟨g1, g2, g3, g4, g5, g6, g7, g8, g9⟩ := h
  unfold heapV at *
  dsimp only at *
  obtain ⟨W0, hW0, hA, hR, k2⟩ := both_new w (.slice (some ⟨b, off, none⟩) N cap) ⟨g1, g2, g3, g4, g5, g6, g7, g8, g9⟩
  dsimp only at hW0
  have HW0 := hid hW0
  have HA := hid hA
  have HR := hid hR
  have HK2 := hid k2
  clear hW0 hA hR k2
  go_enter Try.func21, Try.ntmps21
  go_wp2_with fail
  rw [HW0.out]
  refine (HLy.out _ HK2.out).mono ?_
  rintro e W1 ⟨gb, rfl, HI, hb1⟩
  unfold layV at *
  dsimp only at *
  have k1 := HK2.out.trans (hb1.mono HK2.out.size)
  have HB2 := hid (k1.alloc k1.size (.cells #[.slice (some ⟨b, off, none⟩) N cap, .int .i64 g1, .int .i64 g2, .int .i64 g3, .int .i64 g4, .int .i64 g5, .int .i64 g6, .int .i64 g7, .int .i64 g8, .int .i64 g9, .slice (some ⟨gb, 0, none⟩) N N] 58))
  have HR2 := hid ((HR.out.below hb1).below ((Below.refl _ W1).alloc (Nat.le_refl _) (.cells #[.slice (some ⟨b, off, none⟩) N cap, .int .i64 g1, .int .i64 g2, .int .i64 g3, .int .i64 g4, .int .i64 g5, .int .i64 g6, .int .i64 g7, .int .i64 g8, .int .i64 g9, .slice (some ⟨gb, 0, none⟩) N N] 58)))
  have HA2 := hid ((HA.out.below hb1).below ((Below.refl _ W1).alloc (Nat.le_refl _) (.cells #[.slice (some ⟨b, off, none⟩) N cap, .int .i64 g1, .int .i64 g2, .int .i64 g3, .int .i64 g4, .int .i64 g5, .int .i64 g6, .int .i64 g7, .int .i64 g8, .int .i64 g9, .slice (some ⟨gb, 0, none⟩) N N] 58)))
  have HI2 := hid (HI.out.kept ((Below.refl _ W1).alloc (Nat.le_refl _) (.cells #[.slice (some ⟨b, off, none⟩) N cap, .int .i64 g1, .int .i64 g2, .int .i64 g3, .int .i64 g4, .int .i64 g5, .int .i64 g6, .int .i64 g7, .int .i64 g8, .int .i64 g9, .slice (some ⟨gb, 0, none⟩) N N] 58)))
  have hLB := LayBlk.new W1 (.slice (some ⟨b, off, none⟩) N cap) ⟨g1, g2, g3, g4, g5, g6, g7, g8, g9⟩ (.slice (some ⟨gb, 0, none⟩) N N)
  dsimp only at hLB
  clear k1 hb1 HW0 HA HR HK2 HLy HI
  go_wp2_with fail
  generalize W1.alloc (.cells #[.slice (some ⟨b, off, none⟩) N cap, .int .i64 g1, .int .i64 g2, .int .i64 g3, .int .i64 g4, .int .i64 g5, .int .i64 g6, .int .i64 g7, .int .i64 g8, .int .i64 g9, .slice (some ⟨gb, 0, none⟩) N N] 58) = W2 at *
  obtain ⟨v0, v1, v2, v3, v4, v5, v6, v7, v8, v9, v10⟩ := hLB.later (B := W2.heap.size) (heap_lt hLB)
  dsimp only at v0 v1 v2 v3 v4 v5 v6 v7 v8 v9 v10
  have HLB := hid hLB
  clear hLB
  have u1 : ∀ y : Later W2.heap.size W2, y.w.cell? ⟨gb, k, none⟩ = some (.int .i64 n) := fun y => by
    have e := y.cell (p := ⟨gb, 0 + k, none⟩) HI2.out.glt (HI2.out.sizes k hk)
    rw [Nat.zero_add, HSk.out] at e
    exact e
  refine wp_region_calm W2.heap.size (by kernel_rfl) (by kernel_rfl) ?_
  repeat (go_big_quiet_step (first | (rename_i y; go_at_call 51; refine (HLd.out _ _ (HI2.out.kept y.h)).mono ?_; rintro e w5 ⟨rfl, hb5⟩; exact ⟨rfl, ⟨w5, y.h.trans (hb5.mono y.h.size)⟩, rfl⟩) | (rename_i y; go_at_call 52; refine (HNum.out _).mono ?_; rintro e w5 ⟨rfl, rfl⟩; exact ⟨rfl, y, rfl⟩)))
  refine wpQuiet_nil ?_
  rintro w6 ⟨y, rfl⟩
  have HB6 := hid (HB2.out.trans (y.h.mono HB2.out.size))
  have HR6 := hid (HR2.out.below y.h)
  have HA6 := hid (HA2.out.below y.h)
  have HI6 := hid (HI2.out.kept y.h)
  clear u1 v0 v1 v2 v3 v4 v5 v6 v7 v8 v9 v10
  generalize y.w = W6 at *
  obtain ⟨c0, c1, c2, c3, c4, c5, c6, c7, c8, c9⟩ := HR6.out.cells
  dsimp only at c0 c1 c2 c3 c4 c5 c6 c7 c8 c9
  have z0 := frozen_of_heap HR6.out 0
  have z1 := frozen_of_heap HR6.out 1
  have z2 := frozen_of_heap HR6.out 2
  have z3 := frozen_of_heap HR6.out 3
  have z4 := frozen_of_heap HR6.out 4
  have z5 := frozen_of_heap HR6.out 5
  have z6 := frozen_of_heap HR6.out 6
  have z7 := frozen_of_heap HR6.out 7
  have z8 := frozen_of_heap HR6.out 8
  have z9 := frozen_of_heap HR6.out 9
  go_wp2_with fail
  refine heap_use HR6.out (.slice none 0 0) ⟨0, 0, 0, 0, 0, 0, 0, 0, 0⟩ _ ?_
  intro W7 hL hb7 _ _
  obtain ⟨y0, y1, y2, y3, y4, y5, y6, y7, y8, y9⟩ := hL.cells
  dsimp only at y0 y1 y2 y3 y4 y5 y6 y7 y8 y9
  exact bodyPost_ret (v := .tuple #[noHeap, .int .i64 0, .bool false]) (by simp [results, Try.results21, go_sem, y0, y1, y2, y3, y4, y5, y6, y7, y8, y9, noHeap, heapV]) rfl ⟨rfl, HB6.out.trans (hb7 _ (Nat.le_succ _))⟩

end Go.Proofs.Ytebpgglegnljgaa

/- The program's HeapField: what is read. -/
namespace Go.Proofs.Ytebpgglegnljgaa
open Go.RowKit

/-- A heap is told, and a field. -/
def FieldTold (N : Nat) (w : World) (ws : List Int) (h1 : HpN) (u : Int) (e : Ending) (w' : World) : Prop :=
  ∃ bw cap' : Nat, e = .returned (.tuple #[heapV (.slice (some ⟨bw, 0, none⟩) N cap') h1, .int .i64 u, .bool true]) ∧ CellRow 3 w' bw N (intCells ws) ∧ w.heap.size ≤ bw ∧ Below w.heap.size w w'

set_option maxHeartbeats 8000000 in
set_option maxRecDepth 100000 in
theorem iField_good (b off cap N : Nat) (h : HpN) (x i : Int) (w : World)
    (ws S : List Int)
    (k : Nat) (hk : k < N) (n : Int) (HSk : Hid (S.getD k 0 = n)) (hn0 : 0 ≤ n) (hn1 : n ≤ 6) (hd : decide (i < 0) = false) (hi1 : i < n - 1)
    (hN8 : N ≤ 8000) (hi0 : 0 ≤ i) (u : Int) (s0 s1 : CN) (h1 : HpN)
    (HLy : Hid (∀ X, Below w.heap.size w X → Calls Try.prog 30 #[heapV (.slice (some ⟨b, off, none⟩) N cap) h] X fun e w' => ∃ gb, e = .returned (.tuple #[layV (.slice (some ⟨b, off, none⟩) N cap) h (.slice (some ⟨gb, 0, none⟩) N N), .bool true]) ∧ Hid (ISt b off gb N ws S w') ∧ Below X.heap.size X w'))
    (HLd : Hid (∀ (X : World) (gb : Nat), ISt b off gb N ws S X → Calls Try.prog 51 #[layV (.slice (some ⟨b, off, none⟩) N cap) h (.slice (some ⟨gb, 0, none⟩) N N), .int .i64 x, .int .i64 h.to] X fun e w' => e = .returned (.bool true) ∧ Below X.heap.size X w'))
    (HNum : Hid (∀ w, Calls Try.prog 52 #[.int .i64 x] w fun e w' => e = .returned (.int .i64 (k : Int)) ∧ w = w'))
    (HOp : Hid (∀ X, Below w.heap.size w X → Calls Try.prog 42 #[heapV (.slice (some ⟨b, off, none⟩) N cap) h] X fun e w' => ∃ bc bw cap' : Nat, e = .returned (.pointer (some ⟨bc, 0, none⟩)) ∧ Col X bc bw N cap' s0.ws s0.h s0.r s0.t w' ∧ X.heap.size ≤ bc ∧ X.heap.size ≤ bw))
    (HFd : Hid (∀ (X w0 : World) (bc bw cap' : Nat), Col w0 bc bw N cap' s0.ws s0.h s0.r s0.t X → Calls Try.prog 53 #[.pointer (some ⟨bc, 0, none⟩), .int .i64 ((k : Int) + 1 + i)] X fun e w' => e = .returned (.tuple #[.int .i64 u, .bool true]) ∧ Col w0 bc bw N cap' s1.ws s1.h s1.r s1.t w'))
    (HTd : Hid (∀ (X w0 : World) (bc bw cap' : Nat), Col w0 bc bw N cap' s1.ws s1.h s1.r s1.t X → Calls Try.prog 45 #[.pointer (some ⟨bc, 0, none⟩)] X fun e w' => e = .returned (heapV (.slice (some ⟨bw, 0, none⟩) N cap') h1) ∧ Below X.heap.size X w')) :
    Calls Try.prog 21 #[heapV (.slice (some ⟨b, off, none⟩) N cap) h, .int .i64 x, .int .i64 i] w (FieldTold N w s1.ws h1 u) := by
  obtain ⟨g1, g2, g3, g4, g5, g6, g7, g8, g9⟩ := h
  unfold heapV at *
  dsimp only at *
  obtain ⟨W0, hW0, hA, hR, k2⟩ := both_new w (.slice (some ⟨b, off, none⟩) N cap) ⟨g1, g2, g3, g4, g5, g6, g7, g8, g9⟩
  dsimp only at hW0
  have HW0 := hid hW0
  have HA := hid hA
  have HR := hid hR
  have HK2 := hid k2
  clear hW0 hA hR k2
  go_enter Try.func21, Try.ntmps21
  go_wp2_with fail
  rw [HW0.out]
  refine (HLy.out _ HK2.out).mono ?_
  rintro e W1 ⟨gb, rfl, HI, hb1⟩
  unfold layV at *
  dsimp only at *
  have k1 := HK2.out.trans (hb1.mono HK2.out.size)
  have HB2 := hid (k1.alloc k1.size (.cells #[.slice (some ⟨b, off, none⟩) N cap, .int .i64 g1, .int .i64 g2, .int .i64 g3, .int .i64 g4, .int .i64 g5, .int .i64 g6, .int .i64 g7, .int .i64 g8, .int .i64 g9, .slice (some ⟨gb, 0, none⟩) N N] 58))
  have HR2 := hid ((HR.out.below hb1).below ((Below.refl _ W1).alloc (Nat.le_refl _) (.cells #[.slice (some ⟨b, off, none⟩) N cap, .int .i64 g1, .int .i64 g2, .int .i64 g3, .int .i64 g4, .int .i64 g5, .int .i64 g6, .int .i64 g7, .int .i64 g8, .int .i64 g9, .slice (some ⟨gb, 0, none⟩) N N] 58)))
  have HA2 := hid ((HA.out.below hb1).below ((Below.refl _ W1).alloc (Nat.le_refl _) (.cells #[.slice (some ⟨b, off, none⟩) N cap, .int .i64 g1, .int .i64 g2, .int .i64 g3, .int .i64 g4, .int .i64 g5, .int .i64 g6, .int .i64 g7, .int .i64 g8, .int .i64 g9, .slice (some ⟨gb, 0, none⟩) N N] 58)))
  have HI2 := hid (HI.out.kept ((Below.refl _ W1).alloc (Nat.le_refl _) (.cells #[.slice (some ⟨b, off, none⟩) N cap, .int .i64 g1, .int .i64 g2, .int .i64 g3, .int .i64 g4, .int .i64 g5, .int .i64 g6, .int .i64 g7, .int .i64 g8, .int .i64 g9, .slice (some ⟨gb, 0, none⟩) N N] 58)))
  have hLB := LayBlk.new W1 (.slice (some ⟨b, off, none⟩) N cap) ⟨g1, g2, g3, g4, g5, g6, g7, g8, g9⟩ (.slice (some ⟨gb, 0, none⟩) N N)
  dsimp only at hLB
  clear k1 hb1 HW0 HA HR HK2 HLy HI
  go_wp2_with fail
  generalize W1.alloc (.cells #[.slice (some ⟨b, off, none⟩) N cap, .int .i64 g1, .int .i64 g2, .int .i64 g3, .int .i64 g4, .int .i64 g5, .int .i64 g6, .int .i64 g7, .int .i64 g8, .int .i64 g9, .slice (some ⟨gb, 0, none⟩) N N] 58) = W2 at *
  obtain ⟨v0, v1, v2, v3, v4, v5, v6, v7, v8, v9, v10⟩ := hLB.later (B := W2.heap.size) (heap_lt hLB)
  dsimp only at v0 v1 v2 v3 v4 v5 v6 v7 v8 v9 v10
  have HLB := hid hLB
  clear hLB
  have u1 : ∀ y : Later W2.heap.size W2, y.w.cell? ⟨gb, k, none⟩ = some (.int .i64 n) := fun y => by
    have e := y.cell (p := ⟨gb, 0 + k, none⟩) HI2.out.glt (HI2.out.sizes k hk)
    rw [Nat.zero_add, HSk.out] at e
    exact e
  refine wp_region_calm W2.heap.size (by kernel_rfl) (by kernel_rfl) ?_
  repeat (go_big_quiet_step (first | (rename_i y; go_at_call 51; refine (HLd.out _ _ (HI2.out.kept y.h)).mono ?_; rintro e w5 ⟨rfl, hb5⟩; exact ⟨rfl, ⟨w5, y.h.trans (hb5.mono y.h.size)⟩, rfl⟩) | (rename_i y; go_at_call 52; refine (HNum.out _).mono ?_; rintro e w5 ⟨rfl, rfl⟩; exact ⟨rfl, y, rfl⟩)))
  refine wpQuiet_nil ?_
  rintro w6 ⟨y, rfl⟩
  have HB6 := hid (HB2.out.trans (y.h.mono HB2.out.size))
  have HR6 := hid (HR2.out.below y.h)
  have HA6 := hid (HA2.out.below y.h)
  have HI6 := hid (HI2.out.kept y.h)
  clear u1 v0 v1 v2 v3 v4 v5 v6 v7 v8 v9 v10
  generalize y.w = W6 at *
  obtain ⟨c0, c1, c2, c3, c4, c5, c6, c7, c8, c9⟩ := HA6.out.cells
  dsimp only at c0 c1 c2 c3 c4 c5 c6 c7 c8 c9
  go_wp2_with fail
  refine (HOp.out _ HB6.out).mono ?_
  rintro e W7 ⟨bc, bw, cap', rfl, hW7, hlo, hlo2⟩
  have HW7 := hid hW7
  have hlt6 := heap_lt HR6.out
  clear hW7 HOp HA6 c0 c1 c2 c3 c4 c5 c6 c7 c8 c9
  go_wp2_with fail
  refine (HNum.out _).mono ?_
  rintro e W7b ⟨rfl, rfl⟩
  go_wp2_with fail
  refine (HFd.out _ _ _ _ _ HW7.out).mono ?_
  rintro e W8 ⟨rfl, hW8⟩
  have HW8 := hid hW8
  clear hW8 HFd HW7
  obtain ⟨i1, i2, i3, i4, i5, i6, i7, i8, i9⟩ := h1
  dsimp only at HTd
  go_wp2_with fail
  refine (HTd.out _ _ _ _ _ HW8.out).mono ?_
  rintro e W9 ⟨rfl, hb9⟩
  have HW9 := hid (HW8.out.keep hb9)
  have HR9 := hid (HR6.out.below (HW9.out.frame.below hlo hlo2))
  have HB9 := hid (HB6.out.trans ((HW9.out.frame.below hlo hlo2).mono HB6.out.size))
  obtain ⟨c0, c1, c2, c3, c4, c5, c6, c7, c8, c9⟩ := HR9.out.cells
  dsimp only at c0 c1 c2 c3 c4 c5 c6 c7 c8 c9
  have z0 := frozen_of_heap HR9.out 0
  have z1 := frozen_of_heap HR9.out 1
  have z2 := frozen_of_heap HR9.out 2
  have z3 := frozen_of_heap HR9.out 3
  have z4 := frozen_of_heap HR9.out 4
  have z5 := frozen_of_heap HR9.out 5
  have z6 := frozen_of_heap HR9.out 6
  have z7 := frozen_of_heap HR9.out 7
  have z8 := frozen_of_heap HR9.out 8
  have z9 := frozen_of_heap HR9.out 9
  clear hb9 HTd HW8 HR6 HB6
  go_wp2_with fail
  refine heap_use HR9.out (.slice (some ⟨bw, 0, none⟩) N cap') ⟨i1, i2, i3, i4, i5, i6, i7, i8, i9⟩ _ ?_
  intro W10 hL hb10 _ hoth
  obtain ⟨y0, y1, y2, y3, y4, y5, y6, y7, y8, y9⟩ := hL.cells
  dsimp only at y0 y1 y2 y3 y4 y5 y6 y7 y8 y9
  exact bodyPost_ret (v := .tuple #[heapV (.slice (some ⟨bw, 0, none⟩) N cap') ⟨i1, i2, i3, i4, i5, i6, i7, i8, i9⟩, .int .i64 u, .bool true]) (by simp [results, Try.results21, go_sem, y0, y1, y2, y3, y4, y5, y6, y7, y8, y9, heapV]) rfl ⟨bw, cap', rfl, HW9.out.row.of_block (hoth _ (by omega)), by have := HB9.out.size; omega, HB9.out.trans (hb10 _ (Nat.le_succ _))⟩

set_option maxHeartbeats 8000000 in
set_option maxRecDepth 100000 in
theorem iField_full (b off cap N : Nat) (h : HpN) (x i : Int) (w : World)
    (ws S : List Int)
    (k : Nat) (hk : k < N) (n : Int) (HSk : Hid (S.getD k 0 = n)) (hn0 : 0 ≤ n) (hn1 : n ≤ 6) (hd : decide (i < 0) = false) (hi1 : i < n - 1)
    (hN8 : N ≤ 8000) (hi0 : 0 ≤ i) (s0 s1 : CN)
    (HLy : Hid (∀ X, Below w.heap.size w X → Calls Try.prog 30 #[heapV (.slice (some ⟨b, off, none⟩) N cap) h] X fun e w' => ∃ gb, e = .returned (.tuple #[layV (.slice (some ⟨b, off, none⟩) N cap) h (.slice (some ⟨gb, 0, none⟩) N N), .bool true]) ∧ Hid (ISt b off gb N ws S w') ∧ Below X.heap.size X w'))
    (HLd : Hid (∀ (X : World) (gb : Nat), ISt b off gb N ws S X → Calls Try.prog 51 #[layV (.slice (some ⟨b, off, none⟩) N cap) h (.slice (some ⟨gb, 0, none⟩) N N), .int .i64 x, .int .i64 h.to] X fun e w' => e = .returned (.bool true) ∧ Below X.heap.size X w'))
    (HNum : Hid (∀ w, Calls Try.prog 52 #[.int .i64 x] w fun e w' => e = .returned (.int .i64 (k : Int)) ∧ w = w'))
    (HOp : Hid (∀ X, Below w.heap.size w X → Calls Try.prog 42 #[heapV (.slice (some ⟨b, off, none⟩) N cap) h] X fun e w' => ∃ bc bw cap' : Nat, e = .returned (.pointer (some ⟨bc, 0, none⟩)) ∧ Col X bc bw N cap' s0.ws s0.h s0.r s0.t w' ∧ X.heap.size ≤ bc ∧ X.heap.size ≤ bw))
    (HFd : Hid (∀ (X w0 : World) (bc bw cap' : Nat), Col w0 bc bw N cap' s0.ws s0.h s0.r s0.t X → Calls Try.prog 53 #[.pointer (some ⟨bc, 0, none⟩), .int .i64 ((k : Int) + 1 + i)] X fun e w' => e = .returned (.tuple #[.int .i64 0, .bool false]) ∧ Col w0 bc bw N cap' s1.ws s1.h s1.r s1.t w')) :
    Calls Try.prog 21 #[heapV (.slice (some ⟨b, off, none⟩) N cap) h, .int .i64 x, .int .i64 i] w fun e w' => e = .returned (.tuple #[noHeap, .int .i64 0, .bool false]) ∧ Below w.heap.size w w' := by
  obtain ⟨g1, g2, g3, g4, g5, g6, g7, g8, g9⟩ := h
  unfold heapV at *
  dsimp only at *
  obtain ⟨W0, hW0, hA, hR, k2⟩ := both_new w (.slice (some ⟨b, off, none⟩) N cap) ⟨g1, g2, g3, g4, g5, g6, g7, g8, g9⟩
  dsimp only at hW0
  have HW0 := hid hW0
  have HA := hid hA
  have HR := hid hR
  have HK2 := hid k2
  clear hW0 hA hR k2
  go_enter Try.func21, Try.ntmps21
  go_wp2_with fail
  rw [HW0.out]
  refine (HLy.out _ HK2.out).mono ?_
  rintro e W1 ⟨gb, rfl, HI, hb1⟩
  unfold layV at *
  dsimp only at *
  have k1 := HK2.out.trans (hb1.mono HK2.out.size)
  have HB2 := hid (k1.alloc k1.size (.cells #[.slice (some ⟨b, off, none⟩) N cap, .int .i64 g1, .int .i64 g2, .int .i64 g3, .int .i64 g4, .int .i64 g5, .int .i64 g6, .int .i64 g7, .int .i64 g8, .int .i64 g9, .slice (some ⟨gb, 0, none⟩) N N] 58))
  have HR2 := hid ((HR.out.below hb1).below ((Below.refl _ W1).alloc (Nat.le_refl _) (.cells #[.slice (some ⟨b, off, none⟩) N cap, .int .i64 g1, .int .i64 g2, .int .i64 g3, .int .i64 g4, .int .i64 g5, .int .i64 g6, .int .i64 g7, .int .i64 g8, .int .i64 g9, .slice (some ⟨gb, 0, none⟩) N N] 58)))
  have HA2 := hid ((HA.out.below hb1).below ((Below.refl _ W1).alloc (Nat.le_refl _) (.cells #[.slice (some ⟨b, off, none⟩) N cap, .int .i64 g1, .int .i64 g2, .int .i64 g3, .int .i64 g4, .int .i64 g5, .int .i64 g6, .int .i64 g7, .int .i64 g8, .int .i64 g9, .slice (some ⟨gb, 0, none⟩) N N] 58)))
  have HI2 := hid (HI.out.kept ((Below.refl _ W1).alloc (Nat.le_refl _) (.cells #[.slice (some ⟨b, off, none⟩) N cap, .int .i64 g1, .int .i64 g2, .int .i64 g3, .int .i64 g4, .int .i64 g5, .int .i64 g6, .int .i64 g7, .int .i64 g8, .int .i64 g9, .slice (some ⟨gb, 0, none⟩) N N] 58)))
  have hLB := LayBlk.new W1 (.slice (some ⟨b, off, none⟩) N cap) ⟨g1, g2, g3, g4, g5, g6, g7, g8, g9⟩ (.slice (some ⟨gb, 0, none⟩) N N)
  dsimp only at hLB
  clear k1 hb1 HW0 HA HR HK2 HLy HI
  go_wp2_with fail
  generalize W1.alloc (.cells #[.slice (some ⟨b, off, none⟩) N cap, .int .i64 g1, .int .i64 g2, .int .i64 g3, .int .i64 g4, .int .i64 g5, .int .i64 g6, .int .i64 g7, .int .i64 g8, .int .i64 g9, .slice (some ⟨gb, 0, none⟩) N N] 58) = W2 at *
  obtain ⟨v0, v1, v2, v3, v4, v5, v6, v7, v8, v9, v10⟩ := hLB.later (B := W2.heap.size) (heap_lt hLB)
  dsimp only at v0 v1 v2 v3 v4 v5 v6 v7 v8 v9 v10
  have HLB := hid hLB
  clear hLB
  have u1 : ∀ y : Later W2.heap.size W2, y.w.cell? ⟨gb, k, none⟩ = some (.int .i64 n) := fun y => by
    have e := y.cell (p := ⟨gb, 0 + k, none⟩) HI2.out.glt (HI2.out.sizes k hk)
    rw [Nat.zero_add, HSk.out] at e
    exact e
  refine wp_region_calm W2.heap.size (by kernel_rfl) (by kernel_rfl) ?_
  repeat (go_big_quiet_step (first | (rename_i y; go_at_call 51; refine (HLd.out _ _ (HI2.out.kept y.h)).mono ?_; rintro e w5 ⟨rfl, hb5⟩; exact ⟨rfl, ⟨w5, y.h.trans (hb5.mono y.h.size)⟩, rfl⟩) | (rename_i y; go_at_call 52; refine (HNum.out _).mono ?_; rintro e w5 ⟨rfl, rfl⟩; exact ⟨rfl, y, rfl⟩)))
  refine wpQuiet_nil ?_
  rintro w6 ⟨y, rfl⟩
  have HB6 := hid (HB2.out.trans (y.h.mono HB2.out.size))
  have HR6 := hid (HR2.out.below y.h)
  have HA6 := hid (HA2.out.below y.h)
  have HI6 := hid (HI2.out.kept y.h)
  clear u1 v0 v1 v2 v3 v4 v5 v6 v7 v8 v9 v10
  generalize y.w = W6 at *
  obtain ⟨c0, c1, c2, c3, c4, c5, c6, c7, c8, c9⟩ := HA6.out.cells
  dsimp only at c0 c1 c2 c3 c4 c5 c6 c7 c8 c9
  go_wp2_with fail
  refine (HOp.out _ HB6.out).mono ?_
  rintro e W7 ⟨bc, bw, cap', rfl, hW7, hlo, hlo2⟩
  have HW7 := hid hW7
  have hlt6 := heap_lt HR6.out
  clear hW7 HOp HA6 c0 c1 c2 c3 c4 c5 c6 c7 c8 c9
  go_wp2_with fail
  refine (HNum.out _).mono ?_
  rintro e W7b ⟨rfl, rfl⟩
  go_wp2_with fail
  refine (HFd.out _ _ _ _ _ HW7.out).mono ?_
  rintro e W8 ⟨rfl, hW8⟩
  have HW8 := hid hW8
  clear hW8 HFd HW7
  have HB8 := hid (HB6.out.trans ((HW8.out.frame.below hlo hlo2).mono HB6.out.size))
  have HR8 := hid (HR6.out.below (HW8.out.frame.below hlo hlo2))
  clear HR6 HB6
  obtain ⟨c0, c1, c2, c3, c4, c5, c6, c7, c8, c9⟩ := HR8.out.cells
  dsimp only at c0 c1 c2 c3 c4 c5 c6 c7 c8 c9
  have z0 := frozen_of_heap HR8.out 0
  have z1 := frozen_of_heap HR8.out 1
  have z2 := frozen_of_heap HR8.out 2
  have z3 := frozen_of_heap HR8.out 3
  have z4 := frozen_of_heap HR8.out 4
  have z5 := frozen_of_heap HR8.out 5
  have z6 := frozen_of_heap HR8.out 6
  have z7 := frozen_of_heap HR8.out 7
  have z8 := frozen_of_heap HR8.out 8
  have z9 := frozen_of_heap HR8.out 9
  go_wp2_with fail
  refine heap_use HR8.out (.slice none 0 0) ⟨0, 0, 0, 0, 0, 0, 0, 0, 0⟩ _ ?_
  intro W7 hL hb7 _ _
  obtain ⟨y0, y1, y2, y3, y4, y5, y6, y7, y8, y9⟩ := hL.cells
  dsimp only at y0 y1 y2 y3 y4 y5 y6 y7 y8 y9
  exact bodyPost_ret (v := .tuple #[noHeap, .int .i64 0, .bool false]) (by simp [results, Try.results21, go_sem, y0, y1, y2, y3, y4, y5, y6, y7, y8, y9, noHeap, heapV]) rfl ⟨rfl, HB8.out.trans (hb7 _ (Nat.le_succ _))⟩

end Go.Proofs.Ytebpgglegnljgaa

/- The program's read of a field, told with the room of its words. -/
namespace Go.Proofs.Ytebpgglegnljgaa
open Go.RowKit

set_option maxHeartbeats 1000000 in
set_option maxRecDepth 100000 in
theorem collectorOf_cap (b off cap N : Nat) (ws : List Int) (h : HpN) (w : World) (hN0 : 0 < N) (hl : ws.length = N) (hN : N ≤ 8000) (hb : b < w.heap.size)
    (hw : ∀ k, k < N → w.cell? ⟨b, off + k, none⟩ = some (.int .i64 (ws.getD k 0))) :
    Calls Try.prog 42 #[heapV (.slice (some ⟨b, off, none⟩) N cap) h] w fun e w' => ∃ bc bw cap' : Nat, e = .returned (.pointer (some ⟨bc, 0, none⟩)) ∧ (Col w bc bw N cap' ws h 0 0 w' ∧ N ≤ cap') ∧ w.heap.size ≤ bc ∧ w.heap.size ≤ bw := by
  have HCl := hid (fun (X : World) (hX : Below w.heap.size w X) => Try.slices_Clone_int b off N cap ws X (by omega) (by omega) (fun j hj => (hX.cell (p := ⟨b, off + j, none⟩) hb).trans (hw j (by omega))))
  clear hw
  obtain ⟨g1, g2, g3, g4, g5, g6, g7, g8, g9⟩ := h
  unfold heapV
  dsimp only
  go_enter Try.func42, Try.ntmps42
  go_wp2_with fail
  refine (HCl.out _ (by first | exact (Below.refl _ _).alloc (Nat.le_refl _) _ | exact ((Below.refl _ _).alloc (Nat.le_refl _) _).drew)).mono ?_
  rintro e W1 ⟨v', rfl, how, hv0, hb1⟩
  have hH : HeapBlk W1 w.heap.size (.slice (some ⟨b, off, none⟩) N cap) ⟨g1, g2, g3, g4, g5, g6, g7, g8, g9⟩ := (hb1.block w.heap.size (by simp)).trans ((MapKept.heap_alloc w _).1)
  obtain ⟨hxl, hh | ⟨g, cp, cur, rfl, hg, hcur, hcp, -, hcs, htk⟩⟩ := how
  · exact absurd hh.1 hv0
  have hbl : Below w.heap.size w W1 := one_below hb1
  obtain ⟨c0, c1, c2, c3, c4, c5, c6, c7, c8, c9⟩ := hH.cells
  dsimp only at c0 c1 c2 c3 c4 c5 c6 c7 c8 c9
  have f0 := frozen_of_heap hH 0
  have HB := hid hbl
  have HCur := hid hcur
  have HG : Hid (w.heap.size < g) := by have := hg; simp at this; exact this
  have HH := hid hH
  clear hb1 hbl hcur hg hH HCl hv0 hxl
  go_wp2_with fail
  go_ret
  have hrow : CellRow 3 W1 g N (intCells ws) := by
    refine ⟨cp, fun i => (cur[i]?).getD undef, ⟨cur, (0, 0), HCur.out, by omega, fun i hi => ?_, Or.inl rfl⟩, hcp, fun i hi => ?_⟩
    · have e := Array.getElem?_eq_getElem (xs := cur) (i := i) (by omega)
      dsimp only
      rw [e]
      rfl
    · have e : (cur.toList.take (N * 1))[i]? = (List.map (Value.int IntKind.i64) (List.take N ws))[i]? := by rw [htk]
      rw [Nat.mul_one, List.getElem?_take_of_lt hi, List.getElem?_map, List.getElem?_take_of_lt hi, Array.getElem?_toList, List.getElem?_eq_getElem (by omega)] at e
      dsimp only
      rw [e]
      simp [intCells, List.getD, hl, hi]
  have hs : (W1.setCell ⟨w.heap.size, 0, none⟩ (.slice (some ⟨g, 0, none⟩) N cp)).heap.size = W1.heap.size := by simp [World.setCell]
  have hgl := hrow.lt
  have hsz := HB.out.size
  refine ⟨W1.heap.size, g, cp, rfl, ⟨⟨?_, ?_, hl, by omega, Frm.of_below ((HB.out.setCell (Nat.le_refl _) _).alloc (by rw [hs]; exact hsz) _)⟩, hcp⟩, hsz, Nat.le_of_lt HG.out⟩
  · have e := (MapKept.heap_alloc (W1.setCell ⟨w.heap.size, 0, none⟩ (.slice (some ⟨g, 0, none⟩) N cp)) (.cells #[.slice (some ⟨g, 0, none⟩) N cp, .int .i64 g1, .int .i64 g2, .int .i64 g3, .int .i64 g4, .int .i64 g5, .int .i64 g6, .int .i64 g7, .int .i64 g8, .int .i64 g9, .int .i64 0, .int .i64 0] 102)).1
    rw [hs] at e
    exact e
  · refine hrow.of_block ?_
    have e1 := ((Below.refl (W1.setCell ⟨w.heap.size, 0, none⟩ (.slice (some ⟨g, 0, none⟩) N cp)).heap.size _).alloc (Nat.le_refl _) (.cells #[.slice (some ⟨g, 0, none⟩) N cp, .int .i64 g1, .int .i64 g2, .int .i64 g3, .int .i64 g4, .int .i64 g5, .int .i64 g6, .int .i64 g7, .int .i64 g8, .int .i64 g9, .int .i64 0, .int .i64 0] 102)).block g (by rw [hs]; exact hgl)
    exact e1.trans (Below.heap_setCell _ _ _ _ (by have := HG.out; dsimp only; omega))

/-- A heap, its words with room, and a number are told. -/
def FieldToldC (N : Nat) (w : World) (ws : List Int) (h1 : HpN) (u : Int) (e : Ending) (w' : World) : Prop :=
  (∃ bw cap' : Nat, e = .returned (.tuple #[heapV (.slice (some ⟨bw, 0, none⟩) N cap') h1, .int .i64 u, .bool true]) ∧ CellRow 3 w' bw N (intCells ws) ∧ w.heap.size ≤ bw ∧ Below w.heap.size w w' ∧ N ≤ cap')

set_option maxHeartbeats 8000000 in
set_option maxRecDepth 100000 in
theorem iField_goodC (b off cap N : Nat) (h : HpN) (x i : Int) (w : World)
    (ws S : List Int)
    (k : Nat) (hk : k < N) (n : Int) (HSk : Hid (S.getD k 0 = n)) (hn0 : 0 ≤ n) (hn1 : n ≤ 6) (hd : decide (i < 0) = false) (hi1 : i < n - 1)
    (hN8 : N ≤ 8000) (hi0 : 0 ≤ i) (u : Int) (s0 s1 : CN) (h1 : HpN)
    (HLy : Hid (∀ X, Below w.heap.size w X → Calls Try.prog 30 #[heapV (.slice (some ⟨b, off, none⟩) N cap) h] X fun e w' => ∃ gb, e = .returned (.tuple #[layV (.slice (some ⟨b, off, none⟩) N cap) h (.slice (some ⟨gb, 0, none⟩) N N), .bool true]) ∧ Hid (ISt b off gb N ws S w') ∧ Below X.heap.size X w'))
    (HLd : Hid (∀ (X : World) (gb : Nat), ISt b off gb N ws S X → Calls Try.prog 51 #[layV (.slice (some ⟨b, off, none⟩) N cap) h (.slice (some ⟨gb, 0, none⟩) N N), .int .i64 x, .int .i64 h.to] X fun e w' => e = .returned (.bool true) ∧ Below X.heap.size X w'))
    (HNum : Hid (∀ w, Calls Try.prog 52 #[.int .i64 x] w fun e w' => e = .returned (.int .i64 (k : Int)) ∧ w = w'))
    (HOp : Hid (∀ X, Below w.heap.size w X → Calls Try.prog 42 #[heapV (.slice (some ⟨b, off, none⟩) N cap) h] X fun e w' => ∃ bc bw cap' : Nat, e = .returned (.pointer (some ⟨bc, 0, none⟩)) ∧ (Col X bc bw N cap' s0.ws s0.h s0.r s0.t w' ∧ N ≤ cap') ∧ X.heap.size ≤ bc ∧ X.heap.size ≤ bw))
    (HFd : Hid (∀ (X w0 : World) (bc bw cap' : Nat), Col w0 bc bw N cap' s0.ws s0.h s0.r s0.t X → Calls Try.prog 53 #[.pointer (some ⟨bc, 0, none⟩), .int .i64 ((k : Int) + 1 + i)] X fun e w' => e = .returned (.tuple #[.int .i64 u, .bool true]) ∧ Col w0 bc bw N cap' s1.ws s1.h s1.r s1.t w'))
    (HTd : Hid (∀ (X w0 : World) (bc bw cap' : Nat), Col w0 bc bw N cap' s1.ws s1.h s1.r s1.t X → Calls Try.prog 45 #[.pointer (some ⟨bc, 0, none⟩)] X fun e w' => e = .returned (heapV (.slice (some ⟨bw, 0, none⟩) N cap') h1) ∧ Below X.heap.size X w')) :
    Calls Try.prog 21 #[heapV (.slice (some ⟨b, off, none⟩) N cap) h, .int .i64 x, .int .i64 i] w (FieldToldC N w s1.ws h1 u) := by
  obtain ⟨g1, g2, g3, g4, g5, g6, g7, g8, g9⟩ := h
  unfold heapV at *
  dsimp only at *
  obtain ⟨W0, hW0, hA, hR, k2⟩ := both_new w (.slice (some ⟨b, off, none⟩) N cap) ⟨g1, g2, g3, g4, g5, g6, g7, g8, g9⟩
  dsimp only at hW0
  have HW0 := hid hW0
  have HA := hid hA
  have HR := hid hR
  have HK2 := hid k2
  clear hW0 hA hR k2
  go_enter Try.func21, Try.ntmps21
  go_wp2_with fail
  rw [HW0.out]
  refine (HLy.out _ HK2.out).mono ?_
  rintro e W1 ⟨gb, rfl, HI, hb1⟩
  unfold layV at *
  dsimp only at *
  have k1 := HK2.out.trans (hb1.mono HK2.out.size)
  have HB2 := hid (k1.alloc k1.size (.cells #[.slice (some ⟨b, off, none⟩) N cap, .int .i64 g1, .int .i64 g2, .int .i64 g3, .int .i64 g4, .int .i64 g5, .int .i64 g6, .int .i64 g7, .int .i64 g8, .int .i64 g9, .slice (some ⟨gb, 0, none⟩) N N] 58))
  have HR2 := hid ((HR.out.below hb1).below ((Below.refl _ W1).alloc (Nat.le_refl _) (.cells #[.slice (some ⟨b, off, none⟩) N cap, .int .i64 g1, .int .i64 g2, .int .i64 g3, .int .i64 g4, .int .i64 g5, .int .i64 g6, .int .i64 g7, .int .i64 g8, .int .i64 g9, .slice (some ⟨gb, 0, none⟩) N N] 58)))
  have HA2 := hid ((HA.out.below hb1).below ((Below.refl _ W1).alloc (Nat.le_refl _) (.cells #[.slice (some ⟨b, off, none⟩) N cap, .int .i64 g1, .int .i64 g2, .int .i64 g3, .int .i64 g4, .int .i64 g5, .int .i64 g6, .int .i64 g7, .int .i64 g8, .int .i64 g9, .slice (some ⟨gb, 0, none⟩) N N] 58)))
  have HI2 := hid (HI.out.kept ((Below.refl _ W1).alloc (Nat.le_refl _) (.cells #[.slice (some ⟨b, off, none⟩) N cap, .int .i64 g1, .int .i64 g2, .int .i64 g3, .int .i64 g4, .int .i64 g5, .int .i64 g6, .int .i64 g7, .int .i64 g8, .int .i64 g9, .slice (some ⟨gb, 0, none⟩) N N] 58)))
  have hLB := LayBlk.new W1 (.slice (some ⟨b, off, none⟩) N cap) ⟨g1, g2, g3, g4, g5, g6, g7, g8, g9⟩ (.slice (some ⟨gb, 0, none⟩) N N)
  dsimp only at hLB
  clear k1 hb1 HW0 HA HR HK2 HLy HI
  go_wp2_with fail
  generalize W1.alloc (.cells #[.slice (some ⟨b, off, none⟩) N cap, .int .i64 g1, .int .i64 g2, .int .i64 g3, .int .i64 g4, .int .i64 g5, .int .i64 g6, .int .i64 g7, .int .i64 g8, .int .i64 g9, .slice (some ⟨gb, 0, none⟩) N N] 58) = W2 at *
  obtain ⟨v0, v1, v2, v3, v4, v5, v6, v7, v8, v9, v10⟩ := hLB.later (B := W2.heap.size) (heap_lt hLB)
  dsimp only at v0 v1 v2 v3 v4 v5 v6 v7 v8 v9 v10
  have HLB := hid hLB
  clear hLB
  have u1 : ∀ y : Later W2.heap.size W2, y.w.cell? ⟨gb, k, none⟩ = some (.int .i64 n) := fun y => by
    have e := y.cell (p := ⟨gb, 0 + k, none⟩) HI2.out.glt (HI2.out.sizes k hk)
    rw [Nat.zero_add, HSk.out] at e
    exact e
  refine wp_region_calm W2.heap.size (by kernel_rfl) (by kernel_rfl) ?_
  repeat (go_big_quiet_step (first | (rename_i y; go_at_call 51; refine (HLd.out _ _ (HI2.out.kept y.h)).mono ?_; rintro e w5 ⟨rfl, hb5⟩; exact ⟨rfl, ⟨w5, y.h.trans (hb5.mono y.h.size)⟩, rfl⟩) | (rename_i y; go_at_call 52; refine (HNum.out _).mono ?_; rintro e w5 ⟨rfl, rfl⟩; exact ⟨rfl, y, rfl⟩)))
  refine wpQuiet_nil ?_
  rintro w6 ⟨y, rfl⟩
  have HB6 := hid (HB2.out.trans (y.h.mono HB2.out.size))
  have HR6 := hid (HR2.out.below y.h)
  have HA6 := hid (HA2.out.below y.h)
  have HI6 := hid (HI2.out.kept y.h)
  clear u1 v0 v1 v2 v3 v4 v5 v6 v7 v8 v9 v10
  generalize y.w = W6 at *
  obtain ⟨c0, c1, c2, c3, c4, c5, c6, c7, c8, c9⟩ := HA6.out.cells
  dsimp only at c0 c1 c2 c3 c4 c5 c6 c7 c8 c9
  go_wp2_with fail
  refine (HOp.out _ HB6.out).mono ?_
  rintro e W7 ⟨bc, bw, cap', rfl, ⟨hW7, hcp7⟩, hlo, hlo2⟩
  have HCp7 := hid hcp7
  clear hcp7
  have HW7 := hid hW7
  have hlt6 := heap_lt HR6.out
  clear hW7 HOp HA6 c0 c1 c2 c3 c4 c5 c6 c7 c8 c9
  go_wp2_with fail
  refine (HNum.out _).mono ?_
  rintro e W7b ⟨rfl, rfl⟩
  go_wp2_with fail
  refine (HFd.out _ _ _ _ _ HW7.out).mono ?_
  rintro e W8 ⟨rfl, hW8⟩
  have HW8 := hid hW8
  clear hW8 HFd HW7
  obtain ⟨i1, i2, i3, i4, i5, i6, i7, i8, i9⟩ := h1
  dsimp only at HTd
  go_wp2_with fail
  refine (HTd.out _ _ _ _ _ HW8.out).mono ?_
  rintro e W9 ⟨rfl, hb9⟩
  have HW9 := hid (HW8.out.keep hb9)
  have HR9 := hid (HR6.out.below (HW9.out.frame.below hlo hlo2))
  have HB9 := hid (HB6.out.trans ((HW9.out.frame.below hlo hlo2).mono HB6.out.size))
  obtain ⟨c0, c1, c2, c3, c4, c5, c6, c7, c8, c9⟩ := HR9.out.cells
  dsimp only at c0 c1 c2 c3 c4 c5 c6 c7 c8 c9
  have z0 := frozen_of_heap HR9.out 0
  have z1 := frozen_of_heap HR9.out 1
  have z2 := frozen_of_heap HR9.out 2
  have z3 := frozen_of_heap HR9.out 3
  have z4 := frozen_of_heap HR9.out 4
  have z5 := frozen_of_heap HR9.out 5
  have z6 := frozen_of_heap HR9.out 6
  have z7 := frozen_of_heap HR9.out 7
  have z8 := frozen_of_heap HR9.out 8
  have z9 := frozen_of_heap HR9.out 9
  clear hb9 HTd HW8 HR6 HB6
  go_wp2_with fail
  refine heap_use HR9.out (.slice (some ⟨bw, 0, none⟩) N cap') ⟨i1, i2, i3, i4, i5, i6, i7, i8, i9⟩ _ ?_
  intro W10 hL hb10 _ hoth
  obtain ⟨y0, y1, y2, y3, y4, y5, y6, y7, y8, y9⟩ := hL.cells
  dsimp only at y0 y1 y2 y3 y4 y5 y6 y7 y8 y9
  exact bodyPost_ret (v := .tuple #[heapV (.slice (some ⟨bw, 0, none⟩) N cap') ⟨i1, i2, i3, i4, i5, i6, i7, i8, i9⟩, .int .i64 u, .bool true]) (by simp [results, Try.results21, go_sem, y0, y1, y2, y3, y4, y5, y6, y7, y8, y9, heapV]) rfl ⟨bw, cap', rfl, HW9.out.row.of_block (hoth _ (by omega)), by have := HB9.out.size; omega, HB9.out.trans (hb10 _ (Nat.le_succ _)), HCp7.out⟩
end Go.Proofs.Ytebpgglegnljgaa

/- The specification's HeapField: what is read. -/
namespace Go.Proofs.Ytebpgglegnljgaa
open Go.RowKit

set_option maxHeartbeats 4000000 in
set_option maxRecDepth 100000 in
theorem sField_good (b off cap N : Nat) (h : HpN) (x i : Int) (w : World)
    (k : Nat) (hk : k < N) (hb : b < w.heap.size) (f n : Int) (HF : Hid (w.cell? ⟨b, off + k, none⟩ = some (.int .i64 f))) (hf : f / 16 = n) (hn0 : 0 ≤ n) (hn1 : n ≤ 6) (hd : decide (i < 0) = false) (hi1 : i < n - 1)
    (HOk : Hid (∀ X, Below w.heap.size w X → Calls Try.prog 35 #[heapV (.slice (some ⟨b, off, none⟩) N cap) h] X fun e w' => e = .returned (.bool true) ∧ Below X.heap.size X w'))
    (HT : Hid (∀ w, Calls Try.prog 37 #[.int .i64 x] w fun e w' => e = .returned (.int .i64 0) ∧ w = w'))
    (HRt : Hid (∀ X, Below w.heap.size w X → ∀ g, X.cell? ⟨g, 0, none⟩ = some (.int .i64 x) → Calls Try.prog 36 #[heapV (.slice (some ⟨b, off, none⟩) N cap) h, .slice (some ⟨g, 0, none⟩) 1 1] X fun e w' => e = .returned (.bool true) ∧ Below X.heap.size X w'))
    (HNum : Hid (∀ w, Calls Try.prog 54 #[.int .i64 x] w fun e w' => e = .returned (.int .i64 (k : Int)) ∧ w = w'))
    (s0 s1 : CN)
    (HOp : Hid (∀ X, Below w.heap.size w X → Calls Try.prog 46 #[heapV (.slice (some ⟨b, off, none⟩) N cap) h] X fun e w' => ∃ bm bw cap' : Nat, e = .returned (.pointer (some ⟨bm, 0, none⟩)) ∧ Wk X bm bw N cap' s0 false w' ∧ X.heap.size ≤ bm ∧ X.heap.size ≤ bw))
    (u : Int)
    (HFd : Hid (∀ (X w0 : World) (bm bw cap' : Nat), Wk w0 bm bw N cap' s0 false X → Calls Try.prog 55 #[.pointer (some ⟨bm, 0, none⟩), .int .i64 x, .int .i64 i] X fun e w' => e = .returned (.int .i64 u) ∧ Wk w0 bm bw N cap' s1 false w')) :
    Calls Try.prog 22 #[heapV (.slice (some ⟨b, off, none⟩) N cap) h, .int .i64 x, .int .i64 i] w fun e w' => ∃ bw cap' : Nat, e = .returned (.tuple #[heapV (.slice (some ⟨bw, 0, none⟩) N cap') { s1.h with touched := touchZ s1 }, .int .i64 u, .bool true]) ∧ CellRow 3 w' bw N (intCells s1.ws) ∧ w.heap.size ≤ bw ∧ Below w.heap.size w w' := by
  obtain ⟨g1, g2, g3, g4, g5, g6, g7, g8, g9⟩ := h
  unfold heapV at *
  dsimp only at *
  obtain ⟨W0, hW0, hA, hR, k2⟩ := both_new w (.slice (some ⟨b, off, none⟩) N cap) ⟨g1, g2, g3, g4, g5, g6, g7, g8, g9⟩
  dsimp only at hW0
  have HW0 := hid hW0
  clear hW0
  go_enter Try.func22, Try.ntmps22
  go_wp2_with fail
  rw [HW0.out]
  have hlt := heap_lt hA
  obtain ⟨v0, v1, v2, v3, v4, v5, v6, v7, v8, v9⟩ := hA.later (B := W0.heap.size) hlt
  dsimp only at v0 v1 v2 v3 v4 v5 v6 v7 v8 v9
  have HA := hid hA
  have HR := hid hR
  have HK2 := hid k2
  clear hA hR k2 HW0
  have KB : Hid (∀ X : Later W0.heap.size W0, Below w.heap.size w X.w ∧ w.heap.size ≤ X.w.heap.size) := fun X => by
    have k := HK2.out.trans (X.h.mono HK2.out.size)
    exact ⟨k, k.size⟩
  refine stage_begin (S := fun w' => ∃ x : Later W0.heap.size W0, w' = x.w) (by kernel_rfl) ?_
  refine stage_walk (by kernel_rfl) 11 0 _ _ (by kernel_rfl) ⟨⟨W0.drew, (Below.refl _ _).drew⟩, rfl⟩ ?_
  simp only [List.drop_zero, List.take_succ_cons, List.take_zero]
  repeat (go_big_quiet_step (first | (rename_i x; go_at_call 35; refine (HOk.out _ (KB.out x).1).mono ?_; rintro e w5 ⟨rfl, hb5⟩; exact ⟨rfl, ⟨w5, x.h.trans (hb5.mono x.h.size)⟩, rfl⟩) | (rename_i x; go_at_call 37; refine (HT.out _).mono ?_; rintro e w5 ⟨rfl, rfl⟩; exact ⟨rfl, x, rfl⟩)))
  refine wpQuiet_nil ?_
  rintro w5 ⟨x1, rfl⟩
  refine stage_make (k := 11) (v := .slice (some ⟨x1.w.heap.size, 0, none⟩) 1 1) (w1 := x1.w.alloc (.cells #[.int .i64 x] 3)) rfl (by kernel_rfl) rfl (by simp [go_sem]) ⟨⟨_, x1.h.alloc x1.h.size _⟩, rfl⟩ (by simp [go_sem]; exact rfl) ?_
  have hN0 : (x1.w.alloc (.cells #[.int .i64 x] 3)).heap[x1.w.heap.size]? = some (.cells #[.int .i64 x] 3) := (MapKept.heap_alloc x1.w _).1
  have hL1 := x1.h.alloc x1.h.size (.cells #[.int .i64 x] 3)
  generalize x1.w.alloc (.cells #[.int .i64 x] 3) = W1 at *
  refine stage_class (S' := fun w' => ∃ y : Later W1.heap.size W1, w' = y.w) (fun w' ⟨y, hy⟩ => ⟨⟨w', hL1.trans ((hy ▸ y.h).mono hL1.size)⟩, rfl⟩) ?_
  have HC1 : Hid (∀ y : Later W1.heap.size W1, y.w.cell? ⟨x1.w.heap.size, 0, none⟩ = some (.int .i64 x)) := fun y => y.cell (heap_lt hN0) (by rw [cell_of_heap hN0]; rfl)
  have KB1 : Hid (∀ y : Later W1.heap.size W1, Below w.heap.size w y.w) := fun y => (KB.out ⟨W1, hL1⟩).1.trans (y.h.mono (KB.out ⟨W1, hL1⟩).2)
  have TL : Hid (∀ y : Later W1.heap.size W1, Below W0.heap.size W0 y.w) := fun y => hL1.trans (y.h.mono hL1.size)
  have u0 : ∀ y : Later W1.heap.size W1, y.w.cell? ⟨w.heap.size, 0, none⟩ = some (.slice (some ⟨b, off, none⟩) N cap) := fun y => v0 ⟨y.w, TL.out y⟩
  have u1 : ∀ y : Later W1.heap.size W1, y.w.cell? ⟨b, off + k, none⟩ = some (.int .i64 f) := fun y => ((KB1.out y).cell (p := ⟨b, off + k, none⟩) hb).trans HF.out
  clear v0 v1 v2 v3 v4 v5 v6 v7 v8 v9 hN0
  refine stage_walk (by kernel_rfl) 19 12 _ _ (by kernel_rfl) ⟨⟨W1, Below.refl _ _⟩, rfl⟩ ?_
  simp only [List.drop_zero, List.drop_succ_cons, List.take_succ_cons, List.take_zero]
  repeat (go_big_quiet_step (first | (rename_i y; go_at_call 36; refine (HRt.out _ (KB1.out y) _ (HC1.out y)).mono ?_; rintro e w5 ⟨rfl, hb5⟩; exact ⟨rfl, ⟨w5, y.h.trans (hb5.mono y.h.size)⟩, rfl⟩) | (rename_i y; go_at_call 54; refine (HNum.out _).mono ?_; rintro e w5 ⟨rfl, rfl⟩; exact ⟨rfl, y, rfl⟩)))
  refine wpQuiet_nil ?_
  rintro w6 ⟨y, rfl⟩
  refine stage_end (by kernel_rfl) ?_
  have HB6 := hid (KB1.out y)
  have HR6 := hid (HR.out.below (TL.out y))
  have HA6 := hid (HA.out.below (TL.out y))
  clear u0 u1 HC1 KB1 TL hL1
  generalize y.w = W6 at *
  obtain ⟨c0, c1, c2, c3, c4, c5, c6, c7, c8, c9⟩ := HA6.out.cells
  dsimp only at c0 c1 c2 c3 c4 c5 c6 c7 c8 c9
  go_wp2_with fail
  refine (HOp.out _ HB6.out).mono ?_
  rintro e W7 ⟨bm, bw, cap', rfl, hW7, hlo, hlo2⟩
  have HW7 := hid hW7
  have HB7 := hid (HB6.out.trans ((hW7.frame.below hlo hlo2).mono HB6.out.size))
  have hlt6 := heap_lt HR6.out
  clear hW7 HOp HA6 c0 c1 c2 c3 c4 c5 c6 c7 c8 c9
  go_wp2_with fail
  refine (HFd.out _ _ _ _ _ HW7.out).mono ?_
  rintro e W8 ⟨rfl, hW8⟩
  have HW8 := hid hW8
  have HR8 := hid (HR6.out.below (HW8.out.frame.below hlo hlo2))
  have HB8 := hid (HB6.out.trans ((HW8.out.frame.below hlo hlo2).mono HB6.out.size))
  obtain ⟨d0, d1, d2, d3, d4, d5, d6, d7, d8, d9, d10⟩ := HW8.out.blk.cells
  obtain ⟨tau, htau⟩ : ∃ tau, touchZ s1 = tau := ⟨_, rfl⟩
  rw [htau] at d9
  have HTau := hid htau
  clear htau
  obtain ⟨c0, c1, c2, c3, c4, c5, c6, c7, c8, c9⟩ := HR8.out.cells
  dsimp only at c0 c1 c2 c3 c4 c5 c6 c7 c8 c9
  have z0 := frozen_of_heap HR8.out 0
  have z1 := frozen_of_heap HR8.out 1
  have z2 := frozen_of_heap HR8.out 2
  have z3 := frozen_of_heap HR8.out 3
  have z4 := frozen_of_heap HR8.out 4
  have z5 := frozen_of_heap HR8.out 5
  have z6 := frozen_of_heap HR8.out 6
  have z7 := frozen_of_heap HR8.out 7
  have z8 := frozen_of_heap HR8.out 8
  have z9 := frozen_of_heap HR8.out 9
  clear hW8 HFd HW7 HB7 HR6 HB6
  go_wp2_with fail
  refine heap_use HR8.out (.slice (some ⟨bw, 0, none⟩) N cap') ⟨s1.h.size, s1.h.to, s1.h.bottom, s1.h.top, s1.h.scan, s1.h.fb, s1.h.ft, s1.h.flips, tau⟩ _ ?_
  intro W9 hL hb9 _ hoth
  obtain ⟨y0, y1, y2, y3, y4, y5, y6, y7, y8, y9⟩ := hL.cells
  dsimp only at y0 y1 y2 y3 y4 y5 y6 y7 y8 y9
  exact bodyPost_ret (v := .tuple #[heapV (.slice (some ⟨bw, 0, none⟩) N cap') ⟨s1.h.size, s1.h.to, s1.h.bottom, s1.h.top, s1.h.scan, s1.h.fb, s1.h.ft, s1.h.flips, tau⟩, .int .i64 u, .bool true]) (by simp [results, Try.results22, go_sem, y0, y1, y2, y3, y4, y5, y6, y7, y8, y9, heapV]) rfl ⟨bw, cap', by rw [HTau.out]; rfl, HW8.out.row.of_block (hoth _ (by omega)), by have := HB8.out.size; omega, HB8.out.trans (hb9 _ (Nat.le_succ _))⟩

set_option maxHeartbeats 4000000 in
set_option maxRecDepth 100000 in
theorem sField_full (b off cap N : Nat) (h : HpN) (x i : Int) (w : World)
    (k : Nat) (hk : k < N) (hb : b < w.heap.size) (f n : Int) (HF : Hid (w.cell? ⟨b, off + k, none⟩ = some (.int .i64 f))) (hf : f / 16 = n) (hn0 : 0 ≤ n) (hn1 : n ≤ 6) (hd : decide (i < 0) = false) (hi1 : i < n - 1)
    (HOk : Hid (∀ X, Below w.heap.size w X → Calls Try.prog 35 #[heapV (.slice (some ⟨b, off, none⟩) N cap) h] X fun e w' => e = .returned (.bool true) ∧ Below X.heap.size X w'))
    (HT : Hid (∀ w, Calls Try.prog 37 #[.int .i64 x] w fun e w' => e = .returned (.int .i64 0) ∧ w = w'))
    (HRt : Hid (∀ X, Below w.heap.size w X → ∀ g, X.cell? ⟨g, 0, none⟩ = some (.int .i64 x) → Calls Try.prog 36 #[heapV (.slice (some ⟨b, off, none⟩) N cap) h, .slice (some ⟨g, 0, none⟩) 1 1] X fun e w' => e = .returned (.bool true) ∧ Below X.heap.size X w'))
    (HNum : Hid (∀ w, Calls Try.prog 54 #[.int .i64 x] w fun e w' => e = .returned (.int .i64 (k : Int)) ∧ w = w'))
    (s0 s1 : CN)
    (HOp : Hid (∀ X, Below w.heap.size w X → Calls Try.prog 46 #[heapV (.slice (some ⟨b, off, none⟩) N cap) h] X fun e w' => ∃ bm bw cap' : Nat, e = .returned (.pointer (some ⟨bm, 0, none⟩)) ∧ Wk X bm bw N cap' s0 false w' ∧ X.heap.size ≤ bm ∧ X.heap.size ≤ bw))
    (HFd : Hid (∀ (X w0 : World) (bm bw cap' : Nat), Wk w0 bm bw N cap' s0 false X → Calls Try.prog 55 #[.pointer (some ⟨bm, 0, none⟩), .int .i64 x, .int .i64 i] X fun e w' => (∃ z : Int, e = .returned (.int .i64 z)) ∧ Wk w0 bm bw N cap' s1 true w')) :
    Calls Try.prog 22 #[heapV (.slice (some ⟨b, off, none⟩) N cap) h, .int .i64 x, .int .i64 i] w fun e w' => e = .returned (.tuple #[noHeap, .int .i64 0, .bool false]) ∧ Below w.heap.size w w' := by
  obtain ⟨g1, g2, g3, g4, g5, g6, g7, g8, g9⟩ := h
  unfold heapV at *
  dsimp only at *
  obtain ⟨W0, hW0, hA, hR, k2⟩ := both_new w (.slice (some ⟨b, off, none⟩) N cap) ⟨g1, g2, g3, g4, g5, g6, g7, g8, g9⟩
  dsimp only at hW0
  have HW0 := hid hW0
  clear hW0
  go_enter Try.func22, Try.ntmps22
  go_wp2_with fail
  rw [HW0.out]
  have hlt := heap_lt hA
  obtain ⟨v0, v1, v2, v3, v4, v5, v6, v7, v8, v9⟩ := hA.later (B := W0.heap.size) hlt
  dsimp only at v0 v1 v2 v3 v4 v5 v6 v7 v8 v9
  have HA := hid hA
  have HR := hid hR
  have HK2 := hid k2
  clear hA hR k2 HW0
  have KB : Hid (∀ X : Later W0.heap.size W0, Below w.heap.size w X.w ∧ w.heap.size ≤ X.w.heap.size) := fun X => by
    have k := HK2.out.trans (X.h.mono HK2.out.size)
    exact ⟨k, k.size⟩
  refine stage_begin (S := fun w' => ∃ x : Later W0.heap.size W0, w' = x.w) (by kernel_rfl) ?_
  refine stage_walk (by kernel_rfl) 11 0 _ _ (by kernel_rfl) ⟨⟨W0.drew, (Below.refl _ _).drew⟩, rfl⟩ ?_
  simp only [List.drop_zero, List.take_succ_cons, List.take_zero]
  repeat (go_big_quiet_step (first | (rename_i x; go_at_call 35; refine (HOk.out _ (KB.out x).1).mono ?_; rintro e w5 ⟨rfl, hb5⟩; exact ⟨rfl, ⟨w5, x.h.trans (hb5.mono x.h.size)⟩, rfl⟩) | (rename_i x; go_at_call 37; refine (HT.out _).mono ?_; rintro e w5 ⟨rfl, rfl⟩; exact ⟨rfl, x, rfl⟩)))
  refine wpQuiet_nil ?_
  rintro w5 ⟨x1, rfl⟩
  refine stage_make (k := 11) (v := .slice (some ⟨x1.w.heap.size, 0, none⟩) 1 1) (w1 := x1.w.alloc (.cells #[.int .i64 x] 3)) rfl (by kernel_rfl) rfl (by simp [go_sem]) ⟨⟨_, x1.h.alloc x1.h.size _⟩, rfl⟩ (by simp [go_sem]; exact rfl) ?_
  have hN0 : (x1.w.alloc (.cells #[.int .i64 x] 3)).heap[x1.w.heap.size]? = some (.cells #[.int .i64 x] 3) := (MapKept.heap_alloc x1.w _).1
  have hL1 := x1.h.alloc x1.h.size (.cells #[.int .i64 x] 3)
  generalize x1.w.alloc (.cells #[.int .i64 x] 3) = W1 at *
  refine stage_class (S' := fun w' => ∃ y : Later W1.heap.size W1, w' = y.w) (fun w' ⟨y, hy⟩ => ⟨⟨w', hL1.trans ((hy ▸ y.h).mono hL1.size)⟩, rfl⟩) ?_
  have HC1 : Hid (∀ y : Later W1.heap.size W1, y.w.cell? ⟨x1.w.heap.size, 0, none⟩ = some (.int .i64 x)) := fun y => y.cell (heap_lt hN0) (by rw [cell_of_heap hN0]; rfl)
  have KB1 : Hid (∀ y : Later W1.heap.size W1, Below w.heap.size w y.w) := fun y => (KB.out ⟨W1, hL1⟩).1.trans (y.h.mono (KB.out ⟨W1, hL1⟩).2)
  have TL : Hid (∀ y : Later W1.heap.size W1, Below W0.heap.size W0 y.w) := fun y => hL1.trans (y.h.mono hL1.size)
  have u0 : ∀ y : Later W1.heap.size W1, y.w.cell? ⟨w.heap.size, 0, none⟩ = some (.slice (some ⟨b, off, none⟩) N cap) := fun y => v0 ⟨y.w, TL.out y⟩
  have u1 : ∀ y : Later W1.heap.size W1, y.w.cell? ⟨b, off + k, none⟩ = some (.int .i64 f) := fun y => ((KB1.out y).cell (p := ⟨b, off + k, none⟩) hb).trans HF.out
  clear v0 v1 v2 v3 v4 v5 v6 v7 v8 v9 hN0
  refine stage_walk (by kernel_rfl) 19 12 _ _ (by kernel_rfl) ⟨⟨W1, Below.refl _ _⟩, rfl⟩ ?_
  simp only [List.drop_zero, List.drop_succ_cons, List.take_succ_cons, List.take_zero]
  repeat (go_big_quiet_step (first | (rename_i y; go_at_call 36; refine (HRt.out _ (KB1.out y) _ (HC1.out y)).mono ?_; rintro e w5 ⟨rfl, hb5⟩; exact ⟨rfl, ⟨w5, y.h.trans (hb5.mono y.h.size)⟩, rfl⟩) | (rename_i y; go_at_call 54; refine (HNum.out _).mono ?_; rintro e w5 ⟨rfl, rfl⟩; exact ⟨rfl, y, rfl⟩)))
  refine wpQuiet_nil ?_
  rintro w6 ⟨y, rfl⟩
  refine stage_end (by kernel_rfl) ?_
  have HB6 := hid (KB1.out y)
  have HR6 := hid (HR.out.below (TL.out y))
  have HA6 := hid (HA.out.below (TL.out y))
  clear u0 u1 HC1 KB1 TL hL1
  generalize y.w = W6 at *
  obtain ⟨c0, c1, c2, c3, c4, c5, c6, c7, c8, c9⟩ := HA6.out.cells
  dsimp only at c0 c1 c2 c3 c4 c5 c6 c7 c8 c9
  go_wp2_with fail
  refine (HOp.out _ HB6.out).mono ?_
  rintro e W7 ⟨bm, bw, cap', rfl, hW7, hlo, hlo2⟩
  have HW7 := hid hW7
  have HB7 := hid (HB6.out.trans ((hW7.frame.below hlo hlo2).mono HB6.out.size))
  have hlt6 := heap_lt HR6.out
  clear hW7 HOp HA6 c0 c1 c2 c3 c4 c5 c6 c7 c8 c9
  go_wp2_with fail
  refine (HFd.out _ _ _ _ _ HW7.out).mono ?_
  rintro e W8 ⟨⟨z, rfl⟩, hW8⟩
  have HW8 := hid hW8
  have HR8 := hid (HR6.out.below (HW8.out.frame.below hlo hlo2))
  have HB8 := hid (HB6.out.trans ((HW8.out.frame.below hlo hlo2).mono HB6.out.size))
  obtain ⟨d0, d1, d2, d3, d4, d5, d6, d7, d8, d9, d10⟩ := HW8.out.blk.cells
  obtain ⟨tau, htau⟩ : ∃ tau, touchZ s1 = tau := ⟨_, rfl⟩
  rw [htau] at d9
  have HTau := hid htau
  clear htau
  obtain ⟨c0, c1, c2, c3, c4, c5, c6, c7, c8, c9⟩ := HR8.out.cells
  dsimp only at c0 c1 c2 c3 c4 c5 c6 c7 c8 c9
  have z0 := frozen_of_heap HR8.out 0
  have z1 := frozen_of_heap HR8.out 1
  have z2 := frozen_of_heap HR8.out 2
  have z3 := frozen_of_heap HR8.out 3
  have z4 := frozen_of_heap HR8.out 4
  have z5 := frozen_of_heap HR8.out 5
  have z6 := frozen_of_heap HR8.out 6
  have z7 := frozen_of_heap HR8.out 7
  have z8 := frozen_of_heap HR8.out 8
  have z9 := frozen_of_heap HR8.out 9
  clear hW8 HFd HW7 HB7 HR6 HB6
  go_wp2_with fail
  refine heap_use HR8.out (.slice none 0 0) ⟨0, 0, 0, 0, 0, 0, 0, 0, 0⟩ _ ?_
  intro W9 hL hb9 _ hoth
  obtain ⟨y0, y1, y2, y3, y4, y5, y6, y7, y8, y9⟩ := hL.cells
  dsimp only at y0 y1 y2 y3 y4 y5 y6 y7 y8 y9
  exact bodyPost_ret (v := .tuple #[noHeap, .int .i64 0, .bool false]) (by simp [results, Try.results22, go_sem, y0, y1, y2, y3, y4, y5, y6, y7, y8, y9, noHeap, heapV]) rfl ⟨rfl, HB8.out.trans (hb9 _ (Nat.le_succ _))⟩

end Go.Proofs.Ytebpgglegnljgaa

/- HeapField: both sides answer the same, whatever they are given. -/
namespace Go.Proofs.Ytebpgglegnljgaa
open Go.RowKit

/-- A heap, a number and a bool are told; the heap's words are new. -/
def Told3 (W : World) (ans : List Int) (H : HpN) (u : Int) (ok : Bool) (e : Ending) (w' : World) : Prop :=
  (∃ v, e = .returned (.tuple #[heapV v H, .int .i64 u, .bool ok]) ∧ SliceR 3 1 W.heap.size w' v ans.length (intCells ans)) ∧ Below W.heap.size W w'

theorem told_none {W w' : World} {e : Ending} (h : e = .returned (.tuple #[noHeap, .int .i64 0, .bool false]) ∧ Below W.heap.size W w') : Told3 W [] ⟨0, 0, 0, 0, 0, 0, 0, 0, 0⟩ 0 false e w' :=
  ⟨⟨_, h.1, none, 0, rfl, Or.inl rfl⟩, h.2⟩

theorem told_some {N : Nat} {W w' : World} {ws : List Int} {H : HpN} {u : Int} {e : Ending} (hl : ws.length = N) (h : FieldTold N W ws H u e w') : Told3 W ws H u true e w' := by
  obtain ⟨bw, cap, rfl, hr, hlow, hb⟩ := h
  subst hl
  exact ⟨⟨_, rfl, some ⟨bw, 0, none⟩, cap, rfl, Or.inr ⟨bw, rfl, hlow, by rw [Nat.mul_one]; exact hr⟩⟩, hb⟩

/-- Words in a row of their own, at a later world. -/
theorem row_words {B g N : Nat} {bs : List Int} {W X : World} (h0 : N ≠ 0) (hs : SliceR 3 1 B W (.slice (some ⟨g, 0, none⟩) N N) N (intCells bs)) (hX : Below W.heap.size W X) :
    g < X.heap.size ∧ ∀ k, k < N → X.cell? ⟨g, 0 + k, none⟩ = some (.int .i64 (bs.getD k 0)) := by
  obtain ⟨ad, cap, e, hh⟩ := hs
  obtain ⟨g', e2, hB, hr⟩ := hh.resolve_left h0
  cases e
  cases e2
  rw [Nat.mul_one] at hr
  exact ⟨Nat.lt_of_lt_of_le hr.lt hX.size, fun k hk => by rw [Nat.zero_add]; exact (hX.cell (p := ⟨g, k, none⟩) hr.lt).trans (hr.cell hk)⟩

theorem moveZ_len (s : CN) (x : Int) : (moveZ s x).2.ws.length = s.ws.length := by
  unfold moveZ
  split
  · rfl
  · split
    · rfl
    · split
      · simp only [List.length_set, copyW_length]
      · rfl

theorem fieldZ_len (s : CN) (q : Nat) : (fieldZ s q).2.ws.length = s.ws.length := by
  unfold fieldZ
  split
  · rfl
  · have e := moveZ_len { s with r := s.r + 1 } (s.ws.getD q 0)
    generalize moveZ { s with r := s.r + 1 } (s.ws.getD q 0) = m at e
    obtain ⟨o, s2⟩ := m
    cases o with
    | some y => simpa using e
    | none => exact e

theorem told_touch (t r q : Int) : wrap64 (wrap64 (t + r) + q) = wrap64 (t + (r + q)) := by
  unfold wrap64
  omega

theorem field_both (bs : List Int) (h : HpN) (ht : h.touched < 9223372036854775808) (hm : bs.length ≤ 1048576) (x i : Int) : ∃ ans H u ok, ans.length ≤ 1048576 ∧
    (∀ B g W, SliceR 3 1 B W (.slice (some ⟨g, 0, none⟩) bs.length bs.length) bs.length (intCells bs) → Calls Try.prog 22 #[heapV (.slice (some ⟨g, 0, none⟩) bs.length bs.length) h, .int .i64 x, .int .i64 i] W (Told3 W ans H u ok)) ∧
    (∀ B g W, SliceR 3 1 B W (.slice (some ⟨g, 0, none⟩) bs.length bs.length) bs.length (intCells bs) → Calls Try.prog 21 #[heapV (.slice (some ⟨g, 0, none⟩) bs.length bs.length) h, .int .i64 x, .int .i64 i] W (Told3 W ans H u ok)) := by
  by_cases ho : Ordered h bs.length
  case neg =>
    refine ⟨[], _, _, _, by simp, fun B g W _ => (sField_notOk g 0 bs.length bs.length h x i W (fun X _ => specOk_bad _ _ _ h X hm ho)).mono (fun _ _ => told_none), fun B g W _ => (iField_notOk g 0 bs.length bs.length h x i W (fun X _ => layOut_bad _ _ _ h X ho)).mono (fun _ _ => told_none)⟩
  have hN0 : bs.length ≠ 0 := by obtain ⟨o1, o2, o3, _⟩ := ho; omega
  have hN8 : bs.length ≤ 8000 := by obtain ⟨o1, o2, o3, _⟩ := ho; omega
  -- the specification's and the program's own looks
  have SOk : ∀ B g W, SliceR 3 1 B W (.slice (some ⟨g, 0, none⟩) bs.length bs.length) bs.length (intCells bs) → ∀ X, Below W.heap.size W X → Calls Try.prog 35 #[heapV (.slice (some ⟨g, 0, none⟩) bs.length bs.length) h] X fun e w' => e = .returned (.bool (specOk bs h)) ∧ Below X.heap.size X w' := fun B g W hs X hX =>
    specOk_calls g 0 bs.length bs.length bs h X rfl ho (row_words hN0 hs hX).1 (row_words hN0 hs hX).2
  have ILy : ∀ B g W, SliceR 3 1 B W (.slice (some ⟨g, 0, none⟩) bs.length bs.length) bs.length (intCells bs) → ∀ X, Below W.heap.size W X → Calls Try.prog 30 #[heapV (.slice (some ⟨g, 0, none⟩) bs.length bs.length) h] X (LayTold g 0 bs.length bs.length bs h X) := fun B g W hs X hX =>
    layOut_calls g 0 bs.length bs.length bs h X rfl ho (Nat.le_refl _) (row_words hN0 hs hX).1 (row_words hN0 hs hX).2
  cases hk : specOk bs h with
  | false =>
    have hki : implOk bs h = false := by rw [← ok_same ho]; exact hk
    rw [hk] at SOk
    refine ⟨[], _, _, _, by simp, fun B g W hs => (sField_notOk g 0 bs.length bs.length h x i W (SOk B g W hs)).mono (fun _ _ => told_none), fun B g W hs => (iField_notOk g 0 bs.length bs.length h x i W (fun X hX => (ILy B g W hs X hX).mono ?_)).mono (fun _ _ => told_none)⟩
    rintro e w' ⟨hres, hb'⟩
    rcases hres with ⟨_, e1⟩ | ⟨S, gb, _, e2, _⟩
    · exact ⟨e1, hb'⟩
    · rw [hki] at e2
      cases e2
  | true =>
    have hki : implOk bs h = true := by rw [← ok_same ho]; exact hk
    rw [hk] at SOk
    obtain ⟨S, ok⟩ := ok_facts ho hk
    have ILg : ∀ B g W, SliceR 3 1 B W (.slice (some ⟨g, 0, none⟩) bs.length bs.length) bs.length (intCells bs) → ∀ X, Below W.heap.size W X → Calls Try.prog 30 #[heapV (.slice (some ⟨g, 0, none⟩) bs.length bs.length) h] X fun e w' => ∃ gb, e = .returned (.tuple #[layV (.slice (some ⟨g, 0, none⟩) bs.length bs.length) h (.slice (some ⟨gb, 0, none⟩) bs.length bs.length), .bool true]) ∧ Hid (ISt g 0 gb bs.length bs S w') ∧ Below X.heap.size X w' := fun B g W hs X hX => (ILy B g W hs X hX).mono (by
      rintro e w' ⟨hres, hb'⟩
      rcases hres with ⟨e1, _⟩ | ⟨S', gb, e1, _, e2, _, e3⟩
      · rw [hki] at e1
        cases e1
      · rw [ok.impl] at e1
        cases e1
        exact ⟨gb, e2, e3, hb'⟩)
    have ILd : ∀ g, ∀ (X : World) (gb : Nat), ISt g 0 gb bs.length bs S X → Calls Try.prog 51 #[layV (.slice (some ⟨g, 0, none⟩) bs.length bs.length) h (.slice (some ⟨gb, 0, none⟩) bs.length bs.length), .int .i64 x, .int .i64 h.to] X fun e w' => e = .returned (.bool (leadsZ S h.size x h.to)) ∧ Below X.heap.size X w' := fun g X gb hI => leads_st hI _ h ho x h.to (Or.inl rfl)
    have STg := fun w => specTag_calls x w
    unfold tagZ at STg
    by_cases hx : x % 8 = 0
    case neg =>
      have hl : leadsZ S h.size x h.to = false := by unfold leadsZ; rw [decide_eq_false hx]; rfl
      rw [hl] at ILd
      exact ⟨[], _, _, _, by simp, fun B g W hs => (sField_noPtr g 0 bs.length bs.length h x i W (x % 8) (by simpa using hx) (SOk B g W hs) STg).mono (fun _ _ => told_none), fun B g W hs => (iField_noRoot g 0 bs.length bs.length h x i W bs S (ILg B g W hs) (ILd g)).mono (fun _ _ => told_none)⟩
    rw [hx] at STg
    have SRt : ∀ B g W, SliceR 3 1 B W (.slice (some ⟨g, 0, none⟩) bs.length bs.length) bs.length (intCells bs) → ∀ X, Below W.heap.size W X → ∀ g', X.cell? ⟨g', 0, none⟩ = some (.int .i64 x) → Calls Try.prog 36 #[heapV (.slice (some ⟨g, 0, none⟩) bs.length bs.length) h, .slice (some ⟨g', 0, none⟩) 1 1] X fun e w' => e = .returned (.bool (specLeads bs S h x false)) ∧ Below X.heap.size X w' := fun B g W hs X hX g' hg' => by
      have e := specRoots_calls g 0 bs.length bs.length bs S h (.slice (some ⟨g', 0, none⟩) 1 1) [x] X rfl ho ok.spec (row_words hN0 hs hX).1 (row_words hN0 hs hX).2 ⟨_, 1, rfl, Or.inr ⟨g', 0, rfl, block_in hg', fun k hk => by
        obtain rfl : k = 0 := by simpa using hk
        exact hg'⟩⟩ (by simp)
      have e2 : specRoots bs S h [x] = specLeads bs S h x false := by simp [specRoots]
      rw [e2] at e
      exact e
    have hsame : leadsZ S h.size x h.to = specLeads bs S h x false := by
      rw [← used_same ok x]
      unfold wordOkZ
      rw [if_pos hx]
    rw [hsame] at ILd
    cases hl : specLeads bs S h x false with
    | false =>
      rw [hl] at SRt ILd
      exact ⟨[], _, _, _, by simp, fun B g W hs => (sField_noRoot g 0 bs.length bs.length h x i W (SOk B g W hs) STg (SRt B g W hs)).mono (fun _ _ => told_none), fun B g W hs => (iField_noRoot g 0 bs.length bs.length h x i W bs S (ILg B g W hs) (ILd g)).mono (fun _ _ => told_none)⟩
    | true =>
      rw [hl] at SRt ILd
      by_cases hi : i < 0
      · exact ⟨[], _, _, _, by simp, fun B g W hs => (sField_below g 0 bs.length bs.length h x i W hi (SOk B g W hs) STg (SRt B g W hs)).mono (fun _ _ => told_none), fun B g W hs => (iField_below g 0 bs.length bs.length h x i W bs S hi (ILg B g W hs) (ILd g)).mono (fun _ _ => told_none)⟩
      obtain ⟨l1, l2, l3, l4⟩ := specLeads_at hx hl
      have hin : inZ h (x / 8) = true := by
        rcases l4 with ⟨e, _⟩ | ⟨_, e⟩
        · exact e
        · cases e
      obtain ⟨k, hkx⟩ := Int.eq_ofNat_of_zero_le l1
      rw [hkx, Int.toNat_natCast] at l3
      rw [hkx] at l2 hin
      obtain ⟨hd3, hdl, hdh⟩ := (heads_noted ok.noted).2 k l3
      have hst := used_stays ok l3 hin
      have hd : decide (i < 0) = false := decide_eq_false hi
      have SNum := fun w => specNum_calls x w
      have INum := fun w => implNum_calls x w
      unfold numZ at SNum INum
      rw [hkx] at SNum INum
      have hkN : k < bs.length := by omega
      have HF : ∀ B g W, SliceR 3 1 B W (.slice (some ⟨g, 0, none⟩) bs.length bs.length) bs.length (intCells bs) → W.cell? ⟨g, 0 + k, none⟩ = some (.int .i64 (bs.getD k 0)) := fun B g W hs => (row_words hN0 hs (Below.refl _ _)).2 k hkN
      have HG : ∀ B g W, SliceR 3 1 B W (.slice (some ⟨g, 0, none⟩) bs.length bs.length) bs.length (intCells bs) → g < W.heap.size := fun B g W hs => (row_words hN0 hs (Below.refl _ _)).1
      by_cases hp : S.getD k 0 - 1 ≤ i
      · exact ⟨[], _, _, _, by simp, fun B g W hs => (sField_past g 0 bs.length bs.length h x i W k hkN (HG B g W hs) (bs.getD k 0) (S.getD k 0) (HF B g W hs) hdh (by omega) (by omega) hd hp (SOk B g W hs) STg (SRt B g W hs) SNum).mono (fun _ _ => told_none), fun B g W hs => (iField_past g 0 bs.length bs.length h x i W bs S k hkN (S.getD k 0) rfl (by omega) (by omega) hd hp (ILg B g W hs) (ILd g) INum).mono (fun _ _ => told_none)⟩
      -- a field that is there
      obtain ⟨j, rfl⟩ := Int.eq_ofNat_of_zero_le (show 0 ≤ i by omega)
      obtain ⟨o1, o2, o3, o4, o5, o6, o7, o8, o9, o10, o11, o12, o13⟩ := id ho
      have hq : k + 1 + j < bs.length := by omega
      have hgood := field_good ok l3 hst (i := j) (by omega)
      have hmv := good_move (h := h) (heads_noted ok.noted) hgood
      have hhe := good_here ho hgood
      have SOp : ∀ B g W, SliceR 3 1 B W (.slice (some ⟨g, 0, none⟩) bs.length bs.length) bs.length (intCells bs) → ∀ X, Below W.heap.size W X → Calls Try.prog 46 #[heapV (.slice (some ⟨g, 0, none⟩) bs.length bs.length) h] X fun e w' => ∃ bm bw cap' : Nat, e = .returned (.pointer (some ⟨bm, 0, none⟩)) ∧ Wk X bm bw bs.length cap' ⟨bs, h, 0, 0⟩ false w' ∧ X.heap.size ≤ bm ∧ X.heap.size ≤ bw := fun B g W hs X hX => open_calls g 0 bs.length bs.length bs h X (by omega) rfl hN8 (row_words hN0 hs hX).1 (row_words hN0 hs hX).2 o6 ht
      have IOp : ∀ B g W, SliceR 3 1 B W (.slice (some ⟨g, 0, none⟩) bs.length bs.length) bs.length (intCells bs) → ∀ X, Below W.heap.size W X → Calls Try.prog 42 #[heapV (.slice (some ⟨g, 0, none⟩) bs.length bs.length) h] X fun e w' => ∃ bc bw cap' : Nat, e = .returned (.pointer (some ⟨bc, 0, none⟩)) ∧ Col X bc bw bs.length cap' bs h 0 0 w' ∧ X.heap.size ≤ bc ∧ X.heap.size ≤ bw := fun B g W hs X hX => collectorOf_calls g 0 bs.length bs.length bs h X (by omega) rfl hN8 (row_words hN0 hs hX).1 (row_words hN0 hs hX).2
      have SFd : ∀ (X w0 : World) (bm bw cap' : Nat), Wk w0 bm bw bs.length cap' ⟨bs, h, 0, 0⟩ false X → Calls Try.prog 55 #[.pointer (some ⟨bm, 0, none⟩), .int .i64 x, .int .i64 (j : Int)] X fun e w' => (∃ z : Int, e = .returned (.int .i64 z) ∧ ∀ u, (fieldZ ⟨bs, h, 0, 0⟩ (k + 1 + j)).1 = some u → z = u) ∧ Wk w0 bm bw bs.length cap' (fieldZ ⟨bs, h, 0, 0⟩ (k + 1 + j)).2 (fieldZ ⟨bs, h, 0, 0⟩ (k + 1 + j)).1.isNone w' := fun X w0 bm bw cap' hX => sfield_calls hX x j (k + 1 + j) hq (by omega) (by omega) (by omega) (by omega) (by omega) (show 0 ≤ h.to by omega) (show h.to ≤ h.size by omega) o2 (show 0 ≤ h.bottom by omega) o9 (show h.top ≤ (bs.length : Int) by omega) hN8 hmv hhe
      have IFd : ∀ (X w0 : World) (bc bw cap' : Nat), Col w0 bc bw bs.length cap' bs h 0 0 X → Calls Try.prog 53 #[.pointer (some ⟨bc, 0, none⟩), .int .i64 ((k : Int) + 1 + (j : Int))] X fun e w' => e = .returned (moveV (fieldZ ⟨bs, h, 0, 0⟩ (k + 1 + j)).1) ∧ Col w0 bc bw bs.length cap' (fieldZ ⟨bs, h, 0, 0⟩ (k + 1 + j)).2.ws (fieldZ ⟨bs, h, 0, 0⟩ (k + 1 + j)).2.h (fieldZ ⟨bs, h, 0, 0⟩ (k + 1 + j)).2.r (fieldZ ⟨bs, h, 0, 0⟩ (k + 1 + j)).2.t w' := fun X w0 bc bw cap' hX => by
        have e := field_calls ⟨bs, h, 0, 0⟩ hX (k + 1 + j) hq (show 0 ≤ h.to by omega) (show h.to ≤ h.size by omega) o2 (show 0 ≤ h.bottom by omega) o9 (show h.top ≤ (bs.length : Int) by omega) hN8 (show (0 : Int) ≤ 0 by omega) (show (0 : Int) ≤ 60000 by omega) (show (0 : Int) ≤ 0 by omega) (show (0 : Int) ≤ 60000 by omega) hmv
        rw [show ((k + 1 + j : Nat) : Int) = (k : Int) + 1 + (j : Int) from rfl] at e
        exact e
      have hlen := fieldZ_len ⟨bs, h, 0, 0⟩ (k + 1 + j)
      generalize fieldZ ⟨bs, h, 0, 0⟩ (k + 1 + j) = R at *
      obtain ⟨o, s1⟩ := R
      dsimp only at hlen SFd IFd
      cases o with
      | none =>
        exact ⟨[], _, _, _, by simp, fun B g W hs => (sField_full g 0 bs.length bs.length h x j W k hkN (HG B g W hs) (bs.getD k 0) (S.getD k 0) (HF B g W hs) hdh (by omega) (by omega) hd (by omega) (SOk B g W hs) STg (SRt B g W hs) SNum ⟨bs, h, 0, 0⟩ s1 (SOp B g W hs) (fun X w0 bm bw cap' hX => (SFd X w0 bm bw cap' hX).mono (by rintro e w' ⟨⟨z, hz, -⟩, hW⟩; exact ⟨⟨z, hz⟩, hW⟩))).mono (fun _ _ => told_none), fun B g W hs => (iField_full g 0 bs.length bs.length h x j W bs S k hkN (S.getD k 0) rfl (by omega) (by omega) hd (by omega) hN8 (by omega) ⟨bs, h, 0, 0⟩ s1 (ILg B g W hs) (ILd g) INum (IOp B g W hs) IFd).mono (fun _ _ => told_none)⟩
      | some u =>
        refine ⟨s1.ws, { s1.h with touched := touchZ s1 }, u, true, by omega, fun B g W hs => (sField_good g 0 bs.length bs.length h x j W k hkN (HG B g W hs) (bs.getD k 0) (S.getD k 0) (HF B g W hs) hdh (by omega) (by omega) hd (by omega) (SOk B g W hs) STg (SRt B g W hs) SNum ⟨bs, h, 0, 0⟩ s1 (SOp B g W hs) u (fun X w0 bm bw cap' hX => (SFd X w0 bm bw cap' hX).mono (by rintro e w' ⟨⟨z, hz, hu⟩, hW⟩; rw [hu u rfl] at hz; exact ⟨hz, hW⟩))).mono (fun _ _ h => told_some hlen h), fun B g W hs => (iField_good g 0 bs.length bs.length h x j W bs S k hkN (S.getD k 0) rfl (by omega) (by omega) hd (by omega) hN8 (by omega) u ⟨bs, h, 0, 0⟩ s1 { s1.h with touched := touchZ s1 } (ILg B g W hs) (ILd g) INum (IOp B g W hs) IFd (fun X w0 bc bw cap' hX => ?_)).mono (fun _ _ h => told_some hlen h)⟩
        have e := told_calls hX
        rw [told_touch] at e
        exact e
end Go.Proofs.Ytebpgglegnljgaa

/- The specification's HeapScan. -/
namespace Go.Proofs.Ytebpgglegnljgaa
open Go.RowKit

/-- A heap is told. -/
def HeapTold (N : Nat) (w : World) (ws : List Int) (h1 : HpN) (e : Ending) (w' : World) : Prop :=
  ∃ bw cap' : Nat, e = .returned (.tuple #[heapV (.slice (some ⟨bw, 0, none⟩) N cap') h1, .bool true]) ∧ CellRow 3 w' bw N (intCells ws) ∧ w.heap.size ≤ bw ∧ Below w.heap.size w w'

/-- What looking through so many objects of a heap comes to. -/
def ScanTold (N : Nat) (w : World) (o : Option CN) (e : Ending) (w' : World) : Prop :=
  match o with
  | some s => HeapTold N w s.ws { s.h with touched := touchZ s } e w'
  | none => e = .returned (.tuple #[noHeap, .bool false]) ∧ Below w.heap.size w w'

set_option maxHeartbeats 8000000 in
set_option maxRecDepth 100000 in
theorem sScan_notOk (b off cap N : Nat) (h : HpN) (x : Int) (w : World)
    (HOk : Hid (∀ X, Below w.heap.size w X → Calls Try.prog 35 #[heapV (.slice (some ⟨b, off, none⟩) N cap) h] X fun e w' => e = .returned (.bool false) ∧ Below X.heap.size X w')) :
    Calls Try.prog 25 #[heapV (.slice (some ⟨b, off, none⟩) N cap) h, .int .i64 x] w fun e w' => e = .returned (.tuple #[noHeap, .bool false]) ∧ Below w.heap.size w w' := by
  obtain ⟨g1, g2, g3, g4, g5, g6, g7, g8, g9⟩ := h
  unfold heapV at *
  dsimp only at *
  obtain ⟨W0, hW0, hA, hR, k2⟩ := both_new w (.slice (some ⟨b, off, none⟩) N cap) ⟨g1, g2, g3, g4, g5, g6, g7, g8, g9⟩
  dsimp only at hW0
  have HW0 := hid hW0
  clear hW0
  go_enter Try.func25, Try.ntmps25
  go_wp2_with fail
  rw [HW0.out]
  have hlt := heap_lt hA
  obtain ⟨v0, v1, v2, v3, v4, v5, v6, v7, v8, v9⟩ := hA.later (B := W0.heap.size) hlt
  dsimp only at v0 v1 v2 v3 v4 v5 v6 v7 v8 v9
  have HA := hid hA
  have HR := hid hR
  have HK2 := hid k2
  clear hA hR k2 HW0
  have KB : Hid (∀ X : Later W0.heap.size W0, Below w.heap.size w X.w ∧ w.heap.size ≤ X.w.heap.size) := fun X => by
    have k := HK2.out.trans (X.h.mono HK2.out.size)
    exact ⟨k, k.size⟩
  clear v0 v1 v2 v3 v4 v5 v6 v7 v8 v9
  refine (HOk.out _ HK2.out).mono ?_
  rintro e W6 ⟨rfl, hb6⟩
  have HB6 := hid (HK2.out.trans (hb6.mono HK2.out.size))
  have HR6 := hid (HR.out.below hb6)
  have HA6 := hid (HA.out.below hb6)
  clear hb6
  obtain ⟨c0, c1, c2, c3, c4, c5, c6, c7, c8, c9⟩ := HR6.out.cells
  dsimp only at c0 c1 c2 c3 c4 c5 c6 c7 c8 c9
  have z0 := frozen_of_heap HR6.out 0
  have z1 := frozen_of_heap HR6.out 1
  have z2 := frozen_of_heap HR6.out 2
  have z3 := frozen_of_heap HR6.out 3
  have z4 := frozen_of_heap HR6.out 4
  have z5 := frozen_of_heap HR6.out 5
  have z6 := frozen_of_heap HR6.out 6
  have z7 := frozen_of_heap HR6.out 7
  have z8 := frozen_of_heap HR6.out 8
  have z9 := frozen_of_heap HR6.out 9
  go_wp2_with fail
  refine heap_use HR6.out (.slice none 0 0) ⟨0, 0, 0, 0, 0, 0, 0, 0, 0⟩ _ ?_
  intro W7 hL hb7 _ _
  obtain ⟨y0, y1, y2, y3, y4, y5, y6, y7, y8, y9⟩ := hL.cells
  dsimp only at y0 y1 y2 y3 y4 y5 y6 y7 y8 y9
  exact bodyPost_ret (v := .tuple #[noHeap, .bool false]) (by simp [results, Try.results25, go_sem, y0, y1, y2, y3, y4, y5, y6, y7, y8, y9, noHeap, heapV]) rfl ⟨rfl, HB6.out.trans (hb7 _ (Nat.le_succ _))⟩

set_option maxHeartbeats 8000000 in
set_option maxRecDepth 100000 in
theorem sScan_below (b off cap N : Nat) (h : HpN) (x : Int) (w : World)
    (hx : x < 0)
    (HOk : Hid (∀ X, Below w.heap.size w X → Calls Try.prog 35 #[heapV (.slice (some ⟨b, off, none⟩) N cap) h] X fun e w' => e = .returned (.bool true) ∧ Below X.heap.size X w')) :
    Calls Try.prog 25 #[heapV (.slice (some ⟨b, off, none⟩) N cap) h, .int .i64 x] w fun e w' => e = .returned (.tuple #[noHeap, .bool false]) ∧ Below w.heap.size w w' := by
  obtain ⟨g1, g2, g3, g4, g5, g6, g7, g8, g9⟩ := h
  unfold heapV at *
  dsimp only at *
  obtain ⟨W0, hW0, hA, hR, k2⟩ := both_new w (.slice (some ⟨b, off, none⟩) N cap) ⟨g1, g2, g3, g4, g5, g6, g7, g8, g9⟩
  dsimp only at hW0
  have HW0 := hid hW0
  clear hW0
  go_enter Try.func25, Try.ntmps25
  go_wp2_with fail
  rw [HW0.out]
  have hlt := heap_lt hA
  obtain ⟨v0, v1, v2, v3, v4, v5, v6, v7, v8, v9⟩ := hA.later (B := W0.heap.size) hlt
  dsimp only at v0 v1 v2 v3 v4 v5 v6 v7 v8 v9
  have HA := hid hA
  have HR := hid hR
  have HK2 := hid k2
  clear hA hR k2 HW0
  have KB : Hid (∀ X : Later W0.heap.size W0, Below w.heap.size w X.w ∧ w.heap.size ≤ X.w.heap.size) := fun X => by
    have k := HK2.out.trans (X.h.mono HK2.out.size)
    exact ⟨k, k.size⟩
  clear v0 v1 v2 v3 v4 v5 v6 v7 v8 v9
  refine (HOk.out _ HK2.out).mono ?_
  rintro e W6 ⟨rfl, hb6⟩
  have HB6 := hid (HK2.out.trans (hb6.mono HK2.out.size))
  have HR6 := hid (HR.out.below hb6)
  have HA6 := hid (HA.out.below hb6)
  clear hb6
  obtain ⟨c0, c1, c2, c3, c4, c5, c6, c7, c8, c9⟩ := HR6.out.cells
  dsimp only at c0 c1 c2 c3 c4 c5 c6 c7 c8 c9
  have z0 := frozen_of_heap HR6.out 0
  have z1 := frozen_of_heap HR6.out 1
  have z2 := frozen_of_heap HR6.out 2
  have z3 := frozen_of_heap HR6.out 3
  have z4 := frozen_of_heap HR6.out 4
  have z5 := frozen_of_heap HR6.out 5
  have z6 := frozen_of_heap HR6.out 6
  have z7 := frozen_of_heap HR6.out 7
  have z8 := frozen_of_heap HR6.out 8
  have z9 := frozen_of_heap HR6.out 9
  go_wp2_with fail
  refine heap_use HR6.out (.slice none 0 0) ⟨0, 0, 0, 0, 0, 0, 0, 0, 0⟩ _ ?_
  intro W7 hL hb7 _ _
  obtain ⟨y0, y1, y2, y3, y4, y5, y6, y7, y8, y9⟩ := hL.cells
  dsimp only at y0 y1 y2 y3 y4 y5 y6 y7 y8 y9
  exact bodyPost_ret (v := .tuple #[noHeap, .bool false]) (by simp [results, Try.results25, go_sem, y0, y1, y2, y3, y4, y5, y6, y7, y8, y9, noHeap, heapV]) rfl ⟨rfl, HB6.out.trans (hb7 _ (Nat.le_succ _))⟩

set_option maxHeartbeats 8000000 in
set_option maxRecDepth 100000 in
theorem sScan_above (b off cap N : Nat) (h : HpN) (x : Int) (w : World)
    (hx : 4000 < x) (hd : decide (x < 0) = false)
    (HOk : Hid (∀ X, Below w.heap.size w X → Calls Try.prog 35 #[heapV (.slice (some ⟨b, off, none⟩) N cap) h] X fun e w' => e = .returned (.bool true) ∧ Below X.heap.size X w')) :
    Calls Try.prog 25 #[heapV (.slice (some ⟨b, off, none⟩) N cap) h, .int .i64 x] w fun e w' => e = .returned (.tuple #[noHeap, .bool false]) ∧ Below w.heap.size w w' := by
  obtain ⟨g1, g2, g3, g4, g5, g6, g7, g8, g9⟩ := h
  unfold heapV at *
  dsimp only at *
  obtain ⟨W0, hW0, hA, hR, k2⟩ := both_new w (.slice (some ⟨b, off, none⟩) N cap) ⟨g1, g2, g3, g4, g5, g6, g7, g8, g9⟩
  dsimp only at hW0
  have HW0 := hid hW0
  clear hW0
  go_enter Try.func25, Try.ntmps25
  go_wp2_with fail
  rw [HW0.out]
  have hlt := heap_lt hA
  obtain ⟨v0, v1, v2, v3, v4, v5, v6, v7, v8, v9⟩ := hA.later (B := W0.heap.size) hlt
  dsimp only at v0 v1 v2 v3 v4 v5 v6 v7 v8 v9
  have HA := hid hA
  have HR := hid hR
  have HK2 := hid k2
  clear hA hR k2 HW0
  have KB : Hid (∀ X : Later W0.heap.size W0, Below w.heap.size w X.w ∧ w.heap.size ≤ X.w.heap.size) := fun X => by
    have k := HK2.out.trans (X.h.mono HK2.out.size)
    exact ⟨k, k.size⟩
  clear v0 v1 v2 v3 v4 v5 v6 v7 v8 v9
  refine (HOk.out _ HK2.out).mono ?_
  rintro e W6 ⟨rfl, hb6⟩
  have HB6 := hid (HK2.out.trans (hb6.mono HK2.out.size))
  have HR6 := hid (HR.out.below hb6)
  have HA6 := hid (HA.out.below hb6)
  clear hb6
  obtain ⟨c0, c1, c2, c3, c4, c5, c6, c7, c8, c9⟩ := HR6.out.cells
  dsimp only at c0 c1 c2 c3 c4 c5 c6 c7 c8 c9
  have z0 := frozen_of_heap HR6.out 0
  have z1 := frozen_of_heap HR6.out 1
  have z2 := frozen_of_heap HR6.out 2
  have z3 := frozen_of_heap HR6.out 3
  have z4 := frozen_of_heap HR6.out 4
  have z5 := frozen_of_heap HR6.out 5
  have z6 := frozen_of_heap HR6.out 6
  have z7 := frozen_of_heap HR6.out 7
  have z8 := frozen_of_heap HR6.out 8
  have z9 := frozen_of_heap HR6.out 9
  go_wp2_with fail
  refine heap_use HR6.out (.slice none 0 0) ⟨0, 0, 0, 0, 0, 0, 0, 0, 0⟩ _ ?_
  intro W7 hL hb7 _ _
  obtain ⟨y0, y1, y2, y3, y4, y5, y6, y7, y8, y9⟩ := hL.cells
  dsimp only at y0 y1 y2 y3 y4 y5 y6 y7 y8 y9
  exact bodyPost_ret (v := .tuple #[noHeap, .bool false]) (by simp [results, Try.results25, go_sem, y0, y1, y2, y3, y4, y5, y6, y7, y8, y9, noHeap, heapV]) rfl ⟨rfl, HB6.out.trans (hb7 _ (Nat.le_succ _))⟩

set_option maxHeartbeats 8000000 in
set_option maxRecDepth 100000 in
theorem sScan_good (b off cap N : Nat) (h : HpN) (x : Int) (w : World)
    (n : Nat) (hn : x = n) (hn4 : n ≤ 4000) (hd : decide (x < 0) = false) (hd2 : decide (4000 < x) = false) (s0 : CN)
    (HOk : Hid (∀ X, Below w.heap.size w X → Calls Try.prog 35 #[heapV (.slice (some ⟨b, off, none⟩) N cap) h] X fun e w' => e = .returned (.bool true) ∧ Below X.heap.size X w'))
    (HOp : Hid (∀ X, Below w.heap.size w X → Calls Try.prog 46 #[heapV (.slice (some ⟨b, off, none⟩) N cap) h] X fun e w' => ∃ bm bw cap' : Nat, e = .returned (.pointer (some ⟨bm, 0, none⟩)) ∧ Wk X bm bw N cap' s0 false w' ∧ X.heap.size ≤ bm ∧ X.heap.size ≤ bw))
    (HSn : Hid (∀ (q : Nat) (s' : CN) (X w0 : World) (bm bw cap' : Nat), scanRun q s0 = some s' → Wk w0 bm bw N cap' s' false X → Calls Try.prog 56 #[.pointer (some ⟨bm, 0, none⟩)] X (ScanPost w0 bm bw N cap' (scanOne s')))) :
    Calls Try.prog 25 #[heapV (.slice (some ⟨b, off, none⟩) N cap) h, .int .i64 x] w (ScanTold N w (scanRun n s0)) := by
  obtain ⟨R, hR⟩ : ∃ R, scanRun n s0 = R := ⟨_, rfl⟩
  rw [hR]
  have HR0 := hid hR
  have HN := hid hn
  have HN4 := hid hn4
  clear hR hn hn4
  obtain ⟨g1, g2, g3, g4, g5, g6, g7, g8, g9⟩ := h
  unfold heapV at *
  dsimp only at *
  obtain ⟨W0, hW0, hA, hR, k2⟩ := both_new w (.slice (some ⟨b, off, none⟩) N cap) ⟨g1, g2, g3, g4, g5, g6, g7, g8, g9⟩
  dsimp only at hW0
  have HW0 := hid hW0
  clear hW0
  go_enter Try.func25, Try.ntmps25
  go_wp2_with fail
  rw [HW0.out]
  have hlt := heap_lt hA
  obtain ⟨v0, v1, v2, v3, v4, v5, v6, v7, v8, v9⟩ := hA.later (B := W0.heap.size) hlt
  dsimp only at v0 v1 v2 v3 v4 v5 v6 v7 v8 v9
  have HA := hid hA
  have HR := hid hR
  have HK2 := hid k2
  clear hA hR k2 HW0
  have KB : Hid (∀ X : Later W0.heap.size W0, Below w.heap.size w X.w ∧ w.heap.size ≤ X.w.heap.size) := fun X => by
    have k := HK2.out.trans (X.h.mono HK2.out.size)
    exact ⟨k, k.size⟩
  clear v0 v1 v2 v3 v4 v5 v6 v7 v8 v9
  refine (HOk.out _ HK2.out).mono ?_
  rintro e W6 ⟨rfl, hb6⟩
  have HB6 := hid (HK2.out.trans (hb6.mono HK2.out.size))
  have HR6 := hid (HR.out.below hb6)
  have HA6 := hid (HA.out.below hb6)
  clear hb6
  obtain ⟨c0, c1, c2, c3, c4, c5, c6, c7, c8, c9⟩ := HA6.out.cells
  dsimp only at c0 c1 c2 c3 c4 c5 c6 c7 c8 c9
  go_wp2_with fail
  refine (HOp.out _ HB6.out).mono ?_
  rintro e W7 ⟨bm, bw, cap', rfl, hW7, hlo, hlo2⟩
  have HW7 := hid hW7
  have hlt6 := heap_lt HR6.out
  clear hW7 HOp HA6 c0 c1 c2 c3 c4 c5 c6 c7 c8 c9
  go_wp2_with fail
  go_loopw [7] (fun i wr => ∃ (ii : Int) (q : Nat), i = .int .i64 ii ∧ Hid (ii = (q : Int) ∧ q ≤ n) ∧ ((∃ s', Hid (scanRun q s0 = some s') ∧ Hid (Wk W6 bm bw N cap' s' false wr)) ∨ (Hid (scanRun q s0 = none) ∧ ∃ s', Hid (Wk W6 bm bw N cap' s' true wr)))) (fun i _ => n - (intOf i).toNat)
  case atStart => exact ⟨0, 0, rfl, ⟨rfl, by omega⟩, Or.inl ⟨_, rfl, HW7.out⟩⟩
  case round =>
    obtain ⟨ii, q, rfl, HQ, hcase⟩ := hrel
    clear HW7
    by_cases hlt : ii < x
    · have hqn : q < n := by have := HQ.out; have := HN.out; omega
      have hs : n - (intOf (.int .i64 (ii + 1))).toNat < n - (intOf (.int .i64 ii)).toNat := by have := HQ.out; simp only [intOf]; omega
      have hw : Hid (wrap64 (ii + 1) = ii + 1) := by have := HQ.out; have := HN4.out; show _ = _; unfold wrap64; omega
      rcases hcase with ⟨s', HK, HI⟩ | ⟨HK, s', HI⟩
      · have HSc := hid (HSn.out q s' wr W6 bm bw cap' HK.out HI.out)
        obtain ⟨o, ho⟩ : ∃ o, scanOne s' = o := ⟨_, rfl⟩
        rw [ho] at HSc
        have HNx : Hid (scanRun (q + 1) s0 = o) := by show _ = _; unfold scanRun; rw [HK.out]; exact ho
        clear ho HI
        go_wp2_with fail
        refine HSc.out.mono ?_
        rintro e W8 ⟨rfl, hC8⟩
        have HC8 := hid hC8
        clear hC8 HSc
        go_wp2_with fail
        try rw [hw.out]
        cases o with
        | some s2 => exact ⟨⟨ii + 1, q + 1, rfl, ⟨by have := HQ.out; push_cast; omega, by omega⟩, Or.inl ⟨s2, HNx.out, HC8.out⟩⟩, hs⟩
        | none => exact ⟨⟨ii + 1, q + 1, rfl, ⟨by have := HQ.out; push_cast; omega, by omega⟩, Or.inr ⟨HNx.out, HC8.out⟩⟩, hs⟩
      · have HSc := hid (sscan_full HI.out)
        have HNx : Hid (scanRun (q + 1) s0 = none) := scanRun_none HK.out 1
        clear HI
        go_wp2_with fail
        refine HSc.out.mono ?_
        rintro e W8 ⟨rfl, hC8⟩
        have HC8 := hid hC8
        clear hC8 HSc
        go_wp2_with fail
        try rw [hw.out]
        exact ⟨⟨ii + 1, q + 1, rfl, ⟨by have := HQ.out; push_cast; omega, by omega⟩, Or.inr ⟨HNx.out, s', HC8.out⟩⟩, hs⟩
    · have hqn : q = n := by have := HQ.out; have := HN.out; omega
      rcases hcase with ⟨s', HK, HI⟩ | ⟨HK, s', HI⟩
      · have HF : Hid (R = some s') := by have h := HK.out; rw [hqn, HR0.out] at h; exact h
        have HR8 := hid (HR6.out.below (HI.out.frame.below hlo hlo2))
        have HB8 := hid (HB6.out.trans ((HI.out.frame.below hlo hlo2).mono HB6.out.size))
        obtain ⟨d0, d1, d2, d3, d4, d5, d6, d7, d8, d9, d10⟩ := HI.out.blk.cells
        obtain ⟨tau, htau⟩ : ∃ tau, touchZ s' = tau := ⟨_, rfl⟩
        rw [htau] at d9
        have HTau := hid htau
        clear htau
        obtain ⟨c0, c1, c2, c3, c4, c5, c6, c7, c8, c9⟩ := HR8.out.cells
        dsimp only at c0 c1 c2 c3 c4 c5 c6 c7 c8 c9
        have z0 := frozen_of_heap HR8.out 0
        have z1 := frozen_of_heap HR8.out 1
        have z2 := frozen_of_heap HR8.out 2
        have z3 := frozen_of_heap HR8.out 3
        have z4 := frozen_of_heap HR8.out 4
        have z5 := frozen_of_heap HR8.out 5
        have z6 := frozen_of_heap HR8.out 6
        have z7 := frozen_of_heap HR8.out 7
        have z8 := frozen_of_heap HR8.out 8
        have z9 := frozen_of_heap HR8.out 9
        clear HR6 HB6
        go_wp2_with fail
        refine heap_use HR8.out (.slice (some ⟨bw, 0, none⟩) N cap') ⟨s'.h.size, s'.h.to, s'.h.bottom, s'.h.top, s'.h.scan, s'.h.fb, s'.h.ft, s'.h.flips, tau⟩ _ ?_
        intro W9 hL hb9 _ hoth
        obtain ⟨y0, y1, y2, y3, y4, y5, y6, y7, y8, y9⟩ := hL.cells
        dsimp only at y0 y1 y2 y3 y4 y5 y6 y7 y8 y9
        refine bodyPost_ret (v := .tuple #[heapV (.slice (some ⟨bw, 0, none⟩) N cap') ⟨s'.h.size, s'.h.to, s'.h.bottom, s'.h.top, s'.h.scan, s'.h.fb, s'.h.ft, s'.h.flips, tau⟩, .bool true]) (by simp [results, Try.results25, go_sem, y0, y1, y2, y3, y4, y5, y6, y7, y8, y9, heapV]) rfl ?_
        rw [HF.out]
        exact ⟨bw, cap', by rw [HTau.out], HI.out.row.of_block (hoth _ (by omega)), by have := HB8.out.size; omega, HB8.out.trans (hb9 _ (Nat.le_succ _))⟩
      · have HF : Hid (R = none) := by have h := HK.out; rw [hqn, HR0.out] at h; exact h
        have HR8 := hid (HR6.out.below (HI.out.frame.below hlo hlo2))
        have HB8 := hid (HB6.out.trans ((HI.out.frame.below hlo hlo2).mono HB6.out.size))
        have d10 := HI.out.blk.cells.2.2.2.2.2.2.2.2.2.2
        obtain ⟨c0, c1, c2, c3, c4, c5, c6, c7, c8, c9⟩ := HR8.out.cells
        dsimp only at c0 c1 c2 c3 c4 c5 c6 c7 c8 c9
        have z0 := frozen_of_heap HR8.out 0
        have z1 := frozen_of_heap HR8.out 1
        have z2 := frozen_of_heap HR8.out 2
        have z3 := frozen_of_heap HR8.out 3
        have z4 := frozen_of_heap HR8.out 4
        have z5 := frozen_of_heap HR8.out 5
        have z6 := frozen_of_heap HR8.out 6
        have z7 := frozen_of_heap HR8.out 7
        have z8 := frozen_of_heap HR8.out 8
        have z9 := frozen_of_heap HR8.out 9
        clear HR6 HB6
        go_wp2_with fail
        refine heap_use HR8.out (.slice none 0 0) ⟨0, 0, 0, 0, 0, 0, 0, 0, 0⟩ _ ?_
        intro W9 hL hb9 _ _
        obtain ⟨y0, y1, y2, y3, y4, y5, y6, y7, y8, y9⟩ := hL.cells
        dsimp only at y0 y1 y2 y3 y4 y5 y6 y7 y8 y9
        refine bodyPost_ret (v := .tuple #[noHeap, .bool false]) (by simp [results, Try.results25, go_sem, y0, y1, y2, y3, y4, y5, y6, y7, y8, y9, noHeap, heapV]) rfl ?_
        rw [HF.out]
        exact ⟨rfl, HB8.out.trans (hb9 _ (Nat.le_succ _))⟩

end Go.Proofs.Ytebpgglegnljgaa

/- The program's HeapScan. -/
namespace Go.Proofs.Ytebpgglegnljgaa
open Go.RowKit

set_option maxRecDepth 100000 in
theorem iOk_calls {v : Value} {h : HpN} {W : World} {R : Bool} (H : ∀ w, Below W.heap.size W w → Calls Try.prog 30 #[heapV v h] w fun e w' => (∃ (a a' : Option Addr) (n c n' c' : Nat) (h' : HpN), e = .returned (.tuple #[layV (.slice a n c) h' (.slice a' n' c'), .bool R])) ∧ Below w.heap.size w w') :
    Calls Try.prog 15 #[heapV v h] W fun e w' => e = .returned (.bool R) ∧ Below W.heap.size W w' := by
  have HH := hid H
  clear H
  obtain ⟨g1, g2, g3, g4, g5, g6, g7, g8, g9⟩ := h
  unfold heapV at *
  dsimp only at *
  go_enter Try.func15, Try.ntmps15
  go_wp2_with fail
  have k0 := (Below.refl W.heap.size W).alloc (Nat.le_refl _) (.cells #[v, .int .i64 g1, .int .i64 g2, .int .i64 g3, .int .i64 g4, .int .i64 g5, .int .i64 g6, .int .i64 g7, .int .i64 g8, .int .i64 g9] 25)
  refine (HH.out _ k0).mono ?_
  rintro e W1 ⟨⟨a, a', n, c, n', c', ⟨i1, i2, i3, i4, i5, i6, i7, i8, i9⟩, rfl⟩, hb⟩
  unfold layV
  dsimp only
  have HB := hid (k0.trans (hb.mono k0.size))
  clear hb k0 HH
  go_wp2_with fail
  go_ret
  exact ⟨rfl, HB.out.alloc HB.out.size _⟩

set_option maxHeartbeats 8000000 in
set_option maxRecDepth 100000 in
theorem iScan_below (b off cap N : Nat) (h : HpN) (x : Int) (w : World)
    (hx : x < 0) :
    Calls Try.prog 19 #[heapV (.slice (some ⟨b, off, none⟩) N cap) h, .int .i64 x] w fun e w' => e = .returned (.tuple #[noHeap, .bool false]) ∧ Below w.heap.size w w' := by
  obtain ⟨g1, g2, g3, g4, g5, g6, g7, g8, g9⟩ := h
  unfold heapV at *
  dsimp only at *
  obtain ⟨W0, hW0, hA, hR, k2⟩ := both_new w (.slice (some ⟨b, off, none⟩) N cap) ⟨g1, g2, g3, g4, g5, g6, g7, g8, g9⟩
  dsimp only at hW0
  have HB6 := hid k2
  have HR6 := hid hR
  clear hA hR k2
  obtain ⟨c0, c1, c2, c3, c4, c5, c6, c7, c8, c9⟩ := HR6.out.cells
  dsimp only at c0 c1 c2 c3 c4 c5 c6 c7 c8 c9
  have z0 := frozen_of_heap HR6.out 0
  have z1 := frozen_of_heap HR6.out 1
  have z2 := frozen_of_heap HR6.out 2
  have z3 := frozen_of_heap HR6.out 3
  have z4 := frozen_of_heap HR6.out 4
  have z5 := frozen_of_heap HR6.out 5
  have z6 := frozen_of_heap HR6.out 6
  have z7 := frozen_of_heap HR6.out 7
  have z8 := frozen_of_heap HR6.out 8
  have z9 := frozen_of_heap HR6.out 9
  go_enter Try.func19, Try.ntmps19
  go_wp2_with fail
  refine heap_use HR6.out (.slice none 0 0) ⟨0, 0, 0, 0, 0, 0, 0, 0, 0⟩ _ ?_
  intro W7 hL hb7 _ _
  obtain ⟨y0, y1, y2, y3, y4, y5, y6, y7, y8, y9⟩ := hL.cells
  dsimp only at y0 y1 y2 y3 y4 y5 y6 y7 y8 y9
  exact bodyPost_ret (v := .tuple #[noHeap, .bool false]) (by simp [results, Try.results19, go_sem, y0, y1, y2, y3, y4, y5, y6, y7, y8, y9, noHeap, heapV]) rfl ⟨rfl, HB6.out.trans (hb7 _ (Nat.le_succ _))⟩

set_option maxHeartbeats 8000000 in
set_option maxRecDepth 100000 in
theorem iScan_above (b off cap N : Nat) (h : HpN) (x : Int) (w : World)
    (hx : 4000 < x) (hd : decide (x < 0) = false) :
    Calls Try.prog 19 #[heapV (.slice (some ⟨b, off, none⟩) N cap) h, .int .i64 x] w fun e w' => e = .returned (.tuple #[noHeap, .bool false]) ∧ Below w.heap.size w w' := by
  obtain ⟨g1, g2, g3, g4, g5, g6, g7, g8, g9⟩ := h
  unfold heapV at *
  dsimp only at *
  obtain ⟨W0, hW0, hA, hR, k2⟩ := both_new w (.slice (some ⟨b, off, none⟩) N cap) ⟨g1, g2, g3, g4, g5, g6, g7, g8, g9⟩
  dsimp only at hW0
  have HB6 := hid k2
  have HR6 := hid hR
  clear hA hR k2
  obtain ⟨c0, c1, c2, c3, c4, c5, c6, c7, c8, c9⟩ := HR6.out.cells
  dsimp only at c0 c1 c2 c3 c4 c5 c6 c7 c8 c9
  have z0 := frozen_of_heap HR6.out 0
  have z1 := frozen_of_heap HR6.out 1
  have z2 := frozen_of_heap HR6.out 2
  have z3 := frozen_of_heap HR6.out 3
  have z4 := frozen_of_heap HR6.out 4
  have z5 := frozen_of_heap HR6.out 5
  have z6 := frozen_of_heap HR6.out 6
  have z7 := frozen_of_heap HR6.out 7
  have z8 := frozen_of_heap HR6.out 8
  have z9 := frozen_of_heap HR6.out 9
  go_enter Try.func19, Try.ntmps19
  go_wp2_with fail
  refine heap_use HR6.out (.slice none 0 0) ⟨0, 0, 0, 0, 0, 0, 0, 0, 0⟩ _ ?_
  intro W7 hL hb7 _ _
  obtain ⟨y0, y1, y2, y3, y4, y5, y6, y7, y8, y9⟩ := hL.cells
  dsimp only at y0 y1 y2 y3 y4 y5 y6 y7 y8 y9
  exact bodyPost_ret (v := .tuple #[noHeap, .bool false]) (by simp [results, Try.results19, go_sem, y0, y1, y2, y3, y4, y5, y6, y7, y8, y9, noHeap, heapV]) rfl ⟨rfl, HB6.out.trans (hb7 _ (Nat.le_succ _))⟩

set_option maxHeartbeats 8000000 in
set_option maxRecDepth 100000 in
theorem iScan_notOk (b off cap N : Nat) (h : HpN) (x : Int) (w : World)
    (hd : decide (x < 0) = false) (hd2 : decide (4000 < x) = false)
    (HOk : Hid (∀ X, Below w.heap.size w X → Calls Try.prog 15 #[heapV (.slice (some ⟨b, off, none⟩) N cap) h] X fun e w' => e = .returned (.bool false) ∧ Below X.heap.size X w')) :
    Calls Try.prog 19 #[heapV (.slice (some ⟨b, off, none⟩) N cap) h, .int .i64 x] w fun e w' => e = .returned (.tuple #[noHeap, .bool false]) ∧ Below w.heap.size w w' := by
  obtain ⟨g1, g2, g3, g4, g5, g6, g7, g8, g9⟩ := h
  unfold heapV at *
  dsimp only at *
  obtain ⟨W0, hW0, hA, hR, k2⟩ := both_new w (.slice (some ⟨b, off, none⟩) N cap) ⟨g1, g2, g3, g4, g5, g6, g7, g8, g9⟩
  dsimp only at hW0
  have HW0 := hid hW0
  clear hW0
  go_enter Try.func19, Try.ntmps19
  go_wp2_with fail
  rw [HW0.out]
  have hlt := heap_lt hA
  obtain ⟨v0, v1, v2, v3, v4, v5, v6, v7, v8, v9⟩ := hA.later (B := W0.heap.size) hlt
  dsimp only at v0 v1 v2 v3 v4 v5 v6 v7 v8 v9
  have HA := hid hA
  have HR := hid hR
  have HK2 := hid k2
  clear hA hR k2 HW0
  have KB : Hid (∀ X : Later W0.heap.size W0, Below w.heap.size w X.w ∧ w.heap.size ≤ X.w.heap.size) := fun X => by
    have k := HK2.out.trans (X.h.mono HK2.out.size)
    exact ⟨k, k.size⟩
  clear v0 v1 v2 v3 v4 v5 v6 v7 v8 v9
  refine (HOk.out _ HK2.out).mono ?_
  rintro e W6 ⟨rfl, hb6⟩
  have HB6 := hid (HK2.out.trans (hb6.mono HK2.out.size))
  have HR6 := hid (HR.out.below hb6)
  have HA6 := hid (HA.out.below hb6)
  clear hb6
  obtain ⟨c0, c1, c2, c3, c4, c5, c6, c7, c8, c9⟩ := HR6.out.cells
  dsimp only at c0 c1 c2 c3 c4 c5 c6 c7 c8 c9
  have z0 := frozen_of_heap HR6.out 0
  have z1 := frozen_of_heap HR6.out 1
  have z2 := frozen_of_heap HR6.out 2
  have z3 := frozen_of_heap HR6.out 3
  have z4 := frozen_of_heap HR6.out 4
  have z5 := frozen_of_heap HR6.out 5
  have z6 := frozen_of_heap HR6.out 6
  have z7 := frozen_of_heap HR6.out 7
  have z8 := frozen_of_heap HR6.out 8
  have z9 := frozen_of_heap HR6.out 9
  go_wp2_with fail
  refine heap_use HR6.out (.slice none 0 0) ⟨0, 0, 0, 0, 0, 0, 0, 0, 0⟩ _ ?_
  intro W7 hL hb7 _ _
  obtain ⟨y0, y1, y2, y3, y4, y5, y6, y7, y8, y9⟩ := hL.cells
  dsimp only at y0 y1 y2 y3 y4 y5 y6 y7 y8 y9
  exact bodyPost_ret (v := .tuple #[noHeap, .bool false]) (by simp [results, Try.results19, go_sem, y0, y1, y2, y3, y4, y5, y6, y7, y8, y9, noHeap, heapV]) rfl ⟨rfl, HB6.out.trans (hb7 _ (Nat.le_succ _))⟩

set_option maxHeartbeats 8000000 in
set_option maxRecDepth 100000 in
theorem iScan_good (b off cap N : Nat) (h : HpN) (x : Int) (w : World)
    (hd : decide (x < 0) = false) (hd2 : decide (4000 < x) = false) (s0 : CN) (o : Option CN)
    (HOk : Hid (∀ X, Below w.heap.size w X → Calls Try.prog 15 #[heapV (.slice (some ⟨b, off, none⟩) N cap) h] X fun e w' => e = .returned (.bool true) ∧ Below X.heap.size X w'))
    (HOp : Hid (∀ X, Below w.heap.size w X → Calls Try.prog 42 #[heapV (.slice (some ⟨b, off, none⟩) N cap) h] X fun e w' => ∃ bc bw cap' : Nat, e = .returned (.pointer (some ⟨bc, 0, none⟩)) ∧ ColAt X bc bw N cap' s0 w' ∧ X.heap.size ≤ bc ∧ X.heap.size ≤ bw))
    (HLk : Hid (∀ (X w0 : World) (bc bw cap' : Nat), ColAt w0 bc bw N cap' s0 X → Calls Try.prog 50 #[.pointer (some ⟨bc, 0, none⟩), .int .i64 x] X (LookPost w0 bc bw N cap' o)))
    (HTd : Hid (∀ (s1 : CN) (X w0 : World) (bc bw cap' : Nat), o = some s1 → ColAt w0 bc bw N cap' s1 X → Calls Try.prog 45 #[.pointer (some ⟨bc, 0, none⟩)] X fun e w' => e = .returned (heapV (.slice (some ⟨bw, 0, none⟩) N cap') { s1.h with touched := touchZ s1 }) ∧ Below X.heap.size X w')) :
    Calls Try.prog 19 #[heapV (.slice (some ⟨b, off, none⟩) N cap) h, .int .i64 x] w (ScanTold N w o) := by
  obtain ⟨g1, g2, g3, g4, g5, g6, g7, g8, g9⟩ := h
  unfold heapV at *
  dsimp only at *
  obtain ⟨W0, hW0, hA, hR, k2⟩ := both_new w (.slice (some ⟨b, off, none⟩) N cap) ⟨g1, g2, g3, g4, g5, g6, g7, g8, g9⟩
  dsimp only at hW0
  have HW0 := hid hW0
  clear hW0
  go_enter Try.func19, Try.ntmps19
  go_wp2_with fail
  rw [HW0.out]
  have hlt := heap_lt hA
  obtain ⟨v0, v1, v2, v3, v4, v5, v6, v7, v8, v9⟩ := hA.later (B := W0.heap.size) hlt
  dsimp only at v0 v1 v2 v3 v4 v5 v6 v7 v8 v9
  have HA := hid hA
  have HR := hid hR
  have HK2 := hid k2
  clear hA hR k2 HW0
  have KB : Hid (∀ X : Later W0.heap.size W0, Below w.heap.size w X.w ∧ w.heap.size ≤ X.w.heap.size) := fun X => by
    have k := HK2.out.trans (X.h.mono HK2.out.size)
    exact ⟨k, k.size⟩
  clear v0 v1 v2 v3 v4 v5 v6 v7 v8 v9
  refine (HOk.out _ HK2.out).mono ?_
  rintro e W6 ⟨rfl, hb6⟩
  have HB6 := hid (HK2.out.trans (hb6.mono HK2.out.size))
  have HR6 := hid (HR.out.below hb6)
  have HA6 := hid (HA.out.below hb6)
  clear hb6
  obtain ⟨c0, c1, c2, c3, c4, c5, c6, c7, c8, c9⟩ := HA6.out.cells
  dsimp only at c0 c1 c2 c3 c4 c5 c6 c7 c8 c9
  go_wp2_with fail
  refine (HOp.out _ HB6.out).mono ?_
  rintro e W7 ⟨bc, bw, cap', rfl, hW7, hlo, hlo2⟩
  have HW7 := hid hW7
  have hlt6 := heap_lt HR6.out
  clear hW7 HOp HA6 c0 c1 c2 c3 c4 c5 c6 c7 c8 c9
  have HLk' := hid (HLk.out _ _ _ _ _ HW7.out)
  clear HLk HW7
  go_wp2_with fail
  cases o with
  | none =>
    refine HLk'.out.mono ?_
    rintro e W8 ⟨rfl, s1, hC8⟩
    have HB8 := hid (HB6.out.trans ((Col.frame hC8).below hlo hlo2 |>.mono HB6.out.size))
    have HR8 := hid (HR6.out.below ((Col.frame hC8).below hlo hlo2))
    clear hC8 HR6 HB6 HTd HLk'
    obtain ⟨c0, c1, c2, c3, c4, c5, c6, c7, c8, c9⟩ := HR8.out.cells
    dsimp only at c0 c1 c2 c3 c4 c5 c6 c7 c8 c9
    have z0 := frozen_of_heap HR8.out 0
    have z1 := frozen_of_heap HR8.out 1
    have z2 := frozen_of_heap HR8.out 2
    have z3 := frozen_of_heap HR8.out 3
    have z4 := frozen_of_heap HR8.out 4
    have z5 := frozen_of_heap HR8.out 5
    have z6 := frozen_of_heap HR8.out 6
    have z7 := frozen_of_heap HR8.out 7
    have z8 := frozen_of_heap HR8.out 8
    have z9 := frozen_of_heap HR8.out 9
    go_wp2_with fail
    refine heap_use HR8.out (.slice none 0 0) ⟨0, 0, 0, 0, 0, 0, 0, 0, 0⟩ _ ?_
    intro W7 hL hb7 _ _
    obtain ⟨y0, y1, y2, y3, y4, y5, y6, y7, y8, y9⟩ := hL.cells
    dsimp only at y0 y1 y2 y3 y4 y5 y6 y7 y8 y9
    exact bodyPost_ret (v := .tuple #[noHeap, .bool false]) (by simp [results, Try.results19, go_sem, y0, y1, y2, y3, y4, y5, y6, y7, y8, y9, noHeap, heapV]) rfl ⟨rfl, HB8.out.trans (hb7 _ (Nat.le_succ _))⟩
  | some s1 =>
    refine HLk'.out.mono ?_
    rintro e W8 ⟨rfl, hC8⟩
    have HW8 := hid hC8
    have HTd' := hid (HTd.out s1 W8 W6 bc bw cap' rfl HW8.out)
    clear hC8 HLk' HTd
    obtain ⟨i9, hi9⟩ : ∃ i9, touchZ s1 = i9 := ⟨_, rfl⟩
    have HI9 := hid hi9
    rw [hi9] at HTd'
    clear hi9
    go_wp2_with fail
    refine HTd'.out.mono ?_
    rintro e W9 ⟨rfl, hb9⟩
    have HW9 := hid (Col.keep HW8.out hb9)
    have HR9 := hid (HR6.out.below (HW9.out.frame.below hlo hlo2))
    have HB9 := hid (HB6.out.trans ((HW9.out.frame.below hlo hlo2).mono HB6.out.size))
    obtain ⟨c0, c1, c2, c3, c4, c5, c6, c7, c8, c9⟩ := HR9.out.cells
    dsimp only at c0 c1 c2 c3 c4 c5 c6 c7 c8 c9
    have z0 := frozen_of_heap HR9.out 0
    have z1 := frozen_of_heap HR9.out 1
    have z2 := frozen_of_heap HR9.out 2
    have z3 := frozen_of_heap HR9.out 3
    have z4 := frozen_of_heap HR9.out 4
    have z5 := frozen_of_heap HR9.out 5
    have z6 := frozen_of_heap HR9.out 6
    have z7 := frozen_of_heap HR9.out 7
    have z8 := frozen_of_heap HR9.out 8
    have z9 := frozen_of_heap HR9.out 9
    clear hb9 HTd' HW8 HR6 HB6
    go_wp2_with fail
    refine heap_use HR9.out (.slice (some ⟨bw, 0, none⟩) N cap') ⟨s1.h.size, s1.h.to, s1.h.bottom, s1.h.top, s1.h.scan, s1.h.fb, s1.h.ft, s1.h.flips, i9⟩ _ ?_
    intro W10 hL hb10 _ hoth
    obtain ⟨y0, y1, y2, y3, y4, y5, y6, y7, y8, y9⟩ := hL.cells
    dsimp only at y0 y1 y2 y3 y4 y5 y6 y7 y8 y9
    refine bodyPost_ret (v := .tuple #[heapV (.slice (some ⟨bw, 0, none⟩) N cap') ⟨s1.h.size, s1.h.to, s1.h.bottom, s1.h.top, s1.h.scan, s1.h.fb, s1.h.ft, s1.h.flips, i9⟩, .bool true]) (by simp [results, Try.results19, go_sem, y0, y1, y2, y3, y4, y5, y6, y7, y8, y9, heapV]) rfl ?_
    exact ⟨bw, cap', by rw [HI9.out], HW9.out.row.of_block (hoth _ (by omega)), by have := HB9.out.size; omega, HB9.out.trans (hb10 _ (Nat.le_succ _))⟩

end Go.Proofs.Ytebpgglegnljgaa

/- HeapScan: both sides answer the same, whatever they are given. -/
namespace Go.Proofs.Ytebpgglegnljgaa
open Go.RowKit

/-- A heap and a bool are told; the heap's words are new. -/
def Told2 (W : World) (ans : List Int) (H : HpN) (ok : Bool) (e : Ending) (w' : World) : Prop :=
  (∃ v, e = .returned (.tuple #[heapV v H, .bool ok]) ∧ SliceR 3 1 W.heap.size w' v ans.length (intCells ans)) ∧ Below W.heap.size W w'

theorem told2_none {W w' : World} {e : Ending} (h : e = .returned (.tuple #[noHeap, .bool false]) ∧ Below W.heap.size W w') : Told2 W [] ⟨0, 0, 0, 0, 0, 0, 0, 0, 0⟩ false e w' :=
  ⟨⟨_, h.1, none, 0, rfl, Or.inl rfl⟩, h.2⟩

theorem told2_some {N : Nat} {W w' : World} {ws : List Int} {H : HpN} {e : Ending} (hl : ws.length = N) (h : HeapTold N W ws H e w') : Told2 W ws H true e w' := by
  obtain ⟨bw, cap, rfl, hr, hlow, hb⟩ := h
  subst hl
  exact ⟨⟨_, rfl, some ⟨bw, 0, none⟩, cap, rfl, Or.inr ⟨bw, rfl, hlow, by rw [Nat.mul_one]; exact hr⟩⟩, hb⟩

/-- Words in a row of their own, at a later world. -/
theorem row_at {B g N : Nat} {bs : List Int} {W X : World} (h0 : N ≠ 0) (hs : SliceR 3 1 B W (.slice (some ⟨g, 0, none⟩) N N) N (intCells bs)) (hX : Below W.heap.size W X) :
    g < X.heap.size ∧ ∀ k, k < N → X.cell? ⟨g, 0 + k, none⟩ = some (.int .i64 (bs.getD k 0)) := by
  obtain ⟨ad, cap, e, hh⟩ := hs
  obtain ⟨g', e2, hB, hr⟩ := hh.resolve_left h0
  cases e
  cases e2
  rw [Nat.mul_one] at hr
  exact ⟨Nat.lt_of_lt_of_le hr.lt hX.size, fun k hk => by rw [Nat.zero_add]; exact (hX.cell (p := ⟨g, k, none⟩) hr.lt).trans (hr.cell hk)⟩

theorem told_same (t r q : Int) : wrap64 (wrap64 (t + r) + q) = wrap64 (t + (r + q)) := by
  unfold wrap64
  omega

theorem scan_both (bs : List Int) (h : HpN) (ht : h.touched < 9223372036854775808) (hm : bs.length ≤ 1048576) (x : Int) : ∃ ans H ok, ans.length ≤ 1048576 ∧
    (∀ B g W, SliceR 3 1 B W (.slice (some ⟨g, 0, none⟩) bs.length bs.length) bs.length (intCells bs) → Calls Try.prog 25 #[heapV (.slice (some ⟨g, 0, none⟩) bs.length bs.length) h, .int .i64 x] W (Told2 W ans H ok)) ∧
    (∀ B g W, SliceR 3 1 B W (.slice (some ⟨g, 0, none⟩) bs.length bs.length) bs.length (intCells bs) → Calls Try.prog 19 #[heapV (.slice (some ⟨g, 0, none⟩) bs.length bs.length) h, .int .i64 x] W (Told2 W ans H ok)) := by
  have IOk : ∀ B g W, SliceR 3 1 B W (.slice (some ⟨g, 0, none⟩) bs.length bs.length) bs.length (intCells bs) → ∀ X, Below W.heap.size W X → Calls Try.prog 15 #[heapV (.slice (some ⟨g, 0, none⟩) bs.length bs.length) h] X fun e w' => e = .returned (.bool (if Ordered h bs.length then implOk bs h else false)) ∧ Below X.heap.size X w' := fun B g W hs X hX => by
    refine iOk_calls (fun w hb => ?_)
    have hXw := hX.trans (hb.mono hX.size)
    by_cases ho : Ordered h bs.length
    · rw [if_pos ho]
      have h0 : bs.length ≠ 0 := by obtain ⟨o1, o2, o3, _⟩ := ho; omega
      refine (layOut_calls g 0 bs.length bs.length bs h w rfl ho (Nat.le_refl _) (row_at h0 hs hXw).1 (row_at h0 hs hXw).2).mono ?_
      rintro e w' ⟨hres, hb'⟩
      refine ⟨?_, hb'⟩
      rcases hres with ⟨e1, rfl⟩ | ⟨S, gb, _, e1, rfl, _⟩
      · rw [e1]
        exact ⟨_, _, _, _, _, _, _, rfl⟩
      · rw [e1]
        exact ⟨_, _, _, _, _, _, _, rfl⟩
    · rw [if_neg ho]
      refine (layOut_bad _ _ _ h w ho).mono ?_
      rintro e w' ⟨rfl, hb'⟩
      exact ⟨⟨_, _, _, _, _, _, _, rfl⟩, hb'⟩
  have SOk : ∀ B g W, SliceR 3 1 B W (.slice (some ⟨g, 0, none⟩) bs.length bs.length) bs.length (intCells bs) → ∀ X, Below W.heap.size W X → Calls Try.prog 35 #[heapV (.slice (some ⟨g, 0, none⟩) bs.length bs.length) h] X fun e w' => e = .returned (.bool (if Ordered h bs.length then implOk bs h else false)) ∧ Below X.heap.size X w' := fun B g W hs X hX => by
    by_cases ho : Ordered h bs.length
    · rw [if_pos ho, ← ok_same ho]
      have h0 : bs.length ≠ 0 := by obtain ⟨o1, o2, o3, _⟩ := ho; omega
      exact specOk_calls g 0 bs.length bs.length bs h X rfl ho (row_at h0 hs hX).1 (row_at h0 hs hX).2
    · rw [if_neg ho]
      exact specOk_bad _ _ _ h X hm ho
  by_cases hx0 : x < 0
  · cases hk : (if Ordered h bs.length then implOk bs h else false) with
    | false =>
      rw [hk] at SOk
      exact ⟨[], _, _, by simp, fun B g W hs => (sScan_notOk g 0 bs.length bs.length h x W (SOk B g W hs)).mono (fun _ _ => told2_none), fun B g W hs => (iScan_below g 0 bs.length bs.length h x W hx0).mono (fun _ _ => told2_none)⟩
    | true =>
      rw [hk] at SOk
      exact ⟨[], _, _, by simp, fun B g W hs => (sScan_below g 0 bs.length bs.length h x W hx0 (SOk B g W hs)).mono (fun _ _ => told2_none), fun B g W hs => (iScan_below g 0 bs.length bs.length h x W hx0).mono (fun _ _ => told2_none)⟩
  have hd : decide (x < 0) = false := decide_eq_false hx0
  by_cases hx4 : 4000 < x
  · cases hk : (if Ordered h bs.length then implOk bs h else false) with
    | false =>
      rw [hk] at SOk
      exact ⟨[], _, _, by simp, fun B g W hs => (sScan_notOk g 0 bs.length bs.length h x W (SOk B g W hs)).mono (fun _ _ => told2_none), fun B g W hs => (iScan_above g 0 bs.length bs.length h x W hx4 hd).mono (fun _ _ => told2_none)⟩
    | true =>
      rw [hk] at SOk
      exact ⟨[], _, _, by simp, fun B g W hs => (sScan_above g 0 bs.length bs.length h x W hx4 hd (SOk B g W hs)).mono (fun _ _ => told2_none), fun B g W hs => (iScan_above g 0 bs.length bs.length h x W hx4 hd).mono (fun _ _ => told2_none)⟩
  have hd2 : decide (4000 < x) = false := decide_eq_false hx4
  cases hk : (if Ordered h bs.length then implOk bs h else false) with
  | false =>
    rw [hk] at SOk IOk
    exact ⟨[], _, _, by simp, fun B g W hs => (sScan_notOk g 0 bs.length bs.length h x W (SOk B g W hs)).mono (fun _ _ => told2_none), fun B g W hs => (iScan_notOk g 0 bs.length bs.length h x W hd hd2 (IOk B g W hs)).mono (fun _ _ => told2_none)⟩
  | true =>
    rw [hk] at SOk IOk
    have ho : Ordered h bs.length := by
      by_cases ho : Ordered h bs.length
      · exact ho
      · rw [if_neg ho] at hk
        cases hk
    rw [if_pos ho] at hk
    obtain ⟨S, ok⟩ := ok_facts ho (by rw [ok_same ho]; exact hk)
    have hstart := scn_start ok
    obtain ⟨o1, o2, o3, o4, o5, o6, o7, o8, o9, o10, o11, o12, o13⟩ := id ho
    have hN0 : bs.length ≠ 0 := by omega
    have hN8 : bs.length ≤ 8000 := by omega
    obtain ⟨n, hn⟩ := Int.eq_ofNat_of_zero_le (show 0 ≤ x by omega)
    have SOp : ∀ B g W, SliceR 3 1 B W (.slice (some ⟨g, 0, none⟩) bs.length bs.length) bs.length (intCells bs) → ∀ X, Below W.heap.size W X → Calls Try.prog 46 #[heapV (.slice (some ⟨g, 0, none⟩) bs.length bs.length) h] X fun e w' => ∃ bm bw cap' : Nat, e = .returned (.pointer (some ⟨bm, 0, none⟩)) ∧ Wk X bm bw bs.length cap' ⟨bs, h, 0, 0⟩ false w' ∧ X.heap.size ≤ bm ∧ X.heap.size ≤ bw := fun B g W hs X hX => open_calls g 0 bs.length bs.length bs h X (by omega) rfl hN8 (row_at hN0 hs hX).1 (row_at hN0 hs hX).2 o6 ht
    have IOp : ∀ B g W, SliceR 3 1 B W (.slice (some ⟨g, 0, none⟩) bs.length bs.length) bs.length (intCells bs) → ∀ X, Below W.heap.size W X → Calls Try.prog 42 #[heapV (.slice (some ⟨g, 0, none⟩) bs.length bs.length) h] X fun e w' => ∃ bc bw cap' : Nat, e = .returned (.pointer (some ⟨bc, 0, none⟩)) ∧ ColAt X bc bw bs.length cap' ⟨bs, h, 0, 0⟩ w' ∧ X.heap.size ≤ bc ∧ X.heap.size ≤ bw := fun B g W hs X hX => collectorOf_calls g 0 bs.length bs.length bs h X (by omega) rfl hN8 (row_at hN0 hs hX).1 (row_at hN0 hs hX).2
    have sS := fun B g W hs => sScan_good g 0 bs.length bs.length h x W n hn (by omega) hd hd2 ⟨bs, h, 0, 0⟩ (SOk B g W hs) (SOp B g W hs) (fun q s' X w0 bm bw cap' hq hX => sscan_calls hX (scanRun_scn hstart q s' hq))
    have sI := fun B g W hs => iScan_good g 0 bs.length bs.length h x W hd hd2 ⟨bs, h, 0, 0⟩ (scanRun n ⟨bs, h, 0, 0⟩) (IOk B g W hs) (IOp B g W hs) (fun X w0 bc bw cap' hX => by rw [hn]; exact look_calls ⟨bs, h, 0, 0⟩ hX hstart n (by omega)) (fun s1 X w0 bc bw cap' _ hX => by
      have e := told_calls hX
      rw [told_same] at e
      exact e)
    cases hr : scanRun n ⟨bs, h, 0, 0⟩ with
    | none =>
      rw [hr] at sS sI
      exact ⟨[], _, _, by simp, fun B g W hs => (sS B g W hs).mono (fun _ _ => told2_none), fun B g W hs => (sI B g W hs).mono (fun _ _ => told2_none)⟩
    | some s1 =>
      rw [hr] at sS sI
      have hl := (scanRun_scn hstart n s1 hr).len
      exact ⟨s1.ws, _, _, by omega, fun B g W hs => (sS B g W hs).mono (fun _ _ h => told2_some hl h), fun B g W hs => (sI B g W hs).mono (fun _ _ h => told2_some hl h)⟩
end Go.Proofs.Ytebpgglegnljgaa

/- HeapScan: what both sides answer, whatever they are given. -/
namespace Go.Proofs.Ytebpgglegnljgaa
open Go.RowKit

/-- The words and the numbers that are answered. -/
def ansW : Option CN → List Int
  | none => []
  | some s => s.ws
def ansH : Option CN → HpN
  | none => ⟨0, 0, 0, 0, 0, 0, 0, 0, 0⟩
  | some s => { s.h with touched := touchZ s }

/-- Looking through, as it is asked for. -/
def scanA (bs : List Int) (h : HpN) (x : Int) : Option CN := if 0 ≤ x ∧ x ≤ 4000 ∧ Ordered h bs.length ∧ specOk bs h = true then scanRun x.toNat ⟨bs, h, 0, 0⟩ else none

/-- Words in a row of their own, with room or without, at a later world. -/
theorem row_atC {B g N cp : Nat} {bs : List Int} {W X : World} (h0 : N ≠ 0) (hs : SliceR 3 1 B W (.slice (some ⟨g, 0, none⟩) N cp) N (intCells bs)) (hX : Below W.heap.size W X) :
    g < X.heap.size ∧ ∀ k, k < N → X.cell? ⟨g, 0 + k, none⟩ = some (.int .i64 (bs.getD k 0)) := by
  obtain ⟨ad, cap, e, hh⟩ := hs
  obtain ⟨g', e2, hB, hr⟩ := hh.resolve_left h0
  cases e
  cases e2
  rw [Nat.mul_one] at hr
  exact ⟨Nat.lt_of_lt_of_le hr.lt hX.size, fun k hk => by rw [Nat.zero_add]; exact (hX.cell (p := ⟨g, k, none⟩) hr.lt).trans (hr.cell hk)⟩

theorem scan_told (bs : List Int) (h : HpN) (ht : h.touched < 9223372036854775808) (hm : bs.length ≤ 1048576) (x : Int) :
    (∀ B g cp W, bs.length ≤ cp → SliceR 3 1 B W (.slice (some ⟨g, 0, none⟩) bs.length cp) bs.length (intCells bs) → Calls Try.prog 25 #[heapV (.slice (some ⟨g, 0, none⟩) bs.length cp) h, .int .i64 x] W (Told2 W (ansW (scanA bs h x)) (ansH (scanA bs h x)) (scanA bs h x).isSome)) ∧
    (∀ B g cp W, bs.length ≤ cp → SliceR 3 1 B W (.slice (some ⟨g, 0, none⟩) bs.length cp) bs.length (intCells bs) → Calls Try.prog 19 #[heapV (.slice (some ⟨g, 0, none⟩) bs.length cp) h, .int .i64 x] W (Told2 W (ansW (scanA bs h x)) (ansH (scanA bs h x)) (scanA bs h x).isSome)) := by
  have IOk : ∀ B g cp W, bs.length ≤ cp → SliceR 3 1 B W (.slice (some ⟨g, 0, none⟩) bs.length cp) bs.length (intCells bs) → ∀ X, Below W.heap.size W X → Calls Try.prog 15 #[heapV (.slice (some ⟨g, 0, none⟩) bs.length cp) h] X fun e w' => e = .returned (.bool (if Ordered h bs.length then implOk bs h else false)) ∧ Below X.heap.size X w' := fun B g cp W hcp hs X hX => by
    refine iOk_calls (fun w hb => ?_)
    have hXw := hX.trans (hb.mono hX.size)
    by_cases ho : Ordered h bs.length
    · rw [if_pos ho]
      have h0 : bs.length ≠ 0 := by obtain ⟨o1, o2, o3, _⟩ := ho; omega
      refine (layOut_calls g 0 cp bs.length bs h w rfl ho hcp (row_atC h0 hs hXw).1 (row_atC h0 hs hXw).2).mono ?_
      rintro e w' ⟨hres, hb'⟩
      refine ⟨?_, hb'⟩
      rcases hres with ⟨e1, rfl⟩ | ⟨S, gb, _, e1, rfl, _⟩
      · rw [e1]
        exact ⟨_, _, _, _, _, _, _, rfl⟩
      · rw [e1]
        exact ⟨_, _, _, _, _, _, _, rfl⟩
    · rw [if_neg ho]
      refine (layOut_bad _ _ _ h w ho).mono ?_
      rintro e w' ⟨rfl, hb'⟩
      exact ⟨⟨_, _, _, _, _, _, _, rfl⟩, hb'⟩
  have SOk : ∀ B g cp W, bs.length ≤ cp → SliceR 3 1 B W (.slice (some ⟨g, 0, none⟩) bs.length cp) bs.length (intCells bs) → ∀ X, Below W.heap.size W X → Calls Try.prog 35 #[heapV (.slice (some ⟨g, 0, none⟩) bs.length cp) h] X fun e w' => e = .returned (.bool (if Ordered h bs.length then implOk bs h else false)) ∧ Below X.heap.size X w' := fun B g cp W hcp hs X hX => by
    by_cases ho : Ordered h bs.length
    · rw [if_pos ho, ← ok_same ho]
      have h0 : bs.length ≠ 0 := by obtain ⟨o1, o2, o3, _⟩ := ho; omega
      exact specOk_calls g 0 cp bs.length bs h X rfl ho (row_atC h0 hs hX).1 (row_atC h0 hs hX).2
    · rw [if_neg ho]
      exact specOk_bad _ _ _ h X hm ho
  by_cases hx0 : x < 0
  · cases hk : (if Ordered h bs.length then implOk bs h else false) with
    | false =>
      rw [hk] at SOk
      have eN : scanA bs h x = none := by
        unfold scanA
        rw [if_neg]
        rintro ⟨a1, a2, a3, a4⟩
        first
        | omega
        | (rw [if_pos a3, ← ok_same a3, a4] at hk; cases hk)
      rw [eN]
      exact ⟨fun B g cp W hcp hs => (sScan_notOk g 0 cp bs.length h x W (SOk B g cp W hcp hs)).mono (fun _ _ => told2_none), fun B g cp W hcp hs => (iScan_below g 0 cp bs.length h x W hx0).mono (fun _ _ => told2_none)⟩
    | true =>
      rw [hk] at SOk
      have eN : scanA bs h x = none := by
        unfold scanA
        rw [if_neg]
        rintro ⟨a1, a2, a3, a4⟩
        first
        | omega
        | (rw [if_pos a3, ← ok_same a3, a4] at hk; cases hk)
      rw [eN]
      exact ⟨fun B g cp W hcp hs => (sScan_below g 0 cp bs.length h x W hx0 (SOk B g cp W hcp hs)).mono (fun _ _ => told2_none), fun B g cp W hcp hs => (iScan_below g 0 cp bs.length h x W hx0).mono (fun _ _ => told2_none)⟩
  have hd : decide (x < 0) = false := decide_eq_false hx0
  by_cases hx4 : 4000 < x
  · cases hk : (if Ordered h bs.length then implOk bs h else false) with
    | false =>
      rw [hk] at SOk
      have eN : scanA bs h x = none := by
        unfold scanA
        rw [if_neg]
        rintro ⟨a1, a2, a3, a4⟩
        first
        | omega
        | (rw [if_pos a3, ← ok_same a3, a4] at hk; cases hk)
      rw [eN]
      exact ⟨fun B g cp W hcp hs => (sScan_notOk g 0 cp bs.length h x W (SOk B g cp W hcp hs)).mono (fun _ _ => told2_none), fun B g cp W hcp hs => (iScan_above g 0 cp bs.length h x W hx4 hd).mono (fun _ _ => told2_none)⟩
    | true =>
      rw [hk] at SOk
      have eN : scanA bs h x = none := by
        unfold scanA
        rw [if_neg]
        rintro ⟨a1, a2, a3, a4⟩
        first
        | omega
        | (rw [if_pos a3, ← ok_same a3, a4] at hk; cases hk)
      rw [eN]
      exact ⟨fun B g cp W hcp hs => (sScan_above g 0 cp bs.length h x W hx4 hd (SOk B g cp W hcp hs)).mono (fun _ _ => told2_none), fun B g cp W hcp hs => (iScan_above g 0 cp bs.length h x W hx4 hd).mono (fun _ _ => told2_none)⟩
  have hd2 : decide (4000 < x) = false := decide_eq_false hx4
  cases hk : (if Ordered h bs.length then implOk bs h else false) with
  | false =>
    rw [hk] at SOk IOk
    have eN : scanA bs h x = none := by
      unfold scanA
      rw [if_neg]
      rintro ⟨a1, a2, a3, a4⟩
      first
      | omega
      | (rw [if_pos a3, ← ok_same a3, a4] at hk; cases hk)
    rw [eN]
    exact ⟨fun B g cp W hcp hs => (sScan_notOk g 0 cp bs.length h x W (SOk B g cp W hcp hs)).mono (fun _ _ => told2_none), fun B g cp W hcp hs => (iScan_notOk g 0 cp bs.length h x W hd hd2 (IOk B g cp W hcp hs)).mono (fun _ _ => told2_none)⟩
  | true =>
    rw [hk] at SOk IOk
    have ho : Ordered h bs.length := by
      by_cases ho : Ordered h bs.length
      · exact ho
      · rw [if_neg ho] at hk
        cases hk
    rw [if_pos ho] at hk
    obtain ⟨S, ok⟩ := ok_facts ho (by rw [ok_same ho]; exact hk)
    have hstart := scn_start ok
    obtain ⟨o1, o2, o3, o4, o5, o6, o7, o8, o9, o10, o11, o12, o13⟩ := id ho
    have hN0 : bs.length ≠ 0 := by omega
    have hN8 : bs.length ≤ 8000 := by omega
    obtain ⟨n, hn⟩ := Int.eq_ofNat_of_zero_le (show 0 ≤ x by omega)
    have SOp : ∀ B g cp W, bs.length ≤ cp → SliceR 3 1 B W (.slice (some ⟨g, 0, none⟩) bs.length cp) bs.length (intCells bs) → ∀ X, Below W.heap.size W X → Calls Try.prog 46 #[heapV (.slice (some ⟨g, 0, none⟩) bs.length cp) h] X fun e w' => ∃ bm bw cap' : Nat, e = .returned (.pointer (some ⟨bm, 0, none⟩)) ∧ Wk X bm bw bs.length cap' ⟨bs, h, 0, 0⟩ false w' ∧ X.heap.size ≤ bm ∧ X.heap.size ≤ bw := fun B g cp W hcp hs X hX => open_calls g 0 cp bs.length bs h X (by omega) rfl hN8 (row_atC hN0 hs hX).1 (row_atC hN0 hs hX).2 o6 ht
    have IOp : ∀ B g cp W, bs.length ≤ cp → SliceR 3 1 B W (.slice (some ⟨g, 0, none⟩) bs.length cp) bs.length (intCells bs) → ∀ X, Below W.heap.size W X → Calls Try.prog 42 #[heapV (.slice (some ⟨g, 0, none⟩) bs.length cp) h] X fun e w' => ∃ bc bw cap' : Nat, e = .returned (.pointer (some ⟨bc, 0, none⟩)) ∧ ColAt X bc bw bs.length cap' ⟨bs, h, 0, 0⟩ w' ∧ X.heap.size ≤ bc ∧ X.heap.size ≤ bw := fun B g cp W hcp hs X hX => collectorOf_calls g 0 cp bs.length bs h X (by omega) rfl hN8 (row_atC hN0 hs hX).1 (row_atC hN0 hs hX).2
    have sS := fun B g cp W hcp hs => sScan_good g 0 cp bs.length h x W n hn (by omega) hd hd2 ⟨bs, h, 0, 0⟩ (SOk B g cp W hcp hs) (SOp B g cp W hcp hs) (fun q s' X w0 bm bw cap' hq hX => sscan_calls hX (scanRun_scn hstart q s' hq))
    have sI := fun B g cp W hcp hs => iScan_good g 0 cp bs.length h x W hd hd2 ⟨bs, h, 0, 0⟩ (scanRun n ⟨bs, h, 0, 0⟩) (IOk B g cp W hcp hs) (IOp B g cp W hcp hs) (fun X w0 bc bw cap' hX => by rw [hn]; exact look_calls ⟨bs, h, 0, 0⟩ hX hstart n (by omega)) (fun s1 X w0 bc bw cap' _ hX => by
      have e := told_calls hX
      rw [told_same] at e
      exact e)
    cases hr : scanRun n ⟨bs, h, 0, 0⟩ with
    | none =>
      rw [hr] at sS sI
      have eN : scanA bs h x = none := by
        unfold scanA
        rw [if_pos ⟨by omega, by omega, ho, by rw [ok_same ho]; exact hk⟩, hn, Int.toNat_natCast]
        exact hr
      rw [eN]
      exact ⟨fun B g cp W hcp hs => (sS B g cp W hcp hs).mono (fun _ _ => told2_none), fun B g cp W hcp hs => (sI B g cp W hcp hs).mono (fun _ _ => told2_none)⟩
    | some s1 =>
      rw [hr] at sS sI
      have hl := (scanRun_scn hstart n s1 hr).len
      have eN : scanA bs h x = some s1 := by
        unfold scanA
        rw [if_pos ⟨by omega, by omega, ho, by rw [ok_same ho]; exact hk⟩, hn, Int.toNat_natCast]
        exact hr
      rw [eN]
      exact ⟨fun B g cp W hcp hs => (sS B g cp W hcp hs).mono (fun _ _ h => told2_some hl h), fun B g cp W hcp hs => (sI B g cp W hcp hs).mono (fun _ _ h => told2_some hl h)⟩
end Go.Proofs.Ytebpgglegnljgaa
