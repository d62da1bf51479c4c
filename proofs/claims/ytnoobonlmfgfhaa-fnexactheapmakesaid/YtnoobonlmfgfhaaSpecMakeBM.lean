/- The specification's HeapMake. -/
import Derived.Test.YtnoobonlmfgfhaaImplMakeBM
import Derived.Test.YtnoobonlmfgfhaaSpecWkE
namespace Go.Proofs.Ytnoobonlmfgfhaa
open Go.RowKit
set_option linter.unusedVariables false

set_option maxHeartbeats 4000000 in
set_option maxRecDepth 100000 in
theorem sMake_notOk (b off cap N : Nat) (h : HpN) (rg n rc fg nf fc : Nat) (kind mi fz : Int) (w : World)
    (HOk : Hid (∀ X, Below w.heap.size w X → Calls Try.prog 10 #[heapV (.slice (some ⟨b, off, none⟩) N cap) h] X fun e w' => e = .returned (.bool false) ∧ Below X.heap.size X w')) :
    Calls Try.prog 14 #[heapV (.slice (some ⟨b, off, none⟩) N cap) h, .slice (some ⟨rg, 0, none⟩) n rc, .int .i64 kind, .slice (some ⟨fg, 0, none⟩) nf fc, .int .i64 mi] w fun e w' => e = .returned (.tuple #[noHeap, .slice none 0 0, .int .i64 0, .bool false]) ∧ Below w.heap.size w w' := by
  obtain ⟨g1, g2, g3, g4, g5, g6, g7, g8, g9⟩ := h
  unfold heapV at *
  dsimp only at *
  obtain ⟨W0, hW0, hA, hR, k2⟩ := both_new w (.slice (some ⟨b, off, none⟩) N cap) ⟨g1, g2, g3, g4, g5, g6, g7, g8, g9⟩
  dsimp only at hW0
  have HW0 := hid hW0
  have HA := hid hA
  have HR := hid hR
  have HK2 := hid k2
  clear hW0 hA hR k2
  go_enter Try.func14, Try.ntmps14
  go_wp2_with fail
  rw [HW0.out]
  refine (HOk.out _ HK2.out).mono ?_
  rintro e W2 ⟨rfl, hb6⟩
  have HB2 := hid (HK2.out.trans (hb6.mono HK2.out.size))
  have HR2 := hid (HR.out.below hb6)
  have HA2 := hid (HA.out.below hb6)
  clear hb6 HW0 HA HR HK2 HOk
  obtain ⟨c0, c1, c2, c3, c4, c5, c6, c7, c8, c9⟩ := HR2.out.cells
  dsimp only at c0 c1 c2 c3 c4 c5 c6 c7 c8 c9
  have z0 := frozen_of_heap HR2.out 0
  have z1 := frozen_of_heap HR2.out 1
  have z2 := frozen_of_heap HR2.out 2
  have z3 := frozen_of_heap HR2.out 3
  have z4 := frozen_of_heap HR2.out 4
  have z5 := frozen_of_heap HR2.out 5
  have z6 := frozen_of_heap HR2.out 6
  have z7 := frozen_of_heap HR2.out 7
  have z8 := frozen_of_heap HR2.out 8
  have z9 := frozen_of_heap HR2.out 9
  go_wp2_with fail
  refine heap_use HR2.out (.slice none 0 0) ⟨0, 0, 0, 0, 0, 0, 0, 0, 0⟩ _ ?_
  intro W7z hL hb7 _ _
  obtain ⟨y0, y1, y2, y3, y4, y5, y6, y7, y8, y9⟩ := hL.cells
  dsimp only at y0 y1 y2 y3 y4 y5 y6 y7 y8 y9
  exact bodyPost_ret (v := .tuple #[noHeap, .slice none 0 0, .int .i64 0, .bool false]) (by simp [results, Try.results14, go_sem, y0, y1, y2, y3, y4, y5, y6, y7, y8, y9, noHeap, heapV]) rfl ⟨rfl, HB2.out.trans (hb7 _ (Nat.le_succ _))⟩

set_option maxHeartbeats 4000000 in
set_option maxRecDepth 100000 in
theorem sMake_kind (b off cap N : Nat) (h : HpN) (rg n rc fg nf fc : Nat) (kind mi fz : Int) (w : World)
    (hz : (fz == 0) = true) (hz2 : fz = 0)
    (HOk : Hid (∀ X, Below w.heap.size w X → Calls Try.prog 10 #[heapV (.slice (some ⟨b, off, none⟩) N cap) h] X fun e w' => e = .returned (.bool true) ∧ Below X.heap.size X w'))
    (HFd : Hid (∀ X, Calls Try.prog 41 #[.int .i64 kind] X fun e w' => e = .returned (.int .i64 fz) ∧ X = w')) :
    Calls Try.prog 14 #[heapV (.slice (some ⟨b, off, none⟩) N cap) h, .slice (some ⟨rg, 0, none⟩) n rc, .int .i64 kind, .slice (some ⟨fg, 0, none⟩) nf fc, .int .i64 mi] w fun e w' => e = .returned (.tuple #[noHeap, .slice none 0 0, .int .i64 0, .bool false]) ∧ Below w.heap.size w w' := by
  obtain ⟨g1, g2, g3, g4, g5, g6, g7, g8, g9⟩ := h
  unfold heapV at *
  dsimp only at *
  obtain ⟨W0, hW0, hA, hR, k2⟩ := both_new w (.slice (some ⟨b, off, none⟩) N cap) ⟨g1, g2, g3, g4, g5, g6, g7, g8, g9⟩
  dsimp only at hW0
  have HW0 := hid hW0
  have HA := hid hA
  have HR := hid hR
  have HK2 := hid k2
  clear hW0 hA hR k2
  go_enter Try.func14, Try.ntmps14
  go_wp2_with fail
  rw [HW0.out]
  refine (HOk.out _ HK2.out).mono ?_
  rintro e W2 ⟨rfl, hb6⟩
  have HB2 := hid (HK2.out.trans (hb6.mono HK2.out.size))
  have HR2 := hid (HR.out.below hb6)
  have HA2 := hid (HA.out.below hb6)
  clear hb6 HW0 HA HR HK2 HOk
  go_wp2_with fail
  refine (HFd.out _).mono ?_
  rintro e W3 ⟨rfl, rfl⟩
  obtain ⟨c0, c1, c2, c3, c4, c5, c6, c7, c8, c9⟩ := HR2.out.cells
  dsimp only at c0 c1 c2 c3 c4 c5 c6 c7 c8 c9
  have z0 := frozen_of_heap HR2.out 0
  have z1 := frozen_of_heap HR2.out 1
  have z2 := frozen_of_heap HR2.out 2
  have z3 := frozen_of_heap HR2.out 3
  have z4 := frozen_of_heap HR2.out 4
  have z5 := frozen_of_heap HR2.out 5
  have z6 := frozen_of_heap HR2.out 6
  have z7 := frozen_of_heap HR2.out 7
  have z8 := frozen_of_heap HR2.out 8
  have z9 := frozen_of_heap HR2.out 9
  go_wp2_with fail
  refine heap_use HR2.out (.slice none 0 0) ⟨0, 0, 0, 0, 0, 0, 0, 0, 0⟩ _ ?_
  intro W7z hL hb7 _ _
  obtain ⟨y0, y1, y2, y3, y4, y5, y6, y7, y8, y9⟩ := hL.cells
  dsimp only at y0 y1 y2 y3 y4 y5 y6 y7 y8 y9
  exact bodyPost_ret (v := .tuple #[noHeap, .slice none 0 0, .int .i64 0, .bool false]) (by simp [results, Try.results14, go_sem, y0, y1, y2, y3, y4, y5, y6, y7, y8, y9, noHeap, heapV]) rfl ⟨rfl, HB2.out.trans (hb7 _ (Nat.le_succ _))⟩

set_option maxHeartbeats 4000000 in
set_option maxRecDepth 100000 in
theorem sMake_len (b off cap N : Nat) (h : HpN) (rg n rc fg nf fc : Nat) (kind mi fz : Int) (w : World)
    (hz : (fz == 0) = false) (hz2 : ¬ fz = 0) (hl : ((nf : Int) != fz) = true) (hl2 : ¬ (nf : Int) = fz)
    (HOk : Hid (∀ X, Below w.heap.size w X → Calls Try.prog 10 #[heapV (.slice (some ⟨b, off, none⟩) N cap) h] X fun e w' => e = .returned (.bool true) ∧ Below X.heap.size X w'))
    (HFd : Hid (∀ X, Calls Try.prog 41 #[.int .i64 kind] X fun e w' => e = .returned (.int .i64 fz) ∧ X = w')) :
    Calls Try.prog 14 #[heapV (.slice (some ⟨b, off, none⟩) N cap) h, .slice (some ⟨rg, 0, none⟩) n rc, .int .i64 kind, .slice (some ⟨fg, 0, none⟩) nf fc, .int .i64 mi] w fun e w' => e = .returned (.tuple #[noHeap, .slice none 0 0, .int .i64 0, .bool false]) ∧ Below w.heap.size w w' := by
  obtain ⟨g1, g2, g3, g4, g5, g6, g7, g8, g9⟩ := h
  unfold heapV at *
  dsimp only at *
  obtain ⟨W0, hW0, hA, hR, k2⟩ := both_new w (.slice (some ⟨b, off, none⟩) N cap) ⟨g1, g2, g3, g4, g5, g6, g7, g8, g9⟩
  dsimp only at hW0
  have HW0 := hid hW0
  have HA := hid hA
  have HR := hid hR
  have HK2 := hid k2
  clear hW0 hA hR k2
  go_enter Try.func14, Try.ntmps14
  go_wp2_with fail
  rw [HW0.out]
  refine (HOk.out _ HK2.out).mono ?_
  rintro e W2 ⟨rfl, hb6⟩
  have HB2 := hid (HK2.out.trans (hb6.mono HK2.out.size))
  have HR2 := hid (HR.out.below hb6)
  have HA2 := hid (HA.out.below hb6)
  clear hb6 HW0 HA HR HK2 HOk
  go_wp2_with fail
  refine (HFd.out _).mono ?_
  rintro e W3 ⟨rfl, rfl⟩
  go_wp2_with fail
  refine (HFd.out _).mono ?_
  rintro e W3 ⟨rfl, rfl⟩
  obtain ⟨c0, c1, c2, c3, c4, c5, c6, c7, c8, c9⟩ := HR2.out.cells
  dsimp only at c0 c1 c2 c3 c4 c5 c6 c7 c8 c9
  have z0 := frozen_of_heap HR2.out 0
  have z1 := frozen_of_heap HR2.out 1
  have z2 := frozen_of_heap HR2.out 2
  have z3 := frozen_of_heap HR2.out 3
  have z4 := frozen_of_heap HR2.out 4
  have z5 := frozen_of_heap HR2.out 5
  have z6 := frozen_of_heap HR2.out 6
  have z7 := frozen_of_heap HR2.out 7
  have z8 := frozen_of_heap HR2.out 8
  have z9 := frozen_of_heap HR2.out 9
  go_wp2_with fail
  refine heap_use HR2.out (.slice none 0 0) ⟨0, 0, 0, 0, 0, 0, 0, 0, 0⟩ _ ?_
  intro W7z hL hb7 _ _
  obtain ⟨y0, y1, y2, y3, y4, y5, y6, y7, y8, y9⟩ := hL.cells
  dsimp only at y0 y1 y2 y3 y4 y5 y6 y7 y8 y9
  exact bodyPost_ret (v := .tuple #[noHeap, .slice none 0 0, .int .i64 0, .bool false]) (by simp [results, Try.results14, go_sem, y0, y1, y2, y3, y4, y5, y6, y7, y8, y9, noHeap, heapV]) rfl ⟨rfl, HB2.out.trans (hb7 _ (Nat.le_succ _))⟩

set_option maxHeartbeats 4000000 in
set_option maxRecDepth 100000 in
theorem sMake_neg (b off cap N : Nat) (h : HpN) (rg n rc fg nf fc : Nat) (kind mi fz : Int) (w : World)
    (hz : (fz == 0) = false) (hz2 : ¬ fz = 0) (hl : ((nf : Int) != fz) = false) (hl2 : (nf : Int) = fz) (hm : mi < 0)
    (HOk : Hid (∀ X, Below w.heap.size w X → Calls Try.prog 10 #[heapV (.slice (some ⟨b, off, none⟩) N cap) h] X fun e w' => e = .returned (.bool true) ∧ Below X.heap.size X w'))
    (HFd : Hid (∀ X, Calls Try.prog 41 #[.int .i64 kind] X fun e w' => e = .returned (.int .i64 fz) ∧ X = w')) :
    Calls Try.prog 14 #[heapV (.slice (some ⟨b, off, none⟩) N cap) h, .slice (some ⟨rg, 0, none⟩) n rc, .int .i64 kind, .slice (some ⟨fg, 0, none⟩) nf fc, .int .i64 mi] w fun e w' => e = .returned (.tuple #[noHeap, .slice none 0 0, .int .i64 0, .bool false]) ∧ Below w.heap.size w w' := by
  obtain ⟨g1, g2, g3, g4, g5, g6, g7, g8, g9⟩ := h
  unfold heapV at *
  dsimp only at *
  obtain ⟨W0, hW0, hA, hR, k2⟩ := both_new w (.slice (some ⟨b, off, none⟩) N cap) ⟨g1, g2, g3, g4, g5, g6, g7, g8, g9⟩
  dsimp only at hW0
  have HW0 := hid hW0
  have HA := hid hA
  have HR := hid hR
  have HK2 := hid k2
  clear hW0 hA hR k2
  go_enter Try.func14, Try.ntmps14
  go_wp2_with fail
  rw [HW0.out]
  refine (HOk.out _ HK2.out).mono ?_
  rintro e W2 ⟨rfl, hb6⟩
  have HB2 := hid (HK2.out.trans (hb6.mono HK2.out.size))
  have HR2 := hid (HR.out.below hb6)
  have HA2 := hid (HA.out.below hb6)
  clear hb6 HW0 HA HR HK2 HOk
  go_wp2_with fail
  refine (HFd.out _).mono ?_
  rintro e W3 ⟨rfl, rfl⟩
  go_wp2_with fail
  refine (HFd.out _).mono ?_
  rintro e W3 ⟨rfl, rfl⟩
  obtain ⟨c0, c1, c2, c3, c4, c5, c6, c7, c8, c9⟩ := HR2.out.cells
  dsimp only at c0 c1 c2 c3 c4 c5 c6 c7 c8 c9
  have z0 := frozen_of_heap HR2.out 0
  have z1 := frozen_of_heap HR2.out 1
  have z2 := frozen_of_heap HR2.out 2
  have z3 := frozen_of_heap HR2.out 3
  have z4 := frozen_of_heap HR2.out 4
  have z5 := frozen_of_heap HR2.out 5
  have z6 := frozen_of_heap HR2.out 6
  have z7 := frozen_of_heap HR2.out 7
  have z8 := frozen_of_heap HR2.out 8
  have z9 := frozen_of_heap HR2.out 9
  go_wp2_with fail
  refine heap_use HR2.out (.slice none 0 0) ⟨0, 0, 0, 0, 0, 0, 0, 0, 0⟩ _ ?_
  intro W7z hL hb7 _ _
  obtain ⟨y0, y1, y2, y3, y4, y5, y6, y7, y8, y9⟩ := hL.cells
  dsimp only at y0 y1 y2 y3 y4 y5 y6 y7 y8 y9
  exact bodyPost_ret (v := .tuple #[noHeap, .slice none 0 0, .int .i64 0, .bool false]) (by simp [results, Try.results14, go_sem, y0, y1, y2, y3, y4, y5, y6, y7, y8, y9, noHeap, heapV]) rfl ⟨rfl, HB2.out.trans (hb7 _ (Nat.le_succ _))⟩

set_option maxHeartbeats 4000000 in
set_option maxRecDepth 100000 in
theorem sMake_big (b off cap N : Nat) (h : HpN) (rg n rc fg nf fc : Nat) (kind mi fz : Int) (w : World)
    (hz : (fz == 0) = false) (hz2 : ¬ fz = 0) (hl : ((nf : Int) != fz) = false) (hl2 : (nf : Int) = fz) (hm : ¬ mi < 0) (hb : 20 < mi)
    (HOk : Hid (∀ X, Below w.heap.size w X → Calls Try.prog 10 #[heapV (.slice (some ⟨b, off, none⟩) N cap) h] X fun e w' => e = .returned (.bool true) ∧ Below X.heap.size X w'))
    (HFd : Hid (∀ X, Calls Try.prog 41 #[.int .i64 kind] X fun e w' => e = .returned (.int .i64 fz) ∧ X = w')) :
    Calls Try.prog 14 #[heapV (.slice (some ⟨b, off, none⟩) N cap) h, .slice (some ⟨rg, 0, none⟩) n rc, .int .i64 kind, .slice (some ⟨fg, 0, none⟩) nf fc, .int .i64 mi] w fun e w' => e = .returned (.tuple #[noHeap, .slice none 0 0, .int .i64 0, .bool false]) ∧ Below w.heap.size w w' := by
  obtain ⟨g1, g2, g3, g4, g5, g6, g7, g8, g9⟩ := h
  unfold heapV at *
  dsimp only at *
  obtain ⟨W0, hW0, hA, hR, k2⟩ := both_new w (.slice (some ⟨b, off, none⟩) N cap) ⟨g1, g2, g3, g4, g5, g6, g7, g8, g9⟩
  dsimp only at hW0
  have HW0 := hid hW0
  have HA := hid hA
  have HR := hid hR
  have HK2 := hid k2
  clear hW0 hA hR k2
  go_enter Try.func14, Try.ntmps14
  go_wp2_with fail
  rw [HW0.out]
  refine (HOk.out _ HK2.out).mono ?_
  rintro e W2 ⟨rfl, hb6⟩
  have HB2 := hid (HK2.out.trans (hb6.mono HK2.out.size))
  have HR2 := hid (HR.out.below hb6)
  have HA2 := hid (HA.out.below hb6)
  clear hb6 HW0 HA HR HK2 HOk
  go_wp2_with fail
  refine (HFd.out _).mono ?_
  rintro e W3 ⟨rfl, rfl⟩
  go_wp2_with fail
  refine (HFd.out _).mono ?_
  rintro e W3 ⟨rfl, rfl⟩
  obtain ⟨c0, c1, c2, c3, c4, c5, c6, c7, c8, c9⟩ := HR2.out.cells
  dsimp only at c0 c1 c2 c3 c4 c5 c6 c7 c8 c9
  have z0 := frozen_of_heap HR2.out 0
  have z1 := frozen_of_heap HR2.out 1
  have z2 := frozen_of_heap HR2.out 2
  have z3 := frozen_of_heap HR2.out 3
  have z4 := frozen_of_heap HR2.out 4
  have z5 := frozen_of_heap HR2.out 5
  have z6 := frozen_of_heap HR2.out 6
  have z7 := frozen_of_heap HR2.out 7
  have z8 := frozen_of_heap HR2.out 8
  have z9 := frozen_of_heap HR2.out 9
  go_wp2_with fail
  refine heap_use HR2.out (.slice none 0 0) ⟨0, 0, 0, 0, 0, 0, 0, 0, 0⟩ _ ?_
  intro W7z hL hb7 _ _
  obtain ⟨y0, y1, y2, y3, y4, y5, y6, y7, y8, y9⟩ := hL.cells
  dsimp only at y0 y1 y2 y3 y4 y5 y6 y7 y8 y9
  exact bodyPost_ret (v := .tuple #[noHeap, .slice none 0 0, .int .i64 0, .bool false]) (by simp [results, Try.results14, go_sem, y0, y1, y2, y3, y4, y5, y6, y7, y8, y9, noHeap, heapV]) rfl ⟨rfl, HB2.out.trans (hb7 _ (Nat.le_succ _))⟩

set_option maxHeartbeats 4000000 in
set_option maxRecDepth 100000 in
theorem sMake_many (b off cap N : Nat) (h : HpN) (rg n rc fg nf fc : Nat) (kind mi fz : Int) (w : World)
    (hz : (fz == 0) = false) (hz2 : ¬ fz = 0) (hl : ((nf : Int) != fz) = false) (hl2 : (nf : Int) = fz) (hm : ¬ mi < 0) (hb : ¬ 20 < mi) (hn : (20 : Int) < (n : Int))
    (HOk : Hid (∀ X, Below w.heap.size w X → Calls Try.prog 10 #[heapV (.slice (some ⟨b, off, none⟩) N cap) h] X fun e w' => e = .returned (.bool true) ∧ Below X.heap.size X w'))
    (HFd : Hid (∀ X, Calls Try.prog 41 #[.int .i64 kind] X fun e w' => e = .returned (.int .i64 fz) ∧ X = w')) :
    Calls Try.prog 14 #[heapV (.slice (some ⟨b, off, none⟩) N cap) h, .slice (some ⟨rg, 0, none⟩) n rc, .int .i64 kind, .slice (some ⟨fg, 0, none⟩) nf fc, .int .i64 mi] w fun e w' => e = .returned (.tuple #[noHeap, .slice none 0 0, .int .i64 0, .bool false]) ∧ Below w.heap.size w w' := by
  obtain ⟨g1, g2, g3, g4, g5, g6, g7, g8, g9⟩ := h
  unfold heapV at *
  dsimp only at *
  obtain ⟨W0, hW0, hA, hR, k2⟩ := both_new w (.slice (some ⟨b, off, none⟩) N cap) ⟨g1, g2, g3, g4, g5, g6, g7, g8, g9⟩
  dsimp only at hW0
  have HW0 := hid hW0
  have HA := hid hA
  have HR := hid hR
  have HK2 := hid k2
  clear hW0 hA hR k2
  go_enter Try.func14, Try.ntmps14
  go_wp2_with fail
  rw [HW0.out]
  refine (HOk.out _ HK2.out).mono ?_
  rintro e W2 ⟨rfl, hb6⟩
  have HB2 := hid (HK2.out.trans (hb6.mono HK2.out.size))
  have HR2 := hid (HR.out.below hb6)
  have HA2 := hid (HA.out.below hb6)
  clear hb6 HW0 HA HR HK2 HOk
  go_wp2_with fail
  refine (HFd.out _).mono ?_
  rintro e W3 ⟨rfl, rfl⟩
  go_wp2_with fail
  refine (HFd.out _).mono ?_
  rintro e W3 ⟨rfl, rfl⟩
  obtain ⟨c0, c1, c2, c3, c4, c5, c6, c7, c8, c9⟩ := HR2.out.cells
  dsimp only at c0 c1 c2 c3 c4 c5 c6 c7 c8 c9
  have z0 := frozen_of_heap HR2.out 0
  have z1 := frozen_of_heap HR2.out 1
  have z2 := frozen_of_heap HR2.out 2
  have z3 := frozen_of_heap HR2.out 3
  have z4 := frozen_of_heap HR2.out 4
  have z5 := frozen_of_heap HR2.out 5
  have z6 := frozen_of_heap HR2.out 6
  have z7 := frozen_of_heap HR2.out 7
  have z8 := frozen_of_heap HR2.out 8
  have z9 := frozen_of_heap HR2.out 9
  go_wp2_with fail
  refine heap_use HR2.out (.slice none 0 0) ⟨0, 0, 0, 0, 0, 0, 0, 0, 0⟩ _ ?_
  intro W7z hL hb7 _ _
  obtain ⟨y0, y1, y2, y3, y4, y5, y6, y7, y8, y9⟩ := hL.cells
  dsimp only at y0 y1 y2 y3 y4 y5 y6 y7 y8 y9
  exact bodyPost_ret (v := .tuple #[noHeap, .slice none 0 0, .int .i64 0, .bool false]) (by simp [results, Try.results14, go_sem, y0, y1, y2, y3, y4, y5, y6, y7, y8, y9, noHeap, heapV]) rfl ⟨rfl, HB2.out.trans (hb7 _ (Nat.le_succ _))⟩

set_option maxHeartbeats 4000000 in
set_option maxRecDepth 100000 in
theorem sMake_roots (b off cap N : Nat) (h : HpN) (rg n rc fg nf fc : Nat) (kind mi fz : Int) (w : World)
    (hz : (fz == 0) = false) (hz2 : ¬ fz = 0) (hl : ((nf : Int) != fz) = false) (hl2 : (nf : Int) = fz) (hm : ¬ mi < 0) (hb : ¬ 20 < mi) (hn : ¬ (20 : Int) < (n : Int))
    (HOk : Hid (∀ X, Below w.heap.size w X → Calls Try.prog 10 #[heapV (.slice (some ⟨b, off, none⟩) N cap) h] X fun e w' => e = .returned (.bool true) ∧ Below X.heap.size X w'))
    (HFd : Hid (∀ X, Calls Try.prog 41 #[.int .i64 kind] X fun e w' => e = .returned (.int .i64 fz) ∧ X = w'))
    (HRt : Hid (∀ X, Below w.heap.size w X → Calls Try.prog 42 #[heapV (.slice (some ⟨b, off, none⟩) N cap) h, .slice (some ⟨rg, 0, none⟩) n rc] X fun e w' => e = .returned (.bool false) ∧ Below X.heap.size X w')) :
    Calls Try.prog 14 #[heapV (.slice (some ⟨b, off, none⟩) N cap) h, .slice (some ⟨rg, 0, none⟩) n rc, .int .i64 kind, .slice (some ⟨fg, 0, none⟩) nf fc, .int .i64 mi] w fun e w' => e = .returned (.tuple #[noHeap, .slice none 0 0, .int .i64 0, .bool false]) ∧ Below w.heap.size w w' := by
  obtain ⟨g1, g2, g3, g4, g5, g6, g7, g8, g9⟩ := h
  unfold heapV at *
  dsimp only at *
  obtain ⟨W0, hW0, hA, hR, k2⟩ := both_new w (.slice (some ⟨b, off, none⟩) N cap) ⟨g1, g2, g3, g4, g5, g6, g7, g8, g9⟩
  dsimp only at hW0
  have HW0 := hid hW0
  have HA := hid hA
  have HR := hid hR
  have HK2 := hid k2
  clear hW0 hA hR k2
  go_enter Try.func14, Try.ntmps14
  go_wp2_with fail
  rw [HW0.out]
  refine (HOk.out _ HK2.out).mono ?_
  rintro e W2 ⟨rfl, hb6⟩
  have HB2 := hid (HK2.out.trans (hb6.mono HK2.out.size))
  have HR2 := hid (HR.out.below hb6)
  have HA2 := hid (HA.out.below hb6)
  clear hb6 HW0 HA HR HK2 HOk
  go_wp2_with fail
  refine (HFd.out _).mono ?_
  rintro e W3 ⟨rfl, rfl⟩
  go_wp2_with fail
  refine (HFd.out _).mono ?_
  rintro e W3 ⟨rfl, rfl⟩
  obtain ⟨a0, a1, a2, a3, a4, a5, a6, a7, a8, a9⟩ := HA2.out.cells
  dsimp only at a0 a1 a2 a3 a4 a5 a6 a7 a8 a9
  go_wp2_with fail
  refine (HRt.out _ HB2.out).mono ?_
  rintro e W4 ⟨rfl, hb4⟩
  have HB4 := hid (HB2.out.trans (hb4.mono HB2.out.size))
  have HR4 := hid (HR2.out.below hb4)
  have HA4 := hid (HA2.out.below hb4)
  clear hb4 HB2 HR2 HA2 HRt a0 a1 a2 a3 a4 a5 a6 a7 a8 a9
  obtain ⟨c0, c1, c2, c3, c4, c5, c6, c7, c8, c9⟩ := HR4.out.cells
  dsimp only at c0 c1 c2 c3 c4 c5 c6 c7 c8 c9
  have z0 := frozen_of_heap HR4.out 0
  have z1 := frozen_of_heap HR4.out 1
  have z2 := frozen_of_heap HR4.out 2
  have z3 := frozen_of_heap HR4.out 3
  have z4 := frozen_of_heap HR4.out 4
  have z5 := frozen_of_heap HR4.out 5
  have z6 := frozen_of_heap HR4.out 6
  have z7 := frozen_of_heap HR4.out 7
  have z8 := frozen_of_heap HR4.out 8
  have z9 := frozen_of_heap HR4.out 9
  go_wp2_with fail
  refine heap_use HR4.out (.slice none 0 0) ⟨0, 0, 0, 0, 0, 0, 0, 0, 0⟩ _ ?_
  intro W7z hL hb7 _ _
  obtain ⟨y0, y1, y2, y3, y4, y5, y6, y7, y8, y9⟩ := hL.cells
  dsimp only at y0 y1 y2 y3 y4 y5 y6 y7 y8 y9
  exact bodyPost_ret (v := .tuple #[noHeap, .slice none 0 0, .int .i64 0, .bool false]) (by simp [results, Try.results14, go_sem, y0, y1, y2, y3, y4, y5, y6, y7, y8, y9, noHeap, heapV]) rfl ⟨rfl, HB4.out.trans (hb7 _ (Nat.le_succ _))⟩

set_option maxHeartbeats 4000000 in
set_option maxRecDepth 100000 in
theorem sMake_fields (b off cap N : Nat) (h : HpN) (rg n rc fg nf fc : Nat) (kind mi fz : Int) (w : World)
    (hz : (fz == 0) = false) (hz2 : ¬ fz = 0) (hl : ((nf : Int) != fz) = false) (hl2 : (nf : Int) = fz) (hm : ¬ mi < 0) (hb : ¬ 20 < mi) (hn : ¬ (20 : Int) < (n : Int))
    (HOk : Hid (∀ X, Below w.heap.size w X → Calls Try.prog 10 #[heapV (.slice (some ⟨b, off, none⟩) N cap) h] X fun e w' => e = .returned (.bool true) ∧ Below X.heap.size X w'))
    (HFd : Hid (∀ X, Calls Try.prog 41 #[.int .i64 kind] X fun e w' => e = .returned (.int .i64 fz) ∧ X = w'))
    (HRt : Hid (∀ X, Below w.heap.size w X → Calls Try.prog 42 #[heapV (.slice (some ⟨b, off, none⟩) N cap) h, .slice (some ⟨rg, 0, none⟩) n rc] X fun e w' => e = .returned (.bool true) ∧ Below X.heap.size X w'))
    (HFa : Hid (∀ X, Below w.heap.size w X → Calls Try.prog 42 #[heapV (.slice (some ⟨b, off, none⟩) N cap) h, .slice (some ⟨fg, 0, none⟩) nf fc] X fun e w' => e = .returned (.bool false) ∧ Below X.heap.size X w')) :
    Calls Try.prog 14 #[heapV (.slice (some ⟨b, off, none⟩) N cap) h, .slice (some ⟨rg, 0, none⟩) n rc, .int .i64 kind, .slice (some ⟨fg, 0, none⟩) nf fc, .int .i64 mi] w fun e w' => e = .returned (.tuple #[noHeap, .slice none 0 0, .int .i64 0, .bool false]) ∧ Below w.heap.size w w' := by
  obtain ⟨g1, g2, g3, g4, g5, g6, g7, g8, g9⟩ := h
  unfold heapV at *
  dsimp only at *
  obtain ⟨W0, hW0, hA, hR, k2⟩ := both_new w (.slice (some ⟨b, off, none⟩) N cap) ⟨g1, g2, g3, g4, g5, g6, g7, g8, g9⟩
  dsimp only at hW0
  have HW0 := hid hW0
  have HA := hid hA
  have HR := hid hR
  have HK2 := hid k2
  clear hW0 hA hR k2
  go_enter Try.func14, Try.ntmps14
  go_wp2_with fail
  rw [HW0.out]
  refine (HOk.out _ HK2.out).mono ?_
  rintro e W2 ⟨rfl, hb6⟩
  have HB2 := hid (HK2.out.trans (hb6.mono HK2.out.size))
  have HR2 := hid (HR.out.below hb6)
  have HA2 := hid (HA.out.below hb6)
  clear hb6 HW0 HA HR HK2 HOk
  go_wp2_with fail
  refine (HFd.out _).mono ?_
  rintro e W3 ⟨rfl, rfl⟩
  go_wp2_with fail
  refine (HFd.out _).mono ?_
  rintro e W3 ⟨rfl, rfl⟩
  obtain ⟨a0, a1, a2, a3, a4, a5, a6, a7, a8, a9⟩ := HA2.out.cells
  dsimp only at a0 a1 a2 a3 a4 a5 a6 a7 a8 a9
  go_wp2_with fail
  refine (HRt.out _ HB2.out).mono ?_
  rintro e W4 ⟨rfl, hb4⟩
  have HB4 := hid (HB2.out.trans (hb4.mono HB2.out.size))
  have HR4 := hid (HR2.out.below hb4)
  have HA4 := hid (HA2.out.below hb4)
  clear hb4 HB2 HR2 HA2 HRt a0 a1 a2 a3 a4 a5 a6 a7 a8 a9
  obtain ⟨a0, a1, a2, a3, a4, a5, a6, a7, a8, a9⟩ := HA4.out.cells
  dsimp only at a0 a1 a2 a3 a4 a5 a6 a7 a8 a9
  go_wp2_with fail
  refine (HFa.out _ HB4.out).mono ?_
  rintro e W6 ⟨rfl, hb4⟩
  have HB6 := hid (HB4.out.trans (hb4.mono HB4.out.size))
  have HR6 := hid (HR4.out.below hb4)
  have HA6 := hid (HA4.out.below hb4)
  clear hb4 HB4 HR4 HA4 HFa a0 a1 a2 a3 a4 a5 a6 a7 a8 a9
  obtain ⟨c0, c1, c2, c3, c4, c5, c6, c7, c8, c9⟩ := HR6.out.cells
  dsimp only at c0 c1 c2 c3 c4 c5 c6 c7 c8 c9
  have z0 := frozen_of_heap HR6.out 0
  have z1 := frozen_of_heap HR6.out 1
  have z2 := frozen_of_heap HR6.out 2
  have z3 := frozen_of_heap HR6.out 3
  have z4 := frozen_of_heap HR6.out 4
  have z5 := frozen_of_heap HR6.out 5
  have z6 := frozen_of_heap HR6.out 6
  have z7 := frozen_of_heap HR6.out 7
  have z8 := frozen_of_heap HR6.out 8
  have z9 := frozen_of_heap HR6.out 9
  go_wp2_with fail
  refine heap_use HR6.out (.slice none 0 0) ⟨0, 0, 0, 0, 0, 0, 0, 0, 0⟩ _ ?_
  intro W7z hL hb7 _ _
  obtain ⟨y0, y1, y2, y3, y4, y5, y6, y7, y8, y9⟩ := hL.cells
  dsimp only at y0 y1 y2 y3 y4 y5 y6 y7 y8 y9
  exact bodyPost_ret (v := .tuple #[noHeap, .slice none 0 0, .int .i64 0, .bool false]) (by simp [results, Try.results14, go_sem, y0, y1, y2, y3, y4, y5, y6, y7, y8, y9, noHeap, heapV]) rfl ⟨rfl, HB6.out.trans (hb7 _ (Nat.le_succ _))⟩

set_option maxHeartbeats 4000000 in
set_option maxRecDepth 100000 in
theorem sMake_good (b off cap N : Nat) (h : HpN) (rg n rc fg nf fc : Nat) (kind mi fz : Int) (w : World)
    (hz : (fz == 0) = false) (hz2 : ¬ fz = 0) (hl : ((nf : Int) != fz) = false) (hl2 : (nf : Int) = fz) (hm : ¬ mi < 0) (hb : ¬ 20 < mi) (hn : ¬ (20 : Int) < (n : Int)) (xs fs : List Int) (hlx : xs.length = n) (hlf : fs.length = nf) (hnf5 : nf ≤ 5) (hrg : 0 < n → rg < w.heap.size) (hfg : 0 < nf → fg < w.heap.size) (Hxs : Hid (∀ k, k < n → w.cell? ⟨rg, k, none⟩ = some (.int .i64 (xs.getD k 0)))) (Hfs : Hid (∀ k, k < nf → w.cell? ⟨fg, k, none⟩ = some (.int .i64 (fs.getD k 0)))) (s0 : CN) (o : Option (List Int × CN))
    (HOk : Hid (∀ X, Below w.heap.size w X → Calls Try.prog 10 #[heapV (.slice (some ⟨b, off, none⟩) N cap) h] X fun e w' => e = .returned (.bool true) ∧ Below X.heap.size X w'))
    (HFd : Hid (∀ X, Calls Try.prog 41 #[.int .i64 kind] X fun e w' => e = .returned (.int .i64 fz) ∧ X = w'))
    (HRt : Hid (∀ X, Below w.heap.size w X → Calls Try.prog 42 #[heapV (.slice (some ⟨b, off, none⟩) N cap) h, .slice (some ⟨rg, 0, none⟩) n rc] X fun e w' => e = .returned (.bool true) ∧ Below X.heap.size X w'))
    (HFa : Hid (∀ X, Below w.heap.size w X → Calls Try.prog 42 #[heapV (.slice (some ⟨b, off, none⟩) N cap) h, .slice (some ⟨fg, 0, none⟩) nf fc] X fun e w' => e = .returned (.bool true) ∧ Below X.heap.size X w'))
    (HOp : Hid (∀ X, Below w.heap.size w X → Calls Try.prog 43 #[heapV (.slice (some ⟨b, off, none⟩) N cap) h] X fun e w' => ∃ bm bw cap' : Nat, e = .returned (.pointer (some ⟨bm, 0, none⟩)) ∧ Wk X bm bw N cap' s0 false w' ∧ X.heap.size ≤ bm ∧ X.heap.size ≤ bw))
    (HNw : Hid (∀ (X : World) (bm bw cap' g c gf c2 : Nat), Wk X bm bw N cap' s0 false X → gf ≠ bm → gf ≠ bw → g ≠ bm → g ≠ bw → gf ≠ g → CellRow 3 X gf nf (intCells fs) → CellRow 3 X g n (intCells xs) → Calls Try.prog 44 #[.pointer (some ⟨bm, 0, none⟩), .slice (some ⟨g, 0, none⟩) n c, .int .i64 kind, .slice (some ⟨gf, 0, none⟩) nf c2, .int .i64 mi] X (SNewPost X bm bw N cap' g n gf o))) :
    Calls Try.prog 14 #[heapV (.slice (some ⟨b, off, none⟩) N cap) h, .slice (some ⟨rg, 0, none⟩) n rc, .int .i64 kind, .slice (some ⟨fg, 0, none⟩) nf fc, .int .i64 mi] w (MakeTold N n w o) := by
  obtain ⟨g1, g2, g3, g4, g5, g6, g7, g8, g9⟩ := h
  unfold heapV at *
  dsimp only at *
  obtain ⟨W0, hW0, hA, hR, k2⟩ := both_new w (.slice (some ⟨b, off, none⟩) N cap) ⟨g1, g2, g3, g4, g5, g6, g7, g8, g9⟩
  dsimp only at hW0
  have HW0 := hid hW0
  have HA := hid hA
  have HR := hid hR
  have HK2 := hid k2
  clear hW0 hA hR k2
  go_enter Try.func14, Try.ntmps14
  go_wp2_with fail
  rw [HW0.out]
  refine (HOk.out _ HK2.out).mono ?_
  rintro e W2 ⟨rfl, hb6⟩
  have HB2 := hid (HK2.out.trans (hb6.mono HK2.out.size))
  have HR2 := hid (HR.out.below hb6)
  have HA2 := hid (HA.out.below hb6)
  clear hb6 HW0 HA HR HK2 HOk
  go_wp2_with fail
  refine (HFd.out _).mono ?_
  rintro e W3 ⟨rfl, rfl⟩
  go_wp2_with fail
  refine (HFd.out _).mono ?_
  rintro e W3 ⟨rfl, rfl⟩
  obtain ⟨a0, a1, a2, a3, a4, a5, a6, a7, a8, a9⟩ := HA2.out.cells
  dsimp only at a0 a1 a2 a3 a4 a5 a6 a7 a8 a9
  go_wp2_with fail
  refine (HRt.out _ HB2.out).mono ?_
  rintro e W4 ⟨rfl, hb4⟩
  have HB4 := hid (HB2.out.trans (hb4.mono HB2.out.size))
  have HR4 := hid (HR2.out.below hb4)
  have HA4 := hid (HA2.out.below hb4)
  clear hb4 HB2 HR2 HA2 HRt a0 a1 a2 a3 a4 a5 a6 a7 a8 a9
  obtain ⟨a0, a1, a2, a3, a4, a5, a6, a7, a8, a9⟩ := HA4.out.cells
  dsimp only at a0 a1 a2 a3 a4 a5 a6 a7 a8 a9
  go_wp2_with fail
  refine (HFa.out _ HB4.out).mono ?_
  rintro e W6 ⟨rfl, hb4⟩
  have HB6 := hid (HB4.out.trans (hb4.mono HB4.out.size))
  have HR6 := hid (HR4.out.below hb4)
  have HA6 := hid (HA4.out.below hb4)
  clear hb4 HB4 HR4 HA4 HFa a0 a1 a2 a3 a4 a5 a6 a7 a8 a9
  obtain ⟨a0, a1, a2, a3, a4, a5, a6, a7, a8, a9⟩ := HA6.out.cells
  dsimp only at a0 a1 a2 a3 a4 a5 a6 a7 a8 a9
  go_wp2_with fail
  refine (HOp.out _ HB6.out).mono ?_
  rintro e W8 ⟨bm, bw, cap', rfl, hW8, hlo, hlo2⟩
  have HW8 := hid hW8
  have hlt7 := heap_lt HR6.out
  have hk8 := hW8.frame.below hlo hlo2
  have HB8 := hid (HB6.out.trans (hk8.mono HB6.out.size))
  have hbmlt := heap_lt hW8.blk
  have hbwlt := hW8.row.lt
  have h86 := hk8.size
  clear hW8 HOp HA6 hk8 a0 a1 a2 a3 a4 a5 a6 a7 a8 a9
  obtain ⟨i0, hi, hz0, hz1, hz2⟩ := info_parts info_int
  have hE : (W8.alloc (.cells #[] 3)).heap[W8.heap.size]? = some (.cells #[] 3) := (MapKept.heap_alloc W8 _).1
  have k9 := (Below.refl W8.heap.size W8).alloc (Nat.le_refl _) (.cells #[] 3)
  have hsz9 : (W8.alloc (.cells #[] 3)).heap.size = W8.heap.size + 1 := by simp
  have HE := hid hE
  have HK9 := hid k9
  have HS9 := hid hsz9
  clear hE k9 hsz9
  go_wp2_with (first
    | (at_builtin; refine wpList_append_own _ rfl _ _ 22 rfl W8.heap.size 3 i0 (.int .i64 0) 1 8 Try.underlying22 hi hz0 hz1 hz2 rfl (by decide) (.slice (some ⟨W8.heap.size, 0, none⟩) 0 0) 0 [] rfl ⟨rfl, Or.inr ⟨W8.heap.size, 0, #[], rfl, by omega, HE.out, by omega, by decide, rfl, rfl⟩⟩ ⟨rg, 0, none⟩ n rc (xs.map (fun x => Value.int .i64 x)) rfl (by simp [hlx]) (fun j u hu => ?_) (fun u hu => ?_) (by unfold maxLen; omega) (by omega) (by rw [HS9.out]; omega) ?_))
  · rw [List.getElem?_map] at hu
    obtain ⟨x, hx, rfl⟩ := Option.map_eq_some_iff.1 hu
    have hj : j < n := by have := (List.getElem?_eq_some_iff.1 hx).1; omega
    have hkw := HB8.out.trans (HK9.out.mono HB8.out.size)
    have e := (hkw.cell (p := ⟨rg, j, none⟩) (hrg (by omega))).trans (Hxs.out j hj)
    rw [show xs.getD j 0 = x by simp [List.getD, hx]] at e
    have ea : (⟨rg, 0, none⟩ : Addr).add j = ⟨rg, j, none⟩ := by
      unfold Addr.add
      split
      · simp_all
      · simp
    rw [ea]
    exact e
  · simp only [List.mem_map] at hu
    obtain ⟨x, _, rfl⟩ := hu
    rfl
  intro vA WCA hown hgrow hnil
  obtain ⟨-, hh | ⟨gA, cA, cur, rfl, hgA, hcur, hcp, hcm, hcs, htk⟩⟩ := id hown
  · exact absurd hh.1 (by simpa using hnil)
  obtain ⟨hrow, hlowA⟩ := row_of_owns hlx hown
  have hbA : Below W8.heap.size W8 WCA := Below.grown HK9.out hgrow (by rw [HS9.out]; omega) (fun j hj => by simp [Value.ownBlock] at hj; omega)
  have HRowA := hid hrow
  clear hown hgrow hnil hcur hcp hcm hcs htk hrow HE HK9 HS9 i0 hi hz0 hz1 hz2
  have HWA := hid (HW8.out.keep hbA)
  have HBA := hid (HB8.out.trans (hbA.mono HB8.out.size))
  have hgm : gA ≠ bm := by omega
  have hgw : gA ≠ bw := by omega
  have hsA := hbA.size
  have hltA := HRowA.out.lt
  have hbmA := heap_lt HWA.out.blk
  have hbwA := HWA.out.row.lt
  clear hbA HW8 HB8 hbmlt hbwlt
  obtain ⟨i0, hi, hz0, hz1, hz2⟩ := info_parts info_int
  have hE : (WCA.alloc (.cells #[] 3)).heap[WCA.heap.size]? = some (.cells #[] 3) := (MapKept.heap_alloc WCA _).1
  have k9 := (Below.refl WCA.heap.size WCA).alloc (Nat.le_refl _) (.cells #[] 3)
  have hsz9 : (WCA.alloc (.cells #[] 3)).heap.size = WCA.heap.size + 1 := by simp
  have HE := hid hE
  have HK9 := hid k9
  have HS9 := hid hsz9
  clear hE k9 hsz9
  go_wp2_with (first
    | (at_builtin; refine wpList_append_own _ rfl _ _ 22 rfl WCA.heap.size 3 i0 (.int .i64 0) 1 8 Try.underlying22 hi hz0 hz1 hz2 rfl (by decide) (.slice (some ⟨WCA.heap.size, 0, none⟩) 0 0) 0 [] rfl ⟨rfl, Or.inr ⟨WCA.heap.size, 0, #[], rfl, by omega, HE.out, by omega, by decide, rfl, rfl⟩⟩ ⟨fg, 0, none⟩ nf fc (fs.map (fun x => Value.int .i64 x)) rfl (by simp [hlf]) (fun j u hu => ?_) (fun u hu => ?_) (by unfold maxLen; omega) (by omega) (by rw [HS9.out]; omega) ?_))
  · rw [List.getElem?_map] at hu
    obtain ⟨x, hx, rfl⟩ := Option.map_eq_some_iff.1 hu
    have hj : j < nf := by have := (List.getElem?_eq_some_iff.1 hx).1; omega
    have hkw := HBA.out.trans (HK9.out.mono HBA.out.size)
    have e := (hkw.cell (p := ⟨fg, j, none⟩) (hfg (by omega))).trans (Hfs.out j hj)
    rw [show fs.getD j 0 = x by simp [List.getD, hx]] at e
    have ea : (⟨fg, 0, none⟩ : Addr).add j = ⟨fg, j, none⟩ := by
      unfold Addr.add
      split
      · simp_all
      · simp
    rw [ea]
    exact e
  · simp only [List.mem_map] at hu
    obtain ⟨x, _, rfl⟩ := hu
    rfl
  intro vB WCB hown hgrow hnil
  obtain ⟨-, hh | ⟨gB, cB, cur, rfl, hgB, hcur, hcp, hcm, hcs, htk⟩⟩ := id hown
  · exact absurd hh.1 (by simpa using hnil)
  obtain ⟨hrow, hlowB⟩ := row_of_owns hlf hown
  have hbB : Below WCA.heap.size WCA WCB := Below.grown HK9.out hgrow (by rw [HS9.out]; omega) (fun j hj => by simp [Value.ownBlock] at hj; omega)
  have HRowB := hid hrow
  clear hown hgrow hnil hcur hcp hcm hcs htk hrow HE HK9 HS9 i0 hi hz0 hz1 hz2
  have HWB := hid (HWA.out.keep hbB)
  have HRA := hid (HRowA.out.of_block (hbB.block gA hltA))
  have hfm : gB ≠ bm := by omega
  have hfw : gB ≠ bw := by omega
  have hfg' : gB ≠ gA := by omega
  have hg6 : W6.heap.size ≤ gA := by omega
  have hf6 : W6.heap.size ≤ gB := by omega
  have HNw' := hid (HNw.out _ _ _ _ _ cA _ cB (HWB.out.rebase _ (Frm.refl _ _ _)) hfm hfw hgm hgw hfg' HRowB.out HRA.out)
  have HF9 := hid HWB.out.frame
  clear hbB HNw HWA HWB HRowA HRowB HRA HBA
  go_wp2_with fail
  refine HNw'.out.mono ?_
  intro e W10 hP
  have HP := hid hP
  clear hP HNw'
  have KB : Hid (∀ X, Frm4 WCB bm bw gA gB X → Below w.heap.size w X ∧ HeapBlk X (w.heap.size + 1) (.slice none 0 0) ⟨0, 0, 0, 0, 0, 0, 0, 0, 0⟩) := fun X hf => by
    obtain ⟨f1, f2, f3, f4, f5⟩ := hf
    have e1 : Below W6.heap.size W6 X := ⟨f1.trans HF9.out.os, f2.trans HF9.out.tape, f3.trans HF9.out.output, Nat.le_trans HF9.out.size f4, fun c hc => (f5 c (Nat.lt_of_lt_of_le hc HF9.out.size) (by omega) (by omega) (by omega) (by omega)).trans (HF9.out.block c hc (by omega) (by omega))⟩
    exact ⟨HB6.out.trans (e1.mono HB6.out.size), HR6.out.below e1⟩
  have hsz7 := HB6.out.size
  cases o with
  | none =>
    obtain ⟨rfl, ⟨s1, hc⟩, hf⟩ := HP.out
    have HB10 := hid (KB.out _ hf).1
    have HR10 := hid (KB.out _ hf).2
    have d10 := hc.blk.cells.2.2.2.2.2.2.2.2.2.2
    clear hc hf HP KB HF9 HB6 HR6
    obtain ⟨c0, c1, c2, c3, c4, c5, c6, c7, c8, c9⟩ := HR10.out.cells
    dsimp only at c0 c1 c2 c3 c4 c5 c6 c7 c8 c9
    have z0 := frozen_of_heap HR10.out 0
    have z1 := frozen_of_heap HR10.out 1
    have z2 := frozen_of_heap HR10.out 2
    have z3 := frozen_of_heap HR10.out 3
    have z4 := frozen_of_heap HR10.out 4
    have z5 := frozen_of_heap HR10.out 5
    have z6 := frozen_of_heap HR10.out 6
    have z7 := frozen_of_heap HR10.out 7
    have z8 := frozen_of_heap HR10.out 8
    have z9 := frozen_of_heap HR10.out 9
    go_wp2_with fail
    refine heap_use HR10.out (.slice none 0 0) ⟨0, 0, 0, 0, 0, 0, 0, 0, 0⟩ _ ?_
    intro W7z hL hb7 _ _
    obtain ⟨y0, y1, y2, y3, y4, y5, y6, y7, y8, y9⟩ := hL.cells
    dsimp only at y0 y1 y2 y3 y4 y5 y6 y7 y8 y9
    exact bodyPost_ret (v := .tuple #[noHeap, .slice none 0 0, .int .i64 0, .bool false]) (by simp [results, Try.results14, go_sem, y0, y1, y2, y3, y4, y5, y6, y7, y8, y9, noHeap, heapV]) rfl ⟨rfl, HB10.out.trans (hb7 _ (Nat.le_succ _))⟩
  | some p =>
    obtain ⟨ys, s1⟩ := p
    obtain ⟨rfl, hc, hry, hf⟩ := HP.out
    have HB10 := hid (KB.out _ hf).1
    have HR10 := hid (KB.out _ hf).2
    have HW10 := hid hc
    have HRy := hid hry
    obtain ⟨d0, d1, d2, d3, d4, d5, d6, d7, d8, d9, d10⟩ := hc.blk.cells
    obtain ⟨tau, htau⟩ : ∃ tau, touchZ s1 = tau := ⟨_, rfl⟩
    rw [htau] at d9
    have HTau := hid htau
    obtain ⟨wd, hwd⟩ : ∃ wd, makeZ 0 s1.h.top = wd := ⟨_, rfl⟩
    have HWd := hid hwd
    rw [hwd]
    clear htau hwd hc hry hf HP KB HF9 HB6 HR6
    obtain ⟨c0, c1, c2, c3, c4, c5, c6, c7, c8, c9⟩ := HR10.out.cells
    dsimp only at c0 c1 c2 c3 c4 c5 c6 c7 c8 c9
    have z0 := frozen_of_heap HR10.out 0
    have z1 := frozen_of_heap HR10.out 1
    have z2 := frozen_of_heap HR10.out 2
    have z3 := frozen_of_heap HR10.out 3
    have z4 := frozen_of_heap HR10.out 4
    have z5 := frozen_of_heap HR10.out 5
    have z6 := frozen_of_heap HR10.out 6
    have z7 := frozen_of_heap HR10.out 7
    have z8 := frozen_of_heap HR10.out 8
    have z9 := frozen_of_heap HR10.out 9
    go_wp2_with fail
    refine heap_use HR10.out (.slice (some ⟨bw, 0, none⟩) N cap') ⟨s1.h.size, s1.h.to, s1.h.bottom, s1.h.top, s1.h.scan, s1.h.fb, s1.h.ft, s1.h.flips, tau⟩ _ ?_
    intro W11 hL hb11 _ hoth
    obtain ⟨y0, y1, y2, y3, y4, y5, y6, y7, y8, y9⟩ := hL.cells
    dsimp only at y0 y1 y2 y3 y4 y5 y6 y7 y8 y9
    refine bodyPost_ret (v := .tuple #[heapV (.slice (some ⟨bw, 0, none⟩) N cap') ⟨s1.h.size, s1.h.to, s1.h.bottom, s1.h.top, s1.h.scan, s1.h.fb, s1.h.ft, s1.h.flips, tau⟩, .slice (some ⟨gA, 0, none⟩) n cA, .int .i64 wd, .bool true]) (by simp [results, Try.results14, go_sem, y0, y1, y2, y3, y4, y5, y6, y7, y8, y9, heapV]) rfl ?_
    exact ⟨bw, cap', gA, cA, by rw [HTau.out, HWd.out], HW10.out.row.of_block (hoth _ (by omega)), HRy.out.of_block (hoth _ (by omega)), hgw, by omega, by omega, HB10.out.trans (hb11 _ (Nat.le_succ _))⟩

end Go.Proofs.Ytnoobonlmfgfhaa
