/- The specification's HeapField: what is refused. -/
import Derived.Test.YtnoobonlmfgfhaaHHeapFlip1
import Derived.Test.YtnoobonlmfgfhaaSpecWkE
import Derived.Test.YtnoobonlmfgfhaaHHeapFlip2
namespace Go.Proofs.Ytnoobonlmfgfhaa
open Go.RowKit

/-- Both blocks of a function that has a heap and tells one. -/
theorem both_new (w : World) (v : Value) (h : HpN) : ∃ W0, (w.alloc (.cells #[v, .int .i64 h.size, .int .i64 h.to, .int .i64 h.bottom, .int .i64 h.top, .int .i64 h.scan, .int .i64 h.fb, .int .i64 h.ft, .int .i64 h.flips, .int .i64 h.touched] 27)).alloc (.cells #[.slice none 0 0, .int .i64 0, .int .i64 0, .int .i64 0, .int .i64 0, .int .i64 0, .int .i64 0, .int .i64 0, .int .i64 0, .int .i64 0] 27) = W0 ∧ HeapBlk W0 w.heap.size v h ∧ HeapBlk W0 (w.heap.size + 1) (.slice none 0 0) ⟨0, 0, 0, 0, 0, 0, 0, 0, 0⟩ ∧ Below w.heap.size w W0 := by
  have h2 := two_kept (w := w) (Below.refl ((w.alloc (.cells #[v, .int .i64 h.size, .int .i64 h.to, .int .i64 h.bottom, .int .i64 h.top, .int .i64 h.scan, .int .i64 h.fb, .int .i64 h.ft, .int .i64 h.flips, .int .i64 h.touched] 27)).alloc (.cells #[.slice none 0 0, .int .i64 0, .int .i64 0, .int .i64 0, .int .i64 0, .int .i64 0, .int .i64 0, .int .i64 0, .int .i64 0, .int .i64 0] 27)).heap.size _)
  exact ⟨_, rfl, h2.1, h2.2.1, h2.2.2⟩

set_option maxHeartbeats 4000000 in
set_option maxRecDepth 100000 in
theorem sField_notOk (b off cap N : Nat) (h : HpN) (x i : Int) (w : World)
    (HOk : Hid (∀ X, Below w.heap.size w X → Calls Try.prog 10 #[heapV (.slice (some ⟨b, off, none⟩) N cap) h] X fun e w' => e = .returned (.bool false) ∧ Below X.heap.size X w')) :
    Calls Try.prog 22 #[heapV (.slice (some ⟨b, off, none⟩) N cap) h, .int .i64 x, .int .i64 i] w fun e w' => e = .returned (.tuple #[noHeap, .int .i64 0, .bool false]) ∧ Below w.heap.size w w' := by
  obtain ⟨g1, g2, g3, g4, g5, g6, g7, g8, g9⟩ := h
  unfold heapV at *
  dsimp only at *
  obtain ⟨W0, hW0, hA, hR, k2⟩ := both_new w (.slice (some ⟨b, off, none⟩) N cap) ⟨g1, g2, g3, g4, g5, g6, g7, g8, g9⟩
  dsimp only at hW0
  have HW0 := hid hW0
  clear hW0
  go_enter Try.func22, Try.ntmps22
  go_wp2_with fail
  rw [HW0.out]
  have hlt := heap_lt hA
  obtain ⟨v0, v1, v2, v3, v4, v5, v6, v7, v8, v9⟩ := hA.later (B := W0.heap.size) hlt
  dsimp only at v0 v1 v2 v3 v4 v5 v6 v7 v8 v9
  have HA := hid hA
  have HR := hid hR
  have HK2 := hid k2
  clear hA hR k2 HW0
  have KB : Hid (∀ X : Later W0.heap.size W0, Below w.heap.size w X.w ∧ w.heap.size ≤ X.w.heap.size) := fun X => by
    have k := HK2.out.trans (X.h.mono HK2.out.size)
    exact ⟨k, k.size⟩
  refine wp_region_calm W0.heap.size (by kernel_rfl) (by kernel_rfl) ?_
  repeat (go_big_quiet_step (first | (rename_i x; go_at_call 10; refine (HOk.out _ (KB.out x).1).mono ?_; rintro e w5 ⟨rfl, hb5⟩; exact ⟨rfl, ⟨w5, x.h.trans (hb5.mono x.h.size)⟩, rfl⟩)))
  refine wpQuiet_nil ?_
  rintro w6 ⟨y, rfl⟩
  have HB6 := hid (KB.out y).1
  have HR6 := hid (HR.out.below y.h)
  clear v0 v1 v2 v3 v4 v5 v6 v7 v8 v9
  generalize y.w = W6 at *
  obtain ⟨c0, c1, c2, c3, c4, c5, c6, c7, c8, c9⟩ := HR6.out.cells
  dsimp only at c0 c1 c2 c3 c4 c5 c6 c7 c8 c9
  have z0 := frozen_of_heap HR6.out 0
  have z1 := frozen_of_heap HR6.out 1
  have z2 := frozen_of_heap HR6.out 2
  have z3 := frozen_of_heap HR6.out 3
  have z4 := frozen_of_heap HR6.out 4
  have z5 := frozen_of_heap HR6.out 5
  have z6 := frozen_of_heap HR6.out 6
  have z7 := frozen_of_heap HR6.out 7
  have z8 := frozen_of_heap HR6.out 8
  have z9 := frozen_of_heap HR6.out 9
  go_wp2_with fail
  refine heap_use HR6.out (.slice none 0 0) ⟨0, 0, 0, 0, 0, 0, 0, 0, 0⟩ _ ?_
  intro W7 hL hb7 _ _
  obtain ⟨y0, y1, y2, y3, y4, y5, y6, y7, y8, y9⟩ := hL.cells
  dsimp only at y0 y1 y2 y3 y4 y5 y6 y7 y8 y9
  exact bodyPost_ret (v := .tuple #[noHeap, .int .i64 0, .bool false]) (by simp [results, Try.results22, go_sem, y0, y1, y2, y3, y4, y5, y6, y7, y8, y9, noHeap, heapV]) rfl ⟨rfl, HB6.out.trans (hb7 _ (Nat.le_succ _))⟩

set_option maxHeartbeats 4000000 in
set_option maxRecDepth 100000 in
theorem sField_noPtr (b off cap N : Nat) (h : HpN) (x i : Int) (w : World)
    (t : Int) (ht2 : (t != 0) = true)
    (HOk : Hid (∀ X, Below w.heap.size w X → Calls Try.prog 10 #[heapV (.slice (some ⟨b, off, none⟩) N cap) h] X fun e w' => e = .returned (.bool true) ∧ Below X.heap.size X w'))
    (HT : Hid (∀ w, Calls Try.prog 38 #[.int .i64 x] w fun e w' => e = .returned (.int .i64 t) ∧ w = w')) :
    Calls Try.prog 22 #[heapV (.slice (some ⟨b, off, none⟩) N cap) h, .int .i64 x, .int .i64 i] w fun e w' => e = .returned (.tuple #[noHeap, .int .i64 0, .bool false]) ∧ Below w.heap.size w w' := by
  obtain ⟨g1, g2, g3, g4, g5, g6, g7, g8, g9⟩ := h
  unfold heapV at *
  dsimp only at *
  obtain ⟨W0, hW0, hA, hR, k2⟩ := both_new w (.slice (some ⟨b, off, none⟩) N cap) ⟨g1, g2, g3, g4, g5, g6, g7, g8, g9⟩
  dsimp only at hW0
  have HW0 := hid hW0
  clear hW0
  go_enter Try.func22, Try.ntmps22
  go_wp2_with fail
  rw [HW0.out]
  have hlt := heap_lt hA
  obtain ⟨v0, v1, v2, v3, v4, v5, v6, v7, v8, v9⟩ := hA.later (B := W0.heap.size) hlt
  dsimp only at v0 v1 v2 v3 v4 v5 v6 v7 v8 v9
  have HA := hid hA
  have HR := hid hR
  have HK2 := hid k2
  clear hA hR k2 HW0
  have KB : Hid (∀ X : Later W0.heap.size W0, Below w.heap.size w X.w ∧ w.heap.size ≤ X.w.heap.size) := fun X => by
    have k := HK2.out.trans (X.h.mono HK2.out.size)
    exact ⟨k, k.size⟩
  refine wp_region_calm W0.heap.size (by kernel_rfl) (by kernel_rfl) ?_
  repeat (go_big_quiet_step (first | (rename_i x; go_at_call 10; refine (HOk.out _ (KB.out x).1).mono ?_; rintro e w5 ⟨rfl, hb5⟩; exact ⟨rfl, ⟨w5, x.h.trans (hb5.mono x.h.size)⟩, rfl⟩) | (rename_i x; go_at_call 38; refine (HT.out _).mono ?_; rintro e w5 ⟨rfl, rfl⟩; exact ⟨rfl, x, rfl⟩)))
  refine wpQuiet_nil ?_
  rintro w6 ⟨y, rfl⟩
  have HB6 := hid (KB.out y).1
  have HR6 := hid (HR.out.below y.h)
  clear v0 v1 v2 v3 v4 v5 v6 v7 v8 v9
  generalize y.w = W6 at *
  obtain ⟨c0, c1, c2, c3, c4, c5, c6, c7, c8, c9⟩ := HR6.out.cells
  dsimp only at c0 c1 c2 c3 c4 c5 c6 c7 c8 c9
  have z0 := frozen_of_heap HR6.out 0
  have z1 := frozen_of_heap HR6.out 1
  have z2 := frozen_of_heap HR6.out 2
  have z3 := frozen_of_heap HR6.out 3
  have z4 := frozen_of_heap HR6.out 4
  have z5 := frozen_of_heap HR6.out 5
  have z6 := frozen_of_heap HR6.out 6
  have z7 := frozen_of_heap HR6.out 7
  have z8 := frozen_of_heap HR6.out 8
  have z9 := frozen_of_heap HR6.out 9
  go_wp2_with fail
  refine heap_use HR6.out (.slice none 0 0) ⟨0, 0, 0, 0, 0, 0, 0, 0, 0⟩ _ ?_
  intro W7 hL hb7 _ _
  obtain ⟨y0, y1, y2, y3, y4, y5, y6, y7, y8, y9⟩ := hL.cells
  dsimp only at y0 y1 y2 y3 y4 y5 y6 y7 y8 y9
  exact bodyPost_ret (v := .tuple #[noHeap, .int .i64 0, .bool false]) (by simp [results, Try.results22, go_sem, y0, y1, y2, y3, y4, y5, y6, y7, y8, y9, noHeap, heapV]) rfl ⟨rfl, HB6.out.trans (hb7 _ (Nat.le_succ _))⟩

set_option maxHeartbeats 4000000 in
set_option maxRecDepth 100000 in
theorem sField_noRoot (b off cap N : Nat) (h : HpN) (x i : Int) (w : World)
    (HOk : Hid (∀ X, Below w.heap.size w X → Calls Try.prog 10 #[heapV (.slice (some ⟨b, off, none⟩) N cap) h] X fun e w' => e = .returned (.bool true) ∧ Below X.heap.size X w'))
    (HT : Hid (∀ w, Calls Try.prog 38 #[.int .i64 x] w fun e w' => e = .returned (.int .i64 0) ∧ w = w'))
    (HRt : Hid (∀ X, Below w.heap.size w X → ∀ g, X.cell? ⟨g, 0, none⟩ = some (.int .i64 x) → Calls Try.prog 42 #[heapV (.slice (some ⟨b, off, none⟩) N cap) h, .slice (some ⟨g, 0, none⟩) 1 1] X fun e w' => e = .returned (.bool false) ∧ Below X.heap.size X w')) :
    Calls Try.prog 22 #[heapV (.slice (some ⟨b, off, none⟩) N cap) h, .int .i64 x, .int .i64 i] w fun e w' => e = .returned (.tuple #[noHeap, .int .i64 0, .bool false]) ∧ Below w.heap.size w w' := by
  obtain ⟨g1, g2, g3, g4, g5, g6, g7, g8, g9⟩ := h
  unfold heapV at *
  dsimp only at *
  obtain ⟨W0, hW0, hA, hR, k2⟩ := both_new w (.slice (some ⟨b, off, none⟩) N cap) ⟨g1, g2, g3, g4, g5, g6, g7, g8, g9⟩
  dsimp only at hW0
  have HW0 := hid hW0
  clear hW0
  go_enter Try.func22, Try.ntmps22
  go_wp2_with fail
  rw [HW0.out]
  have hlt := heap_lt hA
  obtain ⟨v0, v1, v2, v3, v4, v5, v6, v7, v8, v9⟩ := hA.later (B := W0.heap.size) hlt
  dsimp only at v0 v1 v2 v3 v4 v5 v6 v7 v8 v9
  have HA := hid hA
  have HR := hid hR
  have HK2 := hid k2
  clear hA hR k2 HW0
  have KB : Hid (∀ X : Later W0.heap.size W0, Below w.heap.size w X.w ∧ w.heap.size ≤ X.w.heap.size) := fun X => by
    have k := HK2.out.trans (X.h.mono HK2.out.size)
    exact ⟨k, k.size⟩
  refine stage_begin (S := fun w' => ∃ x : Later W0.heap.size W0, w' = x.w) (by kernel_rfl) ?_
  refine stage_walk (by kernel_rfl) 11 0 _ _ (by kernel_rfl) ⟨⟨W0.drew, (Below.refl _ _).drew⟩, rfl⟩ ?_
  simp only [List.drop_zero, List.take_succ_cons, List.take_zero]
  repeat (go_big_quiet_step (first | (rename_i x; go_at_call 10; refine (HOk.out _ (KB.out x).1).mono ?_; rintro e w5 ⟨rfl, hb5⟩; exact ⟨rfl, ⟨w5, x.h.trans (hb5.mono x.h.size)⟩, rfl⟩) | (rename_i x; go_at_call 38; refine (HT.out _).mono ?_; rintro e w5 ⟨rfl, rfl⟩; exact ⟨rfl, x, rfl⟩)))
  refine wpQuiet_nil ?_
  rintro w5 ⟨x1, rfl⟩
  refine stage_make (k := 11) (v := .slice (some ⟨x1.w.heap.size, 0, none⟩) 1 1) (w1 := x1.w.alloc (.cells #[.int .i64 x] 3)) rfl (by kernel_rfl) rfl (by simp [go_sem]) ⟨⟨_, x1.h.alloc x1.h.size _⟩, rfl⟩ (by simp [go_sem]; exact rfl) ?_
  have hN0 : (x1.w.alloc (.cells #[.int .i64 x] 3)).heap[x1.w.heap.size]? = some (.cells #[.int .i64 x] 3) := (MapKept.heap_alloc x1.w _).1
  have hL1 := x1.h.alloc x1.h.size (.cells #[.int .i64 x] 3)
  generalize x1.w.alloc (.cells #[.int .i64 x] 3) = W1 at *
  refine stage_class (S' := fun w' => ∃ y : Later W1.heap.size W1, w' = y.w) (fun w' ⟨y, hy⟩ => ⟨⟨w', hL1.trans ((hy ▸ y.h).mono hL1.size)⟩, rfl⟩) ?_
  have HC1 : Hid (∀ y : Later W1.heap.size W1, y.w.cell? ⟨x1.w.heap.size, 0, none⟩ = some (.int .i64 x)) := fun y => y.cell (heap_lt hN0) (by rw [cell_of_heap hN0]; rfl)
  have KB1 : Hid (∀ y : Later W1.heap.size W1, Below w.heap.size w y.w) := fun y => (KB.out ⟨W1, hL1⟩).1.trans (y.h.mono (KB.out ⟨W1, hL1⟩).2)
  have TL : Hid (∀ y : Later W1.heap.size W1, Below W0.heap.size W0 y.w) := fun y => hL1.trans (y.h.mono hL1.size)
  have u0 : ∀ y : Later W1.heap.size W1, y.w.cell? ⟨w.heap.size, 0, none⟩ = some (.slice (some ⟨b, off, none⟩) N cap) := fun y => v0 ⟨y.w, TL.out y⟩
  clear v0 v1 v2 v3 v4 v5 v6 v7 v8 v9 hN0
  refine stage_walk (by kernel_rfl) 19 12 _ _ (by kernel_rfl) ⟨⟨W1, Below.refl _ _⟩, rfl⟩ ?_
  simp only [List.drop_zero, List.drop_succ_cons, List.take_succ_cons, List.take_zero]
  repeat (go_big_quiet_step (first | (rename_i y; go_at_call 42; refine (HRt.out _ (KB1.out y) _ (HC1.out y)).mono ?_; rintro e w5 ⟨rfl, hb5⟩; exact ⟨rfl, ⟨w5, y.h.trans (hb5.mono y.h.size)⟩, rfl⟩)))
  refine wpQuiet_nil ?_
  rintro w6 ⟨y, rfl⟩
  refine stage_end (by kernel_rfl) ?_
  have HB6 := hid (KB1.out y)
  have HR6 := hid (HR.out.below (TL.out y))
  have HA6 := hid (HA.out.below (TL.out y))
  clear u0 HC1 KB1 TL hL1
  generalize y.w = W6 at *
  obtain ⟨c0, c1, c2, c3, c4, c5, c6, c7, c8, c9⟩ := HR6.out.cells
  dsimp only at c0 c1 c2 c3 c4 c5 c6 c7 c8 c9
  have z0 := frozen_of_heap HR6.out 0
  have z1 := frozen_of_heap HR6.out 1
  have z2 := frozen_of_heap HR6.out 2
  have z3 := frozen_of_heap HR6.out 3
  have z4 := frozen_of_heap HR6.out 4
  have z5 := frozen_of_heap HR6.out 5
  have z6 := frozen_of_heap HR6.out 6
  have z7 := frozen_of_heap HR6.out 7
  have z8 := frozen_of_heap HR6.out 8
  have z9 := frozen_of_heap HR6.out 9
  go_wp2_with fail
  refine heap_use HR6.out (.slice none 0 0) ⟨0, 0, 0, 0, 0, 0, 0, 0, 0⟩ _ ?_
  intro W7 hL hb7 _ _
  obtain ⟨y0, y1, y2, y3, y4, y5, y6, y7, y8, y9⟩ := hL.cells
  dsimp only at y0 y1 y2 y3 y4 y5 y6 y7 y8 y9
  exact bodyPost_ret (v := .tuple #[noHeap, .int .i64 0, .bool false]) (by simp [results, Try.results22, go_sem, y0, y1, y2, y3, y4, y5, y6, y7, y8, y9, noHeap, heapV]) rfl ⟨rfl, HB6.out.trans (hb7 _ (Nat.le_succ _))⟩

set_option maxHeartbeats 4000000 in
set_option maxRecDepth 100000 in
theorem sField_below (b off cap N : Nat) (h : HpN) (x i : Int) (w : World)
    (hi : i < 0)
    (HOk : Hid (∀ X, Below w.heap.size w X → Calls Try.prog 10 #[heapV (.slice (some ⟨b, off, none⟩) N cap) h] X fun e w' => e = .returned (.bool true) ∧ Below X.heap.size X w'))
    (HT : Hid (∀ w, Calls Try.prog 38 #[.int .i64 x] w fun e w' => e = .returned (.int .i64 0) ∧ w = w'))
    (HRt : Hid (∀ X, Below w.heap.size w X → ∀ g, X.cell? ⟨g, 0, none⟩ = some (.int .i64 x) → Calls Try.prog 42 #[heapV (.slice (some ⟨b, off, none⟩) N cap) h, .slice (some ⟨g, 0, none⟩) 1 1] X fun e w' => e = .returned (.bool true) ∧ Below X.heap.size X w')) :
    Calls Try.prog 22 #[heapV (.slice (some ⟨b, off, none⟩) N cap) h, .int .i64 x, .int .i64 i] w fun e w' => e = .returned (.tuple #[noHeap, .int .i64 0, .bool false]) ∧ Below w.heap.size w w' := by
  obtain ⟨g1, g2, g3, g4, g5, g6, g7, g8, g9⟩ := h
  unfold heapV at *
  dsimp only at *
  obtain ⟨W0, hW0, hA, hR, k2⟩ := both_new w (.slice (some ⟨b, off, none⟩) N cap) ⟨g1, g2, g3, g4, g5, g6, g7, g8, g9⟩
  dsimp only at hW0
  have HW0 := hid hW0
  clear hW0
  go_enter Try.func22, Try.ntmps22
  go_wp2_with fail
  rw [HW0.out]
  have hlt := heap_lt hA
  obtain ⟨v0, v1, v2, v3, v4, v5, v6, v7, v8, v9⟩ := hA.later (B := W0.heap.size) hlt
  dsimp only at v0 v1 v2 v3 v4 v5 v6 v7 v8 v9
  have HA := hid hA
  have HR := hid hR
  have HK2 := hid k2
  clear hA hR k2 HW0
  have KB : Hid (∀ X : Later W0.heap.size W0, Below w.heap.size w X.w ∧ w.heap.size ≤ X.w.heap.size) := fun X => by
    have k := HK2.out.trans (X.h.mono HK2.out.size)
    exact ⟨k, k.size⟩
  refine stage_begin (S := fun w' => ∃ x : Later W0.heap.size W0, w' = x.w) (by kernel_rfl) ?_
  refine stage_walk (by kernel_rfl) 11 0 _ _ (by kernel_rfl) ⟨⟨W0.drew, (Below.refl _ _).drew⟩, rfl⟩ ?_
  simp only [List.drop_zero, List.take_succ_cons, List.take_zero]
  repeat (go_big_quiet_step (first | (rename_i x; go_at_call 10; refine (HOk.out _ (KB.out x).1).mono ?_; rintro e w5 ⟨rfl, hb5⟩; exact ⟨rfl, ⟨w5, x.h.trans (hb5.mono x.h.size)⟩, rfl⟩) | (rename_i x; go_at_call 38; refine (HT.out _).mono ?_; rintro e w5 ⟨rfl, rfl⟩; exact ⟨rfl, x, rfl⟩)))
  refine wpQuiet_nil ?_
  rintro w5 ⟨x1, rfl⟩
  refine stage_make (k := 11) (v := .slice (some ⟨x1.w.heap.size, 0, none⟩) 1 1) (w1 := x1.w.alloc (.cells #[.int .i64 x] 3)) rfl (by kernel_rfl) rfl (by simp [go_sem]) ⟨⟨_, x1.h.alloc x1.h.size _⟩, rfl⟩ (by simp [go_sem]; exact rfl) ?_
  have hN0 : (x1.w.alloc (.cells #[.int .i64 x] 3)).heap[x1.w.heap.size]? = some (.cells #[.int .i64 x] 3) := (MapKept.heap_alloc x1.w _).1
  have hL1 := x1.h.alloc x1.h.size (.cells #[.int .i64 x] 3)
  generalize x1.w.alloc (.cells #[.int .i64 x] 3) = W1 at *
  refine stage_class (S' := fun w' => ∃ y : Later W1.heap.size W1, w' = y.w) (fun w' ⟨y, hy⟩ => ⟨⟨w', hL1.trans ((hy ▸ y.h).mono hL1.size)⟩, rfl⟩) ?_
  have HC1 : Hid (∀ y : Later W1.heap.size W1, y.w.cell? ⟨x1.w.heap.size, 0, none⟩ = some (.int .i64 x)) := fun y => y.cell (heap_lt hN0) (by rw [cell_of_heap hN0]; rfl)
  have KB1 : Hid (∀ y : Later W1.heap.size W1, Below w.heap.size w y.w) := fun y => (KB.out ⟨W1, hL1⟩).1.trans (y.h.mono (KB.out ⟨W1, hL1⟩).2)
  have TL : Hid (∀ y : Later W1.heap.size W1, Below W0.heap.size W0 y.w) := fun y => hL1.trans (y.h.mono hL1.size)
  have u0 : ∀ y : Later W1.heap.size W1, y.w.cell? ⟨w.heap.size, 0, none⟩ = some (.slice (some ⟨b, off, none⟩) N cap) := fun y => v0 ⟨y.w, TL.out y⟩
  clear v0 v1 v2 v3 v4 v5 v6 v7 v8 v9 hN0
  refine stage_walk (by kernel_rfl) 19 12 _ _ (by kernel_rfl) ⟨⟨W1, Below.refl _ _⟩, rfl⟩ ?_
  simp only [List.drop_zero, List.drop_succ_cons, List.take_succ_cons, List.take_zero]
  repeat (go_big_quiet_step (first | (rename_i y; go_at_call 42; refine (HRt.out _ (KB1.out y) _ (HC1.out y)).mono ?_; rintro e w5 ⟨rfl, hb5⟩; exact ⟨rfl, ⟨w5, y.h.trans (hb5.mono y.h.size)⟩, rfl⟩)))
  refine wpQuiet_nil ?_
  rintro w6 ⟨y, rfl⟩
  refine stage_end (by kernel_rfl) ?_
  have HB6 := hid (KB1.out y)
  have HR6 := hid (HR.out.below (TL.out y))
  have HA6 := hid (HA.out.below (TL.out y))
  clear u0 HC1 KB1 TL hL1
  generalize y.w = W6 at *
  obtain ⟨c0, c1, c2, c3, c4, c5, c6, c7, c8, c9⟩ := HR6.out.cells
  dsimp only at c0 c1 c2 c3 c4 c5 c6 c7 c8 c9
  have z0 := frozen_of_heap HR6.out 0
  have z1 := frozen_of_heap HR6.out 1
  have z2 := frozen_of_heap HR6.out 2
  have z3 := frozen_of_heap HR6.out 3
  have z4 := frozen_of_heap HR6.out 4
  have z5 := frozen_of_heap HR6.out 5
  have z6 := frozen_of_heap HR6.out 6
  have z7 := frozen_of_heap HR6.out 7
  have z8 := frozen_of_heap HR6.out 8
  have z9 := frozen_of_heap HR6.out 9
  go_wp2_with fail
  refine heap_use HR6.out (.slice none 0 0) ⟨0, 0, 0, 0, 0, 0, 0, 0, 0⟩ _ ?_
  intro W7 hL hb7 _ _
  obtain ⟨y0, y1, y2, y3, y4, y5, y6, y7, y8, y9⟩ := hL.cells
  dsimp only at y0 y1 y2 y3 y4 y5 y6 y7 y8 y9
  exact bodyPost_ret (v := .tuple #[noHeap, .int .i64 0, .bool false]) (by simp [results, Try.results22, go_sem, y0, y1, y2, y3, y4, y5, y6, y7, y8, y9, noHeap, heapV]) rfl ⟨rfl, HB6.out.trans (hb7 _ (Nat.le_succ _))⟩

set_option maxHeartbeats 4000000 in
set_option maxRecDepth 100000 in
theorem sField_past (b off cap N : Nat) (h : HpN) (x i : Int) (w : World)
    (k : Nat) (hk : k < N) (hb : b < w.heap.size) (f n : Int) (HF : Hid (w.cell? ⟨b, off + k, none⟩ = some (.int .i64 f))) (hf : f / 16 = n) (hn0 : 0 ≤ n) (hn1 : n ≤ 6) (hd : decide (i < 0) = false) (hi1 : n - 1 ≤ i)
    (HOk : Hid (∀ X, Below w.heap.size w X → Calls Try.prog 10 #[heapV (.slice (some ⟨b, off, none⟩) N cap) h] X fun e w' => e = .returned (.bool true) ∧ Below X.heap.size X w'))
    (HT : Hid (∀ w, Calls Try.prog 38 #[.int .i64 x] w fun e w' => e = .returned (.int .i64 0) ∧ w = w'))
    (HRt : Hid (∀ X, Below w.heap.size w X → ∀ g, X.cell? ⟨g, 0, none⟩ = some (.int .i64 x) → Calls Try.prog 42 #[heapV (.slice (some ⟨b, off, none⟩) N cap) h, .slice (some ⟨g, 0, none⟩) 1 1] X fun e w' => e = .returned (.bool true) ∧ Below X.heap.size X w'))
    (HNum : Hid (∀ w, Calls Try.prog 39 #[.int .i64 x] w fun e w' => e = .returned (.int .i64 (k : Int)) ∧ w = w')) :
    Calls Try.prog 22 #[heapV (.slice (some ⟨b, off, none⟩) N cap) h, .int .i64 x, .int .i64 i] w fun e w' => e = .returned (.tuple #[noHeap, .int .i64 0, .bool false]) ∧ Below w.heap.size w w' := by
  obtain ⟨g1, g2, g3, g4, g5, g6, g7, g8, g9⟩ := h
  unfold heapV at *
  dsimp only at *
  obtain ⟨W0, hW0, hA, hR, k2⟩ := both_new w (.slice (some ⟨b, off, none⟩) N cap) ⟨g1, g2, g3, g4, g5, g6, g7, g8, g9⟩
  dsimp only at hW0
  have HW0 := hid hW0
  clear hW0
  go_enter Try.func22, Try.ntmps22
  go_wp2_with fail
  rw [HW0.out]
  have hlt := heap_lt hA
  obtain ⟨v0, v1, v2, v3, v4, v5, v6, v7, v8, v9⟩ := hA.later (B := W0.heap.size) hlt
  dsimp only at v0 v1 v2 v3 v4 v5 v6 v7 v8 v9
  have HA := hid hA
  have HR := hid hR
  have HK2 := hid k2
  clear hA hR k2 HW0
  have KB : Hid (∀ X : Later W0.heap.size W0, Below w.heap.size w X.w ∧ w.heap.size ≤ X.w.heap.size) := fun X => by
    have k := HK2.out.trans (X.h.mono HK2.out.size)
    exact ⟨k, k.size⟩
  refine stage_begin (S := fun w' => ∃ x : Later W0.heap.size W0, w' = x.w) (by kernel_rfl) ?_
  refine stage_walk (by kernel_rfl) 11 0 _ _ (by kernel_rfl) ⟨⟨W0.drew, (Below.refl _ _).drew⟩, rfl⟩ ?_
  simp only [List.drop_zero, List.take_succ_cons, List.take_zero]
  repeat (go_big_quiet_step (first | (rename_i x; go_at_call 10; refine (HOk.out _ (KB.out x).1).mono ?_; rintro e w5 ⟨rfl, hb5⟩; exact ⟨rfl, ⟨w5, x.h.trans (hb5.mono x.h.size)⟩, rfl⟩) | (rename_i x; go_at_call 38; refine (HT.out _).mono ?_; rintro e w5 ⟨rfl, rfl⟩; exact ⟨rfl, x, rfl⟩)))
  refine wpQuiet_nil ?_
  rintro w5 ⟨x1, rfl⟩
  refine stage_make (k := 11) (v := .slice (some ⟨x1.w.heap.size, 0, none⟩) 1 1) (w1 := x1.w.alloc (.cells #[.int .i64 x] 3)) rfl (by kernel_rfl) rfl (by simp [go_sem]) ⟨⟨_, x1.h.alloc x1.h.size _⟩, rfl⟩ (by simp [go_sem]; exact rfl) ?_
  have hN0 : (x1.w.alloc (.cells #[.int .i64 x] 3)).heap[x1.w.heap.size]? = some (.cells #[.int .i64 x] 3) := (MapKept.heap_alloc x1.w _).1
  have hL1 := x1.h.alloc x1.h.size (.cells #[.int .i64 x] 3)
  generalize x1.w.alloc (.cells #[.int .i64 x] 3) = W1 at *
  refine stage_class (S' := fun w' => ∃ y : Later W1.heap.size W1, w' = y.w) (fun w' ⟨y, hy⟩ => ⟨⟨w', hL1.trans ((hy ▸ y.h).mono hL1.size)⟩, rfl⟩) ?_
  have HC1 : Hid (∀ y : Later W1.heap.size W1, y.w.cell? ⟨x1.w.heap.size, 0, none⟩ = some (.int .i64 x)) := fun y => y.cell (heap_lt hN0) (by rw [cell_of_heap hN0]; rfl)
  have KB1 : Hid (∀ y : Later W1.heap.size W1, Below w.heap.size w y.w) := fun y => (KB.out ⟨W1, hL1⟩).1.trans (y.h.mono (KB.out ⟨W1, hL1⟩).2)
  have TL : Hid (∀ y : Later W1.heap.size W1, Below W0.heap.size W0 y.w) := fun y => hL1.trans (y.h.mono hL1.size)
  have u0 : ∀ y : Later W1.heap.size W1, y.w.cell? ⟨w.heap.size, 0, none⟩ = some (.slice (some ⟨b, off, none⟩) N cap) := fun y => v0 ⟨y.w, TL.out y⟩
  have u1 : ∀ y : Later W1.heap.size W1, y.w.cell? ⟨b, off + k, none⟩ = some (.int .i64 f) := fun y => ((KB1.out y).cell (p := ⟨b, off + k, none⟩) hb).trans HF.out
  clear v0 v1 v2 v3 v4 v5 v6 v7 v8 v9 hN0
  refine stage_walk (by kernel_rfl) 19 12 _ _ (by kernel_rfl) ⟨⟨W1, Below.refl _ _⟩, rfl⟩ ?_
  simp only [List.drop_zero, List.drop_succ_cons, List.take_succ_cons, List.take_zero]
  repeat (go_big_quiet_step (first | (rename_i y; go_at_call 42; refine (HRt.out _ (KB1.out y) _ (HC1.out y)).mono ?_; rintro e w5 ⟨rfl, hb5⟩; exact ⟨rfl, ⟨w5, y.h.trans (hb5.mono y.h.size)⟩, rfl⟩) | (rename_i y; go_at_call 39; refine (HNum.out _).mono ?_; rintro e w5 ⟨rfl, rfl⟩; exact ⟨rfl, y, rfl⟩)))
  refine wpQuiet_nil ?_
  rintro w6 ⟨y, rfl⟩
  refine stage_end (by kernel_rfl) ?_
  have HB6 := hid (KB1.out y)
  have HR6 := hid (HR.out.below (TL.out y))
  have HA6 := hid (HA.out.below (TL.out y))
  clear u0 u1 HC1 KB1 TL hL1
  generalize y.w = W6 at *
  obtain ⟨c0, c1, c2, c3, c4, c5, c6, c7, c8, c9⟩ := HR6.out.cells
  dsimp only at c0 c1 c2 c3 c4 c5 c6 c7 c8 c9
  have z0 := frozen_of_heap HR6.out 0
  have z1 := frozen_of_heap HR6.out 1
  have z2 := frozen_of_heap HR6.out 2
  have z3 := frozen_of_heap HR6.out 3
  have z4 := frozen_of_heap HR6.out 4
  have z5 := frozen_of_heap HR6.out 5
  have z6 := frozen_of_heap HR6.out 6
  have z7 := frozen_of_heap HR6.out 7
  have z8 := frozen_of_heap HR6.out 8
  have z9 := frozen_of_heap HR6.out 9
  go_wp2_with fail
  refine heap_use HR6.out (.slice none 0 0) ⟨0, 0, 0, 0, 0, 0, 0, 0, 0⟩ _ ?_
  intro W7 hL hb7 _ _
  obtain ⟨y0, y1, y2, y3, y4, y5, y6, y7, y8, y9⟩ := hL.cells
  dsimp only at y0 y1 y2 y3 y4 y5 y6 y7 y8 y9
  exact bodyPost_ret (v := .tuple #[noHeap, .int .i64 0, .bool false]) (by simp [results, Try.results22, go_sem, y0, y1, y2, y3, y4, y5, y6, y7, y8, y9, noHeap, heapV]) rfl ⟨rfl, HB6.out.trans (hb7 _ (Nat.le_succ _))⟩

end Go.Proofs.Ytnoobonlmfgfhaa
