/- The specification's HeapField: what is read. -/
import Derived.Test.YtnoobonlmfgfhaaSpecWkF
namespace Go.Proofs.Ytnoobonlmfgfhaa
open Go.RowKit

set_option maxHeartbeats 4000000 in
set_option maxRecDepth 100000 in
theorem sField_good (b off cap N : Nat) (h : HpN) (x i : Int) (w : World)
    (k : Nat) (hk : k < N) (hb : b < w.heap.size) (f n : Int) (HF : Hid (w.cell? ⟨b, off + k, none⟩ = some (.int .i64 f))) (hf : f / 16 = n) (hn0 : 0 ≤ n) (hn1 : n ≤ 6) (hd : decide (i < 0) = false) (hi1 : i < n - 1)
    (HOk : Hid (∀ X, Below w.heap.size w X → Calls Try.prog 10 #[heapV (.slice (some ⟨b, off, none⟩) N cap) h] X fun e w' => e = .returned (.bool true) ∧ Below X.heap.size X w'))
    (HT : Hid (∀ w, Calls Try.prog 38 #[.int .i64 x] w fun e w' => e = .returned (.int .i64 0) ∧ w = w'))
    (HRt : Hid (∀ X, Below w.heap.size w X → ∀ g, X.cell? ⟨g, 0, none⟩ = some (.int .i64 x) → Calls Try.prog 42 #[heapV (.slice (some ⟨b, off, none⟩) N cap) h, .slice (some ⟨g, 0, none⟩) 1 1] X fun e w' => e = .returned (.bool true) ∧ Below X.heap.size X w'))
    (HNum : Hid (∀ w, Calls Try.prog 39 #[.int .i64 x] w fun e w' => e = .returned (.int .i64 (k : Int)) ∧ w = w'))
    (s0 s1 : CN)
    (HOp : Hid (∀ X, Below w.heap.size w X → Calls Try.prog 43 #[heapV (.slice (some ⟨b, off, none⟩) N cap) h] X fun e w' => ∃ bm bw cap' : Nat, e = .returned (.pointer (some ⟨bm, 0, none⟩)) ∧ Wk X bm bw N cap' s0 false w' ∧ X.heap.size ≤ bm ∧ X.heap.size ≤ bw))
    (u : Int)
    (HFd : Hid (∀ (X w0 : World) (bm bw cap' : Nat), Wk w0 bm bw N cap' s0 false X → Calls Try.prog 52 #[.pointer (some ⟨bm, 0, none⟩), .int .i64 x, .int .i64 i] X fun e w' => e = .returned (.int .i64 u) ∧ Wk w0 bm bw N cap' s1 false w')) :
    Calls Try.prog 22 #[heapV (.slice (some ⟨b, off, none⟩) N cap) h, .int .i64 x, .int .i64 i] w fun e w' => ∃ bw cap' : Nat, e = .returned (.tuple #[heapV (.slice (some ⟨bw, 0, none⟩) N cap') { s1.h with touched := touchZ s1 }, .int .i64 u, .bool true]) ∧ CellRow 3 w' bw N (intCells s1.ws) ∧ w.heap.size ≤ bw ∧ Below w.heap.size w w' := by
  obtain ⟨g1, g2, g3, g4, g5, g6, g7, g8, g9⟩ := h
  unfold heapV at *
  dsimp only at *
  obtain ⟨W0, hW0, hA, hR, k2⟩ := both_new w (.slice (some ⟨b, off, none⟩) N cap) ⟨g1, g2, g3, g4, g5, g6, g7, g8, g9⟩
  dsimp only at hW0
  have HW0 := hid hW0
  clear hW0
  go_enter Try.func22, Try.ntmps22
  go_wp2_with fail
  rw [HW0.out]
  have hlt := heap_lt hA
  obtain ⟨v0, v1, v2, v3, v4, v5, v6, v7, v8, v9⟩ := hA.later (B := W0.heap.size) hlt
  dsimp only at v0 v1 v2 v3 v4 v5 v6 v7 v8 v9
  have HA := hid hA
  have HR := hid hR
  have HK2 := hid k2
  clear hA hR k2 HW0
  have KB : Hid (∀ X : Later W0.heap.size W0, Below w.heap.size w X.w ∧ w.heap.size ≤ X.w.heap.size) := fun X => by
    have k := HK2.out.trans (X.h.mono HK2.out.size)
    exact ⟨k, k.size⟩
  refine stage_begin (S := fun w' => ∃ x : Later W0.heap.size W0, w' = x.w) (by kernel_rfl) ?_
  refine stage_walk (by kernel_rfl) 11 0 _ _ (by kernel_rfl) ⟨⟨W0.drew, (Below.refl _ _).drew⟩, rfl⟩ ?_
  simp only [List.drop_zero, List.take_succ_cons, List.take_zero]
  repeat (go_big_quiet_step (first | (rename_i x; go_at_call 10; refine (HOk.out _ (KB.out x).1).mono ?_; rintro e w5 ⟨rfl, hb5⟩; exact ⟨rfl, ⟨w5, x.h.trans (hb5.mono x.h.size)⟩, rfl⟩) | (rename_i x; go_at_call 38; refine (HT.out _).mono ?_; rintro e w5 ⟨rfl, rfl⟩; exact ⟨rfl, x, rfl⟩)))
  refine wpQuiet_nil ?_
  rintro w5 ⟨x1, rfl⟩
  refine stage_make (k := 11) (v := .slice (some ⟨x1.w.heap.size, 0, none⟩) 1 1) (w1 := x1.w.alloc (.cells #[.int .i64 x] 3)) rfl (by kernel_rfl) rfl (by simp [go_sem]) ⟨⟨_, x1.h.alloc x1.h.size _⟩, rfl⟩ (by simp [go_sem]; exact rfl) ?_
  have hN0 : (x1.w.alloc (.cells #[.int .i64 x] 3)).heap[x1.w.heap.size]? = some (.cells #[.int .i64 x] 3) := (MapKept.heap_alloc x1.w _).1
  have hL1 := x1.h.alloc x1.h.size (.cells #[.int .i64 x] 3)
  generalize x1.w.alloc (.cells #[.int .i64 x] 3) = W1 at *
  refine stage_class (S' := fun w' => ∃ y : Later W1.heap.size W1, w' = y.w) (fun w' ⟨y, hy⟩ => ⟨⟨w', hL1.trans ((hy ▸ y.h).mono hL1.size)⟩, rfl⟩) ?_
  have HC1 : Hid (∀ y : Later W1.heap.size W1, y.w.cell? ⟨x1.w.heap.size, 0, none⟩ = some (.int .i64 x)) := fun y => y.cell (heap_lt hN0) (by rw [cell_of_heap hN0]; rfl)
  have KB1 : Hid (∀ y : Later W1.heap.size W1, Below w.heap.size w y.w) := fun y => (KB.out ⟨W1, hL1⟩).1.trans (y.h.mono (KB.out ⟨W1, hL1⟩).2)
  have TL : Hid (∀ y : Later W1.heap.size W1, Below W0.heap.size W0 y.w) := fun y => hL1.trans (y.h.mono hL1.size)
  have u0 : ∀ y : Later W1.heap.size W1, y.w.cell? ⟨w.heap.size, 0, none⟩ = some (.slice (some ⟨b, off, none⟩) N cap) := fun y => v0 ⟨y.w, TL.out y⟩
  have u1 : ∀ y : Later W1.heap.size W1, y.w.cell? ⟨b, off + k, none⟩ = some (.int .i64 f) := fun y => ((KB1.out y).cell (p := ⟨b, off + k, none⟩) hb).trans HF.out
  clear v0 v1 v2 v3 v4 v5 v6 v7 v8 v9 hN0
  refine stage_walk (by kernel_rfl) 19 12 _ _ (by kernel_rfl) ⟨⟨W1, Below.refl _ _⟩, rfl⟩ ?_
  simp only [List.drop_zero, List.drop_succ_cons, List.take_succ_cons, List.take_zero]
  repeat (go_big_quiet_step (first | (rename_i y; go_at_call 42; refine (HRt.out _ (KB1.out y) _ (HC1.out y)).mono ?_; rintro e w5 ⟨rfl, hb5⟩; exact ⟨rfl, ⟨w5, y.h.trans (hb5.mono y.h.size)⟩, rfl⟩) | (rename_i y; go_at_call 39; refine (HNum.out _).mono ?_; rintro e w5 ⟨rfl, rfl⟩; exact ⟨rfl, y, rfl⟩)))
  refine wpQuiet_nil ?_
  rintro w6 ⟨y, rfl⟩
  refine stage_end (by kernel_rfl) ?_
  have HB6 := hid (KB1.out y)
  have HR6 := hid (HR.out.below (TL.out y))
  have HA6 := hid (HA.out.below (TL.out y))
  clear u0 u1 HC1 KB1 TL hL1
  generalize y.w = W6 at *
  obtain ⟨c0, c1, c2, c3, c4, c5, c6, c7, c8, c9⟩ := HA6.out.cells
  dsimp only at c0 c1 c2 c3 c4 c5 c6 c7 c8 c9
  go_wp2_with fail
  refine (HOp.out _ HB6.out).mono ?_
  rintro e W7 ⟨bm, bw, cap', rfl, hW7, hlo, hlo2⟩
  have HW7 := hid hW7
  have HB7 := hid (HB6.out.trans ((hW7.frame.below hlo hlo2).mono HB6.out.size))
  have hlt6 := heap_lt HR6.out
  clear hW7 HOp HA6 c0 c1 c2 c3 c4 c5 c6 c7 c8 c9
  go_wp2_with fail
  refine (HFd.out _ _ _ _ _ HW7.out).mono ?_
  rintro e W8 ⟨rfl, hW8⟩
  have HW8 := hid hW8
  have HR8 := hid (HR6.out.below (HW8.out.frame.below hlo hlo2))
  have HB8 := hid (HB6.out.trans ((HW8.out.frame.below hlo hlo2).mono HB6.out.size))
  obtain ⟨d0, d1, d2, d3, d4, d5, d6, d7, d8, d9, d10⟩ := HW8.out.blk.cells
  obtain ⟨tau, htau⟩ : ∃ tau, touchZ s1 = tau := ⟨_, rfl⟩
  rw [htau] at d9
  have HTau := hid htau
  clear htau
  obtain ⟨c0, c1, c2, c3, c4, c5, c6, c7, c8, c9⟩ := HR8.out.cells
  dsimp only at c0 c1 c2 c3 c4 c5 c6 c7 c8 c9
  have z0 := frozen_of_heap HR8.out 0
  have z1 := frozen_of_heap HR8.out 1
  have z2 := frozen_of_heap HR8.out 2
  have z3 := frozen_of_heap HR8.out 3
  have z4 := frozen_of_heap HR8.out 4
  have z5 := frozen_of_heap HR8.out 5
  have z6 := frozen_of_heap HR8.out 6
  have z7 := frozen_of_heap HR8.out 7
  have z8 := frozen_of_heap HR8.out 8
  have z9 := frozen_of_heap HR8.out 9
  clear hW8 HFd HW7 HB7 HR6 HB6
  go_wp2_with fail
  refine heap_use HR8.out (.slice (some ⟨bw, 0, none⟩) N cap') ⟨s1.h.size, s1.h.to, s1.h.bottom, s1.h.top, s1.h.scan, s1.h.fb, s1.h.ft, s1.h.flips, tau⟩ _ ?_
  intro W9 hL hb9 _ hoth
  obtain ⟨y0, y1, y2, y3, y4, y5, y6, y7, y8, y9⟩ := hL.cells
  dsimp only at y0 y1 y2 y3 y4 y5 y6 y7 y8 y9
  exact bodyPost_ret (v := .tuple #[heapV (.slice (some ⟨bw, 0, none⟩) N cap') ⟨s1.h.size, s1.h.to, s1.h.bottom, s1.h.top, s1.h.scan, s1.h.fb, s1.h.ft, s1.h.flips, tau⟩, .int .i64 u, .bool true]) (by simp [results, Try.results22, go_sem, y0, y1, y2, y3, y4, y5, y6, y7, y8, y9, heapV]) rfl ⟨bw, cap', by rw [HTau.out]; rfl, HW8.out.row.of_block (hoth _ (by omega)), by have := HB8.out.size; omega, HB8.out.trans (hb9 _ (Nat.le_succ _))⟩

set_option maxHeartbeats 4000000 in
set_option maxRecDepth 100000 in
theorem sField_full (b off cap N : Nat) (h : HpN) (x i : Int) (w : World)
    (k : Nat) (hk : k < N) (hb : b < w.heap.size) (f n : Int) (HF : Hid (w.cell? ⟨b, off + k, none⟩ = some (.int .i64 f))) (hf : f / 16 = n) (hn0 : 0 ≤ n) (hn1 : n ≤ 6) (hd : decide (i < 0) = false) (hi1 : i < n - 1)
    (HOk : Hid (∀ X, Below w.heap.size w X → Calls Try.prog 10 #[heapV (.slice (some ⟨b, off, none⟩) N cap) h] X fun e w' => e = .returned (.bool true) ∧ Below X.heap.size X w'))
    (HT : Hid (∀ w, Calls Try.prog 38 #[.int .i64 x] w fun e w' => e = .returned (.int .i64 0) ∧ w = w'))
    (HRt : Hid (∀ X, Below w.heap.size w X → ∀ g, X.cell? ⟨g, 0, none⟩ = some (.int .i64 x) → Calls Try.prog 42 #[heapV (.slice (some ⟨b, off, none⟩) N cap) h, .slice (some ⟨g, 0, none⟩) 1 1] X fun e w' => e = .returned (.bool true) ∧ Below X.heap.size X w'))
    (HNum : Hid (∀ w, Calls Try.prog 39 #[.int .i64 x] w fun e w' => e = .returned (.int .i64 (k : Int)) ∧ w = w'))
    (s0 s1 : CN)
    (HOp : Hid (∀ X, Below w.heap.size w X → Calls Try.prog 43 #[heapV (.slice (some ⟨b, off, none⟩) N cap) h] X fun e w' => ∃ bm bw cap' : Nat, e = .returned (.pointer (some ⟨bm, 0, none⟩)) ∧ Wk X bm bw N cap' s0 false w' ∧ X.heap.size ≤ bm ∧ X.heap.size ≤ bw))
    (HFd : Hid (∀ (X w0 : World) (bm bw cap' : Nat), Wk w0 bm bw N cap' s0 false X → Calls Try.prog 52 #[.pointer (some ⟨bm, 0, none⟩), .int .i64 x, .int .i64 i] X fun e w' => (∃ z : Int, e = .returned (.int .i64 z)) ∧ Wk w0 bm bw N cap' s1 true w')) :
    Calls Try.prog 22 #[heapV (.slice (some ⟨b, off, none⟩) N cap) h, .int .i64 x, .int .i64 i] w fun e w' => e = .returned (.tuple #[noHeap, .int .i64 0, .bool false]) ∧ Below w.heap.size w w' := by
  obtain ⟨g1, g2, g3, g4, g5, g6, g7, g8, g9⟩ := h
  unfold heapV at *
  dsimp only at *
  obtain ⟨W0, hW0, hA, hR, k2⟩ := both_new w (.slice (some ⟨b, off, none⟩) N cap) ⟨g1, g2, g3, g4, g5, g6, g7, g8, g9⟩
  dsimp only at hW0
  have HW0 := hid hW0
  clear hW0
  go_enter Try.func22, Try.ntmps22
  go_wp2_with fail
  rw [HW0.out]
  have hlt := heap_lt hA
  obtain ⟨v0, v1, v2, v3, v4, v5, v6, v7, v8, v9⟩ := hA.later (B := W0.heap.size) hlt
  dsimp only at v0 v1 v2 v3 v4 v5 v6 v7 v8 v9
  have HA := hid hA
  have HR := hid hR
  have HK2 := hid k2
  clear hA hR k2 HW0
  have KB : Hid (∀ X : Later W0.heap.size W0, Below w.heap.size w X.w ∧ w.heap.size ≤ X.w.heap.size) := fun X => by
    have k := HK2.out.trans (X.h.mono HK2.out.size)
    exact ⟨k, k.size⟩
  refine stage_begin (S := fun w' => ∃ x : Later W0.heap.size W0, w' = x.w) (by kernel_rfl) ?_
  refine stage_walk (by kernel_rfl) 11 0 _ _ (by kernel_rfl) ⟨⟨W0.drew, (Below.refl _ _).drew⟩, rfl⟩ ?_
  simp only [List.drop_zero, List.take_succ_cons, List.take_zero]
  repeat (go_big_quiet_step (first | (rename_i x; go_at_call 10; refine (HOk.out _ (KB.out x).1).mono ?_; rintro e w5 ⟨rfl, hb5⟩; exact ⟨rfl, ⟨w5, x.h.trans (hb5.mono x.h.size)⟩, rfl⟩) | (rename_i x; go_at_call 38; refine (HT.out _).mono ?_; rintro e w5 ⟨rfl, rfl⟩; exact ⟨rfl, x, rfl⟩)))
  refine wpQuiet_nil ?_
  rintro w5 ⟨x1, rfl⟩
  refine stage_make (k := 11) (v := .slice (some ⟨x1.w.heap.size, 0, none⟩) 1 1) (w1 := x1.w.alloc (.cells #[.int .i64 x] 3)) rfl (by kernel_rfl) rfl (by simp [go_sem]) ⟨⟨_, x1.h.alloc x1.h.size _⟩, rfl⟩ (by simp [go_sem]; exact rfl) ?_
  have hN0 : (x1.w.alloc (.cells #[.int .i64 x] 3)).heap[x1.w.heap.size]? = some (.cells #[.int .i64 x] 3) := (MapKept.heap_alloc x1.w _).1
  have hL1 := x1.h.alloc x1.h.size (.cells #[.int .i64 x] 3)
  generalize x1.w.alloc (.cells #[.int .i64 x] 3) = W1 at *
  refine stage_class (S' := fun w' => ∃ y : Later W1.heap.size W1, w' = y.w) (fun w' ⟨y, hy⟩ => ⟨⟨w', hL1.trans ((hy ▸ y.h).mono hL1.size)⟩, rfl⟩) ?_
  have HC1 : Hid (∀ y : Later W1.heap.size W1, y.w.cell? ⟨x1.w.heap.size, 0, none⟩ = some (.int .i64 x)) := fun y => y.cell (heap_lt hN0) (by rw [cell_of_heap hN0]; rfl)
  have KB1 : Hid (∀ y : Later W1.heap.size W1, Below w.heap.size w y.w) := fun y => (KB.out ⟨W1, hL1⟩).1.trans (y.h.mono (KB.out ⟨W1, hL1⟩).2)
  have TL : Hid (∀ y : Later W1.heap.size W1, Below W0.heap.size W0 y.w) := fun y => hL1.trans (y.h.mono hL1.size)
  have u0 : ∀ y : Later W1.heap.size W1, y.w.cell? ⟨w.heap.size, 0, none⟩ = some (.slice (some ⟨b, off, none⟩) N cap) := fun y => v0 ⟨y.w, TL.out y⟩
  have u1 : ∀ y : Later W1.heap.size W1, y.w.cell? ⟨b, off + k, none⟩ = some (.int .i64 f) := fun y => ((KB1.out y).cell (p := ⟨b, off + k, none⟩) hb).trans HF.out
  clear v0 v1 v2 v3 v4 v5 v6 v7 v8 v9 hN0
  refine stage_walk (by kernel_rfl) 19 12 _ _ (by kernel_rfl) ⟨⟨W1, Below.refl _ _⟩, rfl⟩ ?_
  simp only [List.drop_zero, List.drop_succ_cons, List.take_succ_cons, List.take_zero]
  repeat (go_big_quiet_step (first | (rename_i y; go_at_call 42; refine (HRt.out _ (KB1.out y) _ (HC1.out y)).mono ?_; rintro e w5 ⟨rfl, hb5⟩; exact ⟨rfl, ⟨w5, y.h.trans (hb5.mono y.h.size)⟩, rfl⟩) | (rename_i y; go_at_call 39; refine (HNum.out _).mono ?_; rintro e w5 ⟨rfl, rfl⟩; exact ⟨rfl, y, rfl⟩)))
  refine wpQuiet_nil ?_
  rintro w6 ⟨y, rfl⟩
  refine stage_end (by kernel_rfl) ?_
  have HB6 := hid (KB1.out y)
  have HR6 := hid (HR.out.below (TL.out y))
  have HA6 := hid (HA.out.below (TL.out y))
  clear u0 u1 HC1 KB1 TL hL1
  generalize y.w = W6 at *
  obtain ⟨c0, c1, c2, c3, c4, c5, c6, c7, c8, c9⟩ := HA6.out.cells
  dsimp only at c0 c1 c2 c3 c4 c5 c6 c7 c8 c9
  go_wp2_with fail
  refine (HOp.out _ HB6.out).mono ?_
  rintro e W7 ⟨bm, bw, cap', rfl, hW7, hlo, hlo2⟩
  have HW7 := hid hW7
  have HB7 := hid (HB6.out.trans ((hW7.frame.below hlo hlo2).mono HB6.out.size))
  have hlt6 := heap_lt HR6.out
  clear hW7 HOp HA6 c0 c1 c2 c3 c4 c5 c6 c7 c8 c9
  go_wp2_with fail
  refine (HFd.out _ _ _ _ _ HW7.out).mono ?_
  rintro e W8 ⟨⟨z, rfl⟩, hW8⟩
  have HW8 := hid hW8
  have HR8 := hid (HR6.out.below (HW8.out.frame.below hlo hlo2))
  have HB8 := hid (HB6.out.trans ((HW8.out.frame.below hlo hlo2).mono HB6.out.size))
  obtain ⟨d0, d1, d2, d3, d4, d5, d6, d7, d8, d9, d10⟩ := HW8.out.blk.cells
  obtain ⟨tau, htau⟩ : ∃ tau, touchZ s1 = tau := ⟨_, rfl⟩
  rw [htau] at d9
  have HTau := hid htau
  clear htau
  obtain ⟨c0, c1, c2, c3, c4, c5, c6, c7, c8, c9⟩ := HR8.out.cells
  dsimp only at c0 c1 c2 c3 c4 c5 c6 c7 c8 c9
  have z0 := frozen_of_heap HR8.out 0
  have z1 := frozen_of_heap HR8.out 1
  have z2 := frozen_of_heap HR8.out 2
  have z3 := frozen_of_heap HR8.out 3
  have z4 := frozen_of_heap HR8.out 4
  have z5 := frozen_of_heap HR8.out 5
  have z6 := frozen_of_heap HR8.out 6
  have z7 := frozen_of_heap HR8.out 7
  have z8 := frozen_of_heap HR8.out 8
  have z9 := frozen_of_heap HR8.out 9
  clear hW8 HFd HW7 HB7 HR6 HB6
  go_wp2_with fail
  refine heap_use HR8.out (.slice none 0 0) ⟨0, 0, 0, 0, 0, 0, 0, 0, 0⟩ _ ?_
  intro W9 hL hb9 _ hoth
  obtain ⟨y0, y1, y2, y3, y4, y5, y6, y7, y8, y9⟩ := hL.cells
  dsimp only at y0 y1 y2 y3 y4 y5 y6 y7 y8 y9
  exact bodyPost_ret (v := .tuple #[noHeap, .int .i64 0, .bool false]) (by simp [results, Try.results22, go_sem, y0, y1, y2, y3, y4, y5, y6, y7, y8, y9, noHeap, heapV]) rfl ⟨rfl, HB8.out.trans (hb9 _ (Nat.le_succ _))⟩

end Go.Proofs.Ytnoobonlmfgfhaa
