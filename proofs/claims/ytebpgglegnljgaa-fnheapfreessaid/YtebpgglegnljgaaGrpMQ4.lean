/- The specification's HeapField: what is read. -/
import Derived.Test.YtebpgglegnljgaaGrpMQ3
import Derived.Test.YtebpgglegnljgaaHeapFacts
import Derived.Test.YtebpgglegnljgaaSpecScan
import Derived.Test.YtebpgglegnljgaaGrpMQ1
import Derived.Test.YtebpgglegnljgaaScanStart
import Derived.Test.YtebpgglegnljgaaGrpMQ2
import Derived.Test.YtebpgglegnljgaaIntRows
import Derived.Test.YtebpgglegnljgaaSpecWkBD
namespace Go.Proofs.Ytebpgglegnljgaa
open Go.RowKit

set_option maxHeartbeats 4000000 in
set_option maxRecDepth 100000 in
theorem sField_good (b off cap N : Nat) (h : HpN) (x i : Int) (w : World)
    (k : Nat) (hk : k < N) (hb : b < w.heap.size) (f n : Int) (HF : Hid (w.cell? ⟨b, off + k, none⟩ = some (.int .i64 f))) (hf : f / 16 = n) (hn0 : 0 ≤ n) (hn1 : n ≤ 6) (hd : decide (i < 0) = false) (hi1 : i < n - 1)
    (HOk : Hid (∀ X, Below w.heap.size w X → Calls Try.prog 35 #[heapV (.slice (some ⟨b, off, none⟩) N cap) h] X fun e w' => e = .returned (.bool true) ∧ Below X.heap.size X w'))
    (HT : Hid (∀ w, Calls Try.prog 37 #[.int .i64 x] w fun e w' => e = .returned (.int .i64 0) ∧ w = w'))
    (HRt : Hid (∀ X, Below w.heap.size w X → ∀ g, X.cell? ⟨g, 0, none⟩ = some (.int .i64 x) → Calls Try.prog 36 #[heapV (.slice (some ⟨b, off, none⟩) N cap) h, .slice (some ⟨g, 0, none⟩) 1 1] X fun e w' => e = .returned (.bool true) ∧ Below X.heap.size X w'))
    (HNum : Hid (∀ w, Calls Try.prog 54 #[.int .i64 x] w fun e w' => e = .returned (.int .i64 (k : Int)) ∧ w = w'))
    (s0 s1 : CN)
    (HOp : Hid (∀ X, Below w.heap.size w X → Calls Try.prog 46 #[heapV (.slice (some ⟨b, off, none⟩) N cap) h] X fun e w' => ∃ bm bw cap' : Nat, e = .returned (.pointer (some ⟨bm, 0, none⟩)) ∧ Wk X bm bw N cap' s0 false w' ∧ X.heap.size ≤ bm ∧ X.heap.size ≤ bw))
    (u : Int)
    (HFd : Hid (∀ (X w0 : World) (bm bw cap' : Nat), Wk w0 bm bw N cap' s0 false X → Calls Try.prog 55 #[.pointer (some ⟨bm, 0, none⟩), .int .i64 x, .int .i64 i] X fun e w' => e = .returned (.int .i64 u) ∧ Wk w0 bm bw N cap' s1 false w')) :
    Calls Try.prog 22 #[heapV (.slice (some ⟨b, off, none⟩) N cap) h, .int .i64 x, .int .i64 i] w fun e w' => ∃ bw cap' : Nat, e = .returned (.tuple #[heapV (.slice (some ⟨bw, 0, none⟩) N cap') { s1.h with touched := touchZ s1 }, .int .i64 u, .bool true]) ∧ CellRow 3 w' bw N (intCells s1.ws) ∧ w.heap.size ≤ bw ∧ Below w.heap.size w w' := by
  obtain ⟨g1, g2, g3, g4, g5, g6, g7, g8, g9⟩ := h
  unfold heapV at *
  dsimp only at *
  obtain ⟨W0, hW0, hA, hR, k2⟩ := both_new w (.slice (some ⟨b, off, none⟩) N cap) ⟨g1, g2, g3, g4, g5, g6, g7, g8, g9⟩
  dsimp only at hW0
  have HW0 := hid hW0
  clear hW0
  go_enter Try.func22, Try.ntmps22
  go_wp2_with fail
  rw [HW0.out]
  have hlt := heap_lt hA
  obtain ⟨v0, v1, v2, v3, v4, v5, v6, v7, v8, v9⟩ := hA.later (B := W0.heap.size) hlt
  dsimp only at v0 v1 v2 v3 v4 v5 v6 v7 v8 v9
  have HA := hid hA
  have HR := hid hR
  have HK2 := hid k2
  clear hA hR k2 HW0
  have KB : Hid (∀ X : Later W0.heap.size W0, Below w.heap.size w X.w ∧ w.heap.size ≤ X.w.heap.size) := fun X => by
    have k := HK2.out.trans (X.h.mono HK2.out.size)
    exact ⟨k, k.size⟩
  refine stage_begin (S := fun w' => ∃ x : Later W0.heap.size W0, w' = x.w) (by kernel_rfl) ?_
  refine stage_walk (by kernel_rfl) 11 0 _ _ (by kernel_rfl) ⟨⟨W0.drew, (Below.refl _ _).drew⟩, rfl⟩ ?_
  simp only [List.drop_zero, List.take_succ_cons, List.take_zero]
  repeat (go_big_quiet_step (first | (rename_i x; go_at_call 35; refine (HOk.out _ (KB.out x).1).mono ?_; rintro e w5 ⟨rfl, hb5⟩; exact ⟨rfl, ⟨w5, x.h.trans (hb5.mono x.h.size)⟩, rfl⟩) | (rename_i x; go_at_call 37; refine (HT.out _).mono ?_; rintro e w5 ⟨rfl, rfl⟩; exact ⟨rfl, x, rfl⟩)))
  refine wpQuiet_nil ?_
  rintro w5 ⟨x1, rfl⟩
  refine stage_make (k := 11) (v := .slice (some ⟨x1.w.heap.size, 0, none⟩) 1 1) (w1 := x1.w.alloc (.cells #[.int .i64 x] 3)) rfl (by kernel_rfl) rfl (by simp [go_sem]) ⟨⟨_, x1.h.alloc x1.h.size _⟩, rfl⟩ (by simp [go_sem]; exact rfl) ?_
  have hN0 : (x1.w.alloc (.cells #[.int .i64 x] 3)).heap[x1.w.heap.size]? = some (.cells #[.int .i64 x] 3) := (MapKept.heap_alloc x1.w _).1
  have hL1 := x1.h.alloc x1.h.size (.cells #[.int .i64 x] 3)
  generalize x1.w.alloc (.cells #[.int .i64 x] 3) = W1 at *
  refine stage_class (S' := fun w' => ∃ y : Later W1.heap.size W1, w' = y.w) (fun w' ⟨y, hy⟩ => ⟨⟨w', hL1.trans ((hy ▸ y.h).mono hL1.size)⟩, rfl⟩) ?_
  have HC1 : Hid (∀ y : Later W1.heap.size W1, y.w.cell? ⟨x1.w.heap.size, 0, none⟩ = some (.int .i64 x)) := fun y => y.cell (heap_lt hN0) (by rw [cell_of_heap hN0]; rfl)
  have KB1 : Hid (∀ y : Later W1.heap.size W1, Below w.heap.size w y.w) := fun y => (KB.out ⟨W1, hL1⟩).1.trans (y.h.mono (KB.out ⟨W1, hL1⟩).2)
  have TL : Hid (∀ y : Later W1.heap.size W1, Below W0.heap.size W0 y.w) := fun y => hL1.trans (y.h.mono hL1.size)
  have u0 : ∀ y : Later W1.heap.size W1, y.w.cell? ⟨w.heap.size, 0, none⟩ = some (.slice (some ⟨b, off, none⟩) N cap) := fun y => v0 ⟨y.w, TL.out y⟩
  have u1 : ∀ y : Later W1.heap.size W1, y.w.cell? ⟨b, off + k, none⟩ = some (.int .i64 f) := fun y => ((KB1.out y).cell (p := ⟨b, off + k, none⟩) hb).trans HF.out
  clear v0 v1 v2 v3 v4 v5 v6 v7 v8 v9 hN0
  refine stage_walk (by kernel_rfl) 19 12 _ _ (by kernel_rfl) ⟨⟨W1, Below.refl _ _⟩, rfl⟩ ?_
  simp only [List.drop_zero, List.drop_succ_cons, List.take_succ_cons, List.take_zero]
  repeat (go_big_quiet_step (first | (rename_i y; go_at_call 36; refine (HRt.out _ (KB1.out y) _ (HC1.out y)).mono ?_; rintro e w5 ⟨rfl, hb5⟩; exact ⟨rfl, ⟨w5, y.h.trans (hb5.mono y.h.size)⟩, rfl⟩) | (rename_i y; go_at_call 54; refine (HNum.out _).mono ?_; rintro e w5 ⟨rfl, rfl⟩; exact ⟨rfl, y, rfl⟩)))
  refine wpQuiet_nil ?_
  rintro w6 ⟨y, rfl⟩
  refine stage_end (by kernel_rfl) ?_
  have HB6 := hid (KB1.out y)
  have HR6 := hid (HR.out.below (TL.out y))
  have HA6 := hid (HA.out.below (TL.out y))
  clear u0 u1 HC1 KB1 TL hL1
  generalize y.w = W6 at *
  obtain ⟨c0, c1, c2, c3, c4, c5, c6, c7, c8, c9⟩ := HA6.out.cells
  dsimp only at c0 c1 c2 c3 c4 c5 c6 c7 c8 c9
  go_wp2_with fail
  refine (HOp.out _ HB6.out).mono ?_
  rintro e W7 ⟨bm, bw, cap', rfl, hW7, hlo, hlo2⟩
  have HW7 := hid hW7
  have HB7 := hid (HB6.out.trans ((hW7.frame.below hlo hlo2).mono HB6.out.size))
  have hlt6 := heap_lt HR6.out
  clear hW7 HOp HA6 c0 c1 c2 c3 c4 c5 c6 c7 c8 c9
  go_wp2_with fail
  refine (HFd.out _ _ _ _ _ HW7.out).mono ?_
  rintro e W8 ⟨rfl, hW8⟩
  have HW8 := hid hW8
  have HR8 := hid (HR6.out.below (HW8.out.frame.below hlo hlo2))
  have HB8 := hid (HB6.out.trans ((HW8.out.frame.below hlo hlo2).mono HB6.out.size))
  obtain ⟨d0, d1, d2, d3, d4, d5, d6, d7, d8, d9, d10⟩ := HW8.out.blk.cells
  obtain ⟨tau, htau⟩ : ∃ tau, touchZ s1 = tau := ⟨_, rfl⟩
  rw [htau] at d9
  have HTau := hid htau
  clear htau
  obtain ⟨c0, c1, c2, c3, c4, c5, c6, c7, c8, c9⟩ := HR8.out.cells
  dsimp only at c0 c1 c2 c3 c4 c5 c6 c7 c8 c9
  have z0 := frozen_of_heap HR8.out 0
  have z1 := frozen_of_heap HR8.out 1
  have z2 := frozen_of_heap HR8.out 2
  have z3 := frozen_of_heap HR8.out 3
  have z4 := frozen_of_heap HR8.out 4
  have z5 := frozen_of_heap HR8.out 5
  have z6 := frozen_of_heap HR8.out 6
  have z7 := frozen_of_heap HR8.out 7
  have z8 := frozen_of_heap HR8.out 8
  have z9 := frozen_of_heap HR8.out 9
  clear hW8 HFd HW7 HB7 HR6 HB6
  go_wp2_with fail
  refine heap_use HR8.out (.slice (some ⟨bw, 0, none⟩) N cap') ⟨s1.h.size, s1.h.to, s1.h.bottom, s1.h.top, s1.h.scan, s1.h.fb, s1.h.ft, s1.h.flips, tau⟩ _ ?_
  intro W9 hL hb9 _ hoth
  obtain ⟨y0, y1, y2, y3, y4, y5, y6, y7, y8, y9⟩ := hL.cells
  dsimp only at y0 y1 y2 y3 y4 y5 y6 y7 y8 y9
  exact bodyPost_ret (v := .tuple #[heapV (.slice (some ⟨bw, 0, none⟩) N cap') ⟨s1.h.size, s1.h.to, s1.h.bottom, s1.h.top, s1.h.scan, s1.h.fb, s1.h.ft, s1.h.flips, tau⟩, .int .i64 u, .bool true]) (by simp [results, Try.results22, go_sem, y0, y1, y2, y3, y4, y5, y6, y7, y8, y9, heapV]) rfl ⟨bw, cap', by rw [HTau.out]; rfl, HW8.out.row.of_block (hoth _ (by omega)), by have := HB8.out.size; omega, HB8.out.trans (hb9 _ (Nat.le_succ _))⟩

set_option maxHeartbeats 4000000 in
set_option maxRecDepth 100000 in
theorem sField_full (b off cap N : Nat) (h : HpN) (x i : Int) (w : World)
    (k : Nat) (hk : k < N) (hb : b < w.heap.size) (f n : Int) (HF : Hid (w.cell? ⟨b, off + k, none⟩ = some (.int .i64 f))) (hf : f / 16 = n) (hn0 : 0 ≤ n) (hn1 : n ≤ 6) (hd : decide (i < 0) = false) (hi1 : i < n - 1)
    (HOk : Hid (∀ X, Below w.heap.size w X → Calls Try.prog 35 #[heapV (.slice (some ⟨b, off, none⟩) N cap) h] X fun e w' => e = .returned (.bool true) ∧ Below X.heap.size X w'))
    (HT : Hid (∀ w, Calls Try.prog 37 #[.int .i64 x] w fun e w' => e = .returned (.int .i64 0) ∧ w = w'))
    (HRt : Hid (∀ X, Below w.heap.size w X → ∀ g, X.cell? ⟨g, 0, none⟩ = some (.int .i64 x) → Calls Try.prog 36 #[heapV (.slice (some ⟨b, off, none⟩) N cap) h, .slice (some ⟨g, 0, none⟩) 1 1] X fun e w' => e = .returned (.bool true) ∧ Below X.heap.size X w'))
    (HNum : Hid (∀ w, Calls Try.prog 54 #[.int .i64 x] w fun e w' => e = .returned (.int .i64 (k : Int)) ∧ w = w'))
    (s0 s1 : CN)
    (HOp : Hid (∀ X, Below w.heap.size w X → Calls Try.prog 46 #[heapV (.slice (some ⟨b, off, none⟩) N cap) h] X fun e w' => ∃ bm bw cap' : Nat, e = .returned (.pointer (some ⟨bm, 0, none⟩)) ∧ Wk X bm bw N cap' s0 false w' ∧ X.heap.size ≤ bm ∧ X.heap.size ≤ bw))
    (HFd : Hid (∀ (X w0 : World) (bm bw cap' : Nat), Wk w0 bm bw N cap' s0 false X → Calls Try.prog 55 #[.pointer (some ⟨bm, 0, none⟩), .int .i64 x, .int .i64 i] X fun e w' => (∃ z : Int, e = .returned (.int .i64 z)) ∧ Wk w0 bm bw N cap' s1 true w')) :
    Calls Try.prog 22 #[heapV (.slice (some ⟨b, off, none⟩) N cap) h, .int .i64 x, .int .i64 i] w fun e w' => e = .returned (.tuple #[noHeap, .int .i64 0, .bool false]) ∧ Below w.heap.size w w' := by
  obtain ⟨g1, g2, g3, g4, g5, g6, g7, g8, g9⟩ := h
  unfold heapV at *
  dsimp only at *
  obtain ⟨W0, hW0, hA, hR, k2⟩ := both_new w (.slice (some ⟨b, off, none⟩) N cap) ⟨g1, g2, g3, g4, g5, g6, g7, g8, g9⟩
  dsimp only at hW0
  have HW0 := hid hW0
  clear hW0
  go_enter Try.func22, Try.ntmps22
  go_wp2_with fail
  rw [HW0.out]
  have hlt := heap_lt hA
  obtain ⟨v0, v1, v2, v3, v4, v5, v6, v7, v8, v9⟩ := hA.later (B := W0.heap.size) hlt
  dsimp only at v0 v1 v2 v3 v4 v5 v6 v7 v8 v9
  have HA := hid hA
  have HR := hid hR
  have HK2 := hid k2
  clear hA hR k2 HW0
  have KB : Hid (∀ X : Later W0.heap.size W0, Below w.heap.size w X.w ∧ w.heap.size ≤ X.w.heap.size) := fun X => by
    have k := HK2.out.trans (X.h.mono HK2.out.size)
    exact ⟨k, k.size⟩
  refine stage_begin (S := fun w' => ∃ x : Later W0.heap.size W0, w' = x.w) (by kernel_rfl) ?_
  refine stage_walk (by kernel_rfl) 11 0 _ _ (by kernel_rfl) ⟨⟨W0.drew, (Below.refl _ _).drew⟩, rfl⟩ ?_
  simp only [List.drop_zero, List.take_succ_cons, List.take_zero]
  repeat (go_big_quiet_step (first | (rename_i x; go_at_call 35; refine (HOk.out _ (KB.out x).1).mono ?_; rintro e w5 ⟨rfl, hb5⟩; exact ⟨rfl, ⟨w5, x.h.trans (hb5.mono x.h.size)⟩, rfl⟩) | (rename_i x; go_at_call 37; refine (HT.out _).mono ?_; rintro e w5 ⟨rfl, rfl⟩; exact ⟨rfl, x, rfl⟩)))
  refine wpQuiet_nil ?_
  rintro w5 ⟨x1, rfl⟩
  refine stage_make (k := 11) (v := .slice (some ⟨x1.w.heap.size, 0, none⟩) 1 1) (w1 := x1.w.alloc (.cells #[.int .i64 x] 3)) rfl (by kernel_rfl) rfl (by simp [go_sem]) ⟨⟨_, x1.h.alloc x1.h.size _⟩, rfl⟩ (by simp [go_sem]; exact rfl) ?_
  have hN0 : (x1.w.alloc (.cells #[.int .i64 x] 3)).heap[x1.w.heap.size]? = some (.cells #[.int .i64 x] 3) := (MapKept.heap_alloc x1.w _).1
  have hL1 := x1.h.alloc x1.h.size (.cells #[.int .i64 x] 3)
  generalize x1.w.alloc (.cells #[.int .i64 x] 3) = W1 at *
  refine stage_class (S' := fun w' => ∃ y : Later W1.heap.size W1, w' = y.w) (fun w' ⟨y, hy⟩ => ⟨⟨w', hL1.trans ((hy ▸ y.h).mono hL1.size)⟩, rfl⟩) ?_
  have HC1 : Hid (∀ y : Later W1.heap.size W1, y.w.cell? ⟨x1.w.heap.size, 0, none⟩ = some (.int .i64 x)) := fun y => y.cell (heap_lt hN0) (by rw [cell_of_heap hN0]; rfl)
  have KB1 : Hid (∀ y : Later W1.heap.size W1, Below w.heap.size w y.w) := fun y => (KB.out ⟨W1, hL1⟩).1.trans (y.h.mono (KB.out ⟨W1, hL1⟩).2)
  have TL : Hid (∀ y : Later W1.heap.size W1, Below W0.heap.size W0 y.w) := fun y => hL1.trans (y.h.mono hL1.size)
  have u0 : ∀ y : Later W1.heap.size W1, y.w.cell? ⟨w.heap.size, 0, none⟩ = some (.slice (some ⟨b, off, none⟩) N cap) := fun y => v0 ⟨y.w, TL.out y⟩
  have u1 : ∀ y : Later W1.heap.size W1, y.w.cell? ⟨b, off + k, none⟩ = some (.int .i64 f) := fun y => ((KB1.out y).cell (p := ⟨b, off + k, none⟩) hb).trans HF.out
  clear v0 v1 v2 v3 v4 v5 v6 v7 v8 v9 hN0
  refine stage_walk (by kernel_rfl) 19 12 _ _ (by kernel_rfl) ⟨⟨W1, Below.refl _ _⟩, rfl⟩ ?_
  simp only [List.drop_zero, List.drop_succ_cons, List.take_succ_cons, List.take_zero]
  repeat (go_big_quiet_step (first | (rename_i y; go_at_call 36; refine (HRt.out _ (KB1.out y) _ (HC1.out y)).mono ?_; rintro e w5 ⟨rfl, hb5⟩; exact ⟨rfl, ⟨w5, y.h.trans (hb5.mono y.h.size)⟩, rfl⟩) | (rename_i y; go_at_call 54; refine (HNum.out _).mono ?_; rintro e w5 ⟨rfl, rfl⟩; exact ⟨rfl, y, rfl⟩)))
  refine wpQuiet_nil ?_
  rintro w6 ⟨y, rfl⟩
  refine stage_end (by kernel_rfl) ?_
  have HB6 := hid (KB1.out y)
  have HR6 := hid (HR.out.below (TL.out y))
  have HA6 := hid (HA.out.below (TL.out y))
  clear u0 u1 HC1 KB1 TL hL1
  generalize y.w = W6 at *
  obtain ⟨c0, c1, c2, c3, c4, c5, c6, c7, c8, c9⟩ := HA6.out.cells
  dsimp only at c0 c1 c2 c3 c4 c5 c6 c7 c8 c9
  go_wp2_with fail
  refine (HOp.out _ HB6.out).mono ?_
  rintro e W7 ⟨bm, bw, cap', rfl, hW7, hlo, hlo2⟩
  have HW7 := hid hW7
  have HB7 := hid (HB6.out.trans ((hW7.frame.below hlo hlo2).mono HB6.out.size))
  have hlt6 := heap_lt HR6.out
  clear hW7 HOp HA6 c0 c1 c2 c3 c4 c5 c6 c7 c8 c9
  go_wp2_with fail
  refine (HFd.out _ _ _ _ _ HW7.out).mono ?_
  rintro e W8 ⟨⟨z, rfl⟩, hW8⟩
  have HW8 := hid hW8
  have HR8 := hid (HR6.out.below (HW8.out.frame.below hlo hlo2))
  have HB8 := hid (HB6.out.trans ((HW8.out.frame.below hlo hlo2).mono HB6.out.size))
  obtain ⟨d0, d1, d2, d3, d4, d5, d6, d7, d8, d9, d10⟩ := HW8.out.blk.cells
  obtain ⟨tau, htau⟩ : ∃ tau, touchZ s1 = tau := ⟨_, rfl⟩
  rw [htau] at d9
  have HTau := hid htau
  clear htau
  obtain ⟨c0, c1, c2, c3, c4, c5, c6, c7, c8, c9⟩ := HR8.out.cells
  dsimp only at c0 c1 c2 c3 c4 c5 c6 c7 c8 c9
  have z0 := frozen_of_heap HR8.out 0
  have z1 := frozen_of_heap HR8.out 1
  have z2 := frozen_of_heap HR8.out 2
  have z3 := frozen_of_heap HR8.out 3
  have z4 := frozen_of_heap HR8.out 4
  have z5 := frozen_of_heap HR8.out 5
  have z6 := frozen_of_heap HR8.out 6
  have z7 := frozen_of_heap HR8.out 7
  have z8 := frozen_of_heap HR8.out 8
  have z9 := frozen_of_heap HR8.out 9
  clear hW8 HFd HW7 HB7 HR6 HB6
  go_wp2_with fail
  refine heap_use HR8.out (.slice none 0 0) ⟨0, 0, 0, 0, 0, 0, 0, 0, 0⟩ _ ?_
  intro W9 hL hb9 _ hoth
  obtain ⟨y0, y1, y2, y3, y4, y5, y6, y7, y8, y9⟩ := hL.cells
  dsimp only at y0 y1 y2 y3 y4 y5 y6 y7 y8 y9
  exact bodyPost_ret (v := .tuple #[noHeap, .int .i64 0, .bool false]) (by simp [results, Try.results22, go_sem, y0, y1, y2, y3, y4, y5, y6, y7, y8, y9, noHeap, heapV]) rfl ⟨rfl, HB8.out.trans (hb9 _ (Nat.le_succ _))⟩

end Go.Proofs.Ytebpgglegnljgaa

/- HeapField: both sides answer the same, whatever they are given. -/
namespace Go.Proofs.Ytebpgglegnljgaa
open Go.RowKit

/-- A heap, a number and a bool are told; the heap's words are new. -/
def Told3 (W : World) (ans : List Int) (H : HpN) (u : Int) (ok : Bool) (e : Ending) (w' : World) : Prop :=
  (∃ v, e = .returned (.tuple #[heapV v H, .int .i64 u, .bool ok]) ∧ SliceR 3 1 W.heap.size w' v ans.length (intCells ans)) ∧ Below W.heap.size W w'

theorem told_none {W w' : World} {e : Ending} (h : e = .returned (.tuple #[noHeap, .int .i64 0, .bool false]) ∧ Below W.heap.size W w') : Told3 W [] ⟨0, 0, 0, 0, 0, 0, 0, 0, 0⟩ 0 false e w' :=
  ⟨⟨_, h.1, none, 0, rfl, Or.inl rfl⟩, h.2⟩

theorem told_some {N : Nat} {W w' : World} {ws : List Int} {H : HpN} {u : Int} {e : Ending} (hl : ws.length = N) (h : FieldTold N W ws H u e w') : Told3 W ws H u true e w' := by
  obtain ⟨bw, cap, rfl, hr, hlow, hb⟩ := h
  subst hl
  exact ⟨⟨_, rfl, some ⟨bw, 0, none⟩, cap, rfl, Or.inr ⟨bw, rfl, hlow, by rw [Nat.mul_one]; exact hr⟩⟩, hb⟩

/-- Words in a row of their own, at a later world. -/
theorem row_words {B g N : Nat} {bs : List Int} {W X : World} (h0 : N ≠ 0) (hs : SliceR 3 1 B W (.slice (some ⟨g, 0, none⟩) N N) N (intCells bs)) (hX : Below W.heap.size W X) :
    g < X.heap.size ∧ ∀ k, k < N → X.cell? ⟨g, 0 + k, none⟩ = some (.int .i64 (bs.getD k 0)) := by
  obtain ⟨ad, cap, e, hh⟩ := hs
  obtain ⟨g', e2, hB, hr⟩ := hh.resolve_left h0
  cases e
  cases e2
  rw [Nat.mul_one] at hr
  exact ⟨Nat.lt_of_lt_of_le hr.lt hX.size, fun k hk => by rw [Nat.zero_add]; exact (hX.cell (p := ⟨g, k, none⟩) hr.lt).trans (hr.cell hk)⟩

theorem moveZ_len (s : CN) (x : Int) : (moveZ s x).2.ws.length = s.ws.length := by
  unfold moveZ
  split
  · rfl
  · split
    · rfl
    · split
      · simp only [List.length_set, copyW_length]
      · rfl

theorem fieldZ_len (s : CN) (q : Nat) : (fieldZ s q).2.ws.length = s.ws.length := by
  unfold fieldZ
  split
  · rfl
  · have e := moveZ_len { s with r := s.r + 1 } (s.ws.getD q 0)
    generalize moveZ { s with r := s.r + 1 } (s.ws.getD q 0) = m at e
    obtain ⟨o, s2⟩ := m
    cases o with
    | some y => simpa using e
    | none => exact e

theorem told_touch (t r q : Int) : wrap64 (wrap64 (t + r) + q) = wrap64 (t + (r + q)) := by
  unfold wrap64
  omega

theorem field_both (bs : List Int) (h : HpN) (ht : h.touched < 9223372036854775808) (hm : bs.length ≤ 1048576) (x i : Int) : ∃ ans H u ok, ans.length ≤ 1048576 ∧
    (∀ B g W, SliceR 3 1 B W (.slice (some ⟨g, 0, none⟩) bs.length bs.length) bs.length (intCells bs) → Calls Try.prog 22 #[heapV (.slice (some ⟨g, 0, none⟩) bs.length bs.length) h, .int .i64 x, .int .i64 i] W (Told3 W ans H u ok)) ∧
    (∀ B g W, SliceR 3 1 B W (.slice (some ⟨g, 0, none⟩) bs.length bs.length) bs.length (intCells bs) → Calls Try.prog 21 #[heapV (.slice (some ⟨g, 0, none⟩) bs.length bs.length) h, .int .i64 x, .int .i64 i] W (Told3 W ans H u ok)) := by
  by_cases ho : Ordered h bs.length
  case neg =>
    refine ⟨[], _, _, _, by simp, fun B g W _ => (sField_notOk g 0 bs.length bs.length h x i W (fun X _ => specOk_bad _ _ _ h X hm ho)).mono (fun _ _ => told_none), fun B g W _ => (iField_notOk g 0 bs.length bs.length h x i W (fun X _ => layOut_bad _ _ _ h X ho)).mono (fun _ _ => told_none)⟩
  have hN0 : bs.length ≠ 0 := by obtain ⟨o1, o2, o3, _⟩ := ho; omega
  have hN8 : bs.length ≤ 8000 := by obtain ⟨o1, o2, o3, _⟩ := ho; omega
  -- the specification's and the program's own looks
  have SOk : ∀ B g W, SliceR 3 1 B W (.slice (some ⟨g, 0, none⟩) bs.length bs.length) bs.length (intCells bs) → ∀ X, Below W.heap.size W X → Calls Try.prog 35 #[heapV (.slice (some ⟨g, 0, none⟩) bs.length bs.length) h] X fun e w' => e = .returned (.bool (specOk bs h)) ∧ Below X.heap.size X w' := fun B g W hs X hX =>
    specOk_calls g 0 bs.length bs.length bs h X rfl ho (row_words hN0 hs hX).1 (row_words hN0 hs hX).2
  have ILy : ∀ B g W, SliceR 3 1 B W (.slice (some ⟨g, 0, none⟩) bs.length bs.length) bs.length (intCells bs) → ∀ X, Below W.heap.size W X → Calls Try.prog 30 #[heapV (.slice (some ⟨g, 0, none⟩) bs.length bs.length) h] X (LayTold g 0 bs.length bs.length bs h X) := fun B g W hs X hX =>
    layOut_calls g 0 bs.length bs.length bs h X rfl ho (Nat.le_refl _) (row_words hN0 hs hX).1 (row_words hN0 hs hX).2
  cases hk : specOk bs h with
  | false =>
    have hki : implOk bs h = false := by rw [← ok_same ho]; exact hk
    rw [hk] at SOk
    refine ⟨[], _, _, _, by simp, fun B g W hs => (sField_notOk g 0 bs.length bs.length h x i W (SOk B g W hs)).mono (fun _ _ => told_none), fun B g W hs => (iField_notOk g 0 bs.length bs.length h x i W (fun X hX => (ILy B g W hs X hX).mono ?_)).mono (fun _ _ => told_none)⟩
    rintro e w' ⟨hres, hb'⟩
    rcases hres with ⟨_, e1⟩ | ⟨S, gb, _, e2, _⟩
    · exact ⟨e1, hb'⟩
    · rw [hki] at e2
      cases e2
  | true =>
    have hki : implOk bs h = true := by rw [← ok_same ho]; exact hk
    rw [hk] at SOk
    obtain ⟨S, ok⟩ := ok_facts ho hk
    have ILg : ∀ B g W, SliceR 3 1 B W (.slice (some ⟨g, 0, none⟩) bs.length bs.length) bs.length (intCells bs) → ∀ X, Below W.heap.size W X → Calls Try.prog 30 #[heapV (.slice (some ⟨g, 0, none⟩) bs.length bs.length) h] X fun e w' => ∃ gb, e = .returned (.tuple #[layV (.slice (some ⟨g, 0, none⟩) bs.length bs.length) h (.slice (some ⟨gb, 0, none⟩) bs.length bs.length), .bool true]) ∧ Hid (ISt g 0 gb bs.length bs S w') ∧ Below X.heap.size X w' := fun B g W hs X hX => (ILy B g W hs X hX).mono (by
      rintro e w' ⟨hres, hb'⟩
      rcases hres with ⟨e1, _⟩ | ⟨S', gb, e1, _, e2, _, e3⟩
      · rw [hki] at e1
        cases e1
      · rw [ok.impl] at e1
        cases e1
        exact ⟨gb, e2, e3, hb'⟩)
    have ILd : ∀ g, ∀ (X : World) (gb : Nat), ISt g 0 gb bs.length bs S X → Calls Try.prog 51 #[layV (.slice (some ⟨g, 0, none⟩) bs.length bs.length) h (.slice (some ⟨gb, 0, none⟩) bs.length bs.length), .int .i64 x, .int .i64 h.to] X fun e w' => e = .returned (.bool (leadsZ S h.size x h.to)) ∧ Below X.heap.size X w' := fun g X gb hI => leads_st hI _ h ho x h.to (Or.inl rfl)
    have STg := fun w => specTag_calls x w
    unfold tagZ at STg
    by_cases hx : x % 8 = 0
    case neg =>
      have hl : leadsZ S h.size x h.to = false := by unfold leadsZ; rw [decide_eq_false hx]; rfl
      rw [hl] at ILd
      exact ⟨[], _, _, _, by simp, fun B g W hs => (sField_noPtr g 0 bs.length bs.length h x i W (x % 8) (by simpa using hx) (SOk B g W hs) STg).mono (fun _ _ => told_none), fun B g W hs => (iField_noRoot g 0 bs.length bs.length h x i W bs S (ILg B g W hs) (ILd g)).mono (fun _ _ => told_none)⟩
    rw [hx] at STg
    have SRt : ∀ B g W, SliceR 3 1 B W (.slice (some ⟨g, 0, none⟩) bs.length bs.length) bs.length (intCells bs) → ∀ X, Below W.heap.size W X → ∀ g', X.cell? ⟨g', 0, none⟩ = some (.int .i64 x) → Calls Try.prog 36 #[heapV (.slice (some ⟨g, 0, none⟩) bs.length bs.length) h, .slice (some ⟨g', 0, none⟩) 1 1] X fun e w' => e = .returned (.bool (specLeads bs S h x false)) ∧ Below X.heap.size X w' := fun B g W hs X hX g' hg' => by
      have e := specRoots_calls g 0 bs.length bs.length bs S h (.slice (some ⟨g', 0, none⟩) 1 1) [x] X rfl ho ok.spec (row_words hN0 hs hX).1 (row_words hN0 hs hX).2 ⟨_, 1, rfl, Or.inr ⟨g', 0, rfl, block_in hg', fun k hk => by
        obtain rfl : k = 0 := by simpa using hk
        exact hg'⟩⟩ (by simp)
      have e2 : specRoots bs S h [x] = specLeads bs S h x false := by simp [specRoots]
      rw [e2] at e
      exact e
    have hsame : leadsZ S h.size x h.to = specLeads bs S h x false := by
      rw [← used_same ok x]
      unfold wordOkZ
      rw [if_pos hx]
    rw [hsame] at ILd
    cases hl : specLeads bs S h x false with
    | false =>
      rw [hl] at SRt ILd
      exact ⟨[], _, _, _, by simp, fun B g W hs => (sField_noRoot g 0 bs.length bs.length h x i W (SOk B g W hs) STg (SRt B g W hs)).mono (fun _ _ => told_none), fun B g W hs => (iField_noRoot g 0 bs.length bs.length h x i W bs S (ILg B g W hs) (ILd g)).mono (fun _ _ => told_none)⟩
    | true =>
      rw [hl] at SRt ILd
      by_cases hi : i < 0
      · exact ⟨[], _, _, _, by simp, fun B g W hs => (sField_below g 0 bs.length bs.length h x i W hi (SOk B g W hs) STg (SRt B g W hs)).mono (fun _ _ => told_none), fun B g W hs => (iField_below g 0 bs.length bs.length h x i W bs S hi (ILg B g W hs) (ILd g)).mono (fun _ _ => told_none)⟩
      obtain ⟨l1, l2, l3, l4⟩ := specLeads_at hx hl
      have hin : inZ h (x / 8) = true := by
        rcases l4 with ⟨e, _⟩ | ⟨_, e⟩
        · exact e
        · cases e
      obtain ⟨k, hkx⟩ := Int.eq_ofNat_of_zero_le l1
      rw [hkx, Int.toNat_natCast] at l3
      rw [hkx] at l2 hin
      obtain ⟨hd3, hdl, hdh⟩ := (heads_noted ok.noted).2 k l3
      have hst := used_stays ok l3 hin
      have hd : decide (i < 0) = false := decide_eq_false hi
      have SNum := fun w => specNum_calls x w
      have INum := fun w => implNum_calls x w
      unfold numZ at SNum INum
      rw [hkx] at SNum INum
      have hkN : k < bs.length := by omega
      have HF : ∀ B g W, SliceR 3 1 B W (.slice (some ⟨g, 0, none⟩) bs.length bs.length) bs.length (intCells bs) → W.cell? ⟨g, 0 + k, none⟩ = some (.int .i64 (bs.getD k 0)) := fun B g W hs => (row_words hN0 hs (Below.refl _ _)).2 k hkN
      have HG : ∀ B g W, SliceR 3 1 B W (.slice (some ⟨g, 0, none⟩) bs.length bs.length) bs.length (intCells bs) → g < W.heap.size := fun B g W hs => (row_words hN0 hs (Below.refl _ _)).1
      by_cases hp : S.getD k 0 - 1 ≤ i
      · exact ⟨[], _, _, _, by simp, fun B g W hs => (sField_past g 0 bs.length bs.length h x i W k hkN (HG B g W hs) (bs.getD k 0) (S.getD k 0) (HF B g W hs) hdh (by omega) (by omega) hd hp (SOk B g W hs) STg (SRt B g W hs) SNum).mono (fun _ _ => told_none), fun B g W hs => (iField_past g 0 bs.length bs.length h x i W bs S k hkN (S.getD k 0) rfl (by omega) (by omega) hd hp (ILg B g W hs) (ILd g) INum).mono (fun _ _ => told_none)⟩
      -- a field that is there
      obtain ⟨j, rfl⟩ := Int.eq_ofNat_of_zero_le (show 0 ≤ i by omega)
      obtain ⟨o1, o2, o3, o4, o5, o6, o7, o8, o9, o10, o11, o12, o13⟩ := id ho
      have hq : k + 1 + j < bs.length := by omega
      have hgood := field_good ok l3 hst (i := j) (by omega)
      have hmv := good_move (h := h) (heads_noted ok.noted) hgood
      have hhe := good_here ho hgood
      have SOp : ∀ B g W, SliceR 3 1 B W (.slice (some ⟨g, 0, none⟩) bs.length bs.length) bs.length (intCells bs) → ∀ X, Below W.heap.size W X → Calls Try.prog 46 #[heapV (.slice (some ⟨g, 0, none⟩) bs.length bs.length) h] X fun e w' => ∃ bm bw cap' : Nat, e = .returned (.pointer (some ⟨bm, 0, none⟩)) ∧ Wk X bm bw bs.length cap' ⟨bs, h, 0, 0⟩ false w' ∧ X.heap.size ≤ bm ∧ X.heap.size ≤ bw := fun B g W hs X hX => open_calls g 0 bs.length bs.length bs h X (by omega) rfl hN8 (row_words hN0 hs hX).1 (row_words hN0 hs hX).2 o6 ht
      have IOp : ∀ B g W, SliceR 3 1 B W (.slice (some ⟨g, 0, none⟩) bs.length bs.length) bs.length (intCells bs) → ∀ X, Below W.heap.size W X → Calls Try.prog 42 #[heapV (.slice (some ⟨g, 0, none⟩) bs.length bs.length) h] X fun e w' => ∃ bc bw cap' : Nat, e = .returned (.pointer (some ⟨bc, 0, none⟩)) ∧ Col X bc bw bs.length cap' bs h 0 0 w' ∧ X.heap.size ≤ bc ∧ X.heap.size ≤ bw := fun B g W hs X hX => collectorOf_calls g 0 bs.length bs.length bs h X (by omega) rfl hN8 (row_words hN0 hs hX).1 (row_words hN0 hs hX).2
      have SFd : ∀ (X w0 : World) (bm bw cap' : Nat), Wk w0 bm bw bs.length cap' ⟨bs, h, 0, 0⟩ false X → Calls Try.prog 55 #[.pointer (some ⟨bm, 0, none⟩), .int .i64 x, .int .i64 (j : Int)] X fun e w' => (∃ z : Int, e = .returned (.int .i64 z) ∧ ∀ u, (fieldZ ⟨bs, h, 0, 0⟩ (k + 1 + j)).1 = some u → z = u) ∧ Wk w0 bm bw bs.length cap' (fieldZ ⟨bs, h, 0, 0⟩ (k + 1 + j)).2 (fieldZ ⟨bs, h, 0, 0⟩ (k + 1 + j)).1.isNone w' := fun X w0 bm bw cap' hX => sfield_calls hX x j (k + 1 + j) hq (by omega) (by omega) (by omega) (by omega) (by omega) (show 0 ≤ h.to by omega) (show h.to ≤ h.size by omega) o2 (show 0 ≤ h.bottom by omega) o9 (show h.top ≤ (bs.length : Int) by omega) hN8 hmv hhe
      have IFd : ∀ (X w0 : World) (bc bw cap' : Nat), Col w0 bc bw bs.length cap' bs h 0 0 X → Calls Try.prog 53 #[.pointer (some ⟨bc, 0, none⟩), .int .i64 ((k : Int) + 1 + (j : Int))] X fun e w' => e = .returned (moveV (fieldZ ⟨bs, h, 0, 0⟩ (k + 1 + j)).1) ∧ Col w0 bc bw bs.length cap' (fieldZ ⟨bs, h, 0, 0⟩ (k + 1 + j)).2.ws (fieldZ ⟨bs, h, 0, 0⟩ (k + 1 + j)).2.h (fieldZ ⟨bs, h, 0, 0⟩ (k + 1 + j)).2.r (fieldZ ⟨bs, h, 0, 0⟩ (k + 1 + j)).2.t w' := fun X w0 bc bw cap' hX => by
        have e := field_calls ⟨bs, h, 0, 0⟩ hX (k + 1 + j) hq (show 0 ≤ h.to by omega) (show h.to ≤ h.size by omega) o2 (show 0 ≤ h.bottom by omega) o9 (show h.top ≤ (bs.length : Int) by omega) hN8 (show (0 : Int) ≤ 0 by omega) (show (0 : Int) ≤ 60000 by omega) (show (0 : Int) ≤ 0 by omega) (show (0 : Int) ≤ 60000 by omega) hmv
        rw [show ((k + 1 + j : Nat) : Int) = (k : Int) + 1 + (j : Int) from rfl] at e
        exact e
      have hlen := fieldZ_len ⟨bs, h, 0, 0⟩ (k + 1 + j)
      generalize fieldZ ⟨bs, h, 0, 0⟩ (k + 1 + j) = R at *
      obtain ⟨o, s1⟩ := R
      dsimp only at hlen SFd IFd
      cases o with
      | none =>
        exact ⟨[], _, _, _, by simp, fun B g W hs => (sField_full g 0 bs.length bs.length h x j W k hkN (HG B g W hs) (bs.getD k 0) (S.getD k 0) (HF B g W hs) hdh (by omega) (by omega) hd (by omega) (SOk B g W hs) STg (SRt B g W hs) SNum ⟨bs, h, 0, 0⟩ s1 (SOp B g W hs) (fun X w0 bm bw cap' hX => (SFd X w0 bm bw cap' hX).mono (by rintro e w' ⟨⟨z, hz, -⟩, hW⟩; exact ⟨⟨z, hz⟩, hW⟩))).mono (fun _ _ => told_none), fun B g W hs => (iField_full g 0 bs.length bs.length h x j W bs S k hkN (S.getD k 0) rfl (by omega) (by omega) hd (by omega) hN8 (by omega) ⟨bs, h, 0, 0⟩ s1 (ILg B g W hs) (ILd g) INum (IOp B g W hs) IFd).mono (fun _ _ => told_none)⟩
      | some u =>
        refine ⟨s1.ws, { s1.h with touched := touchZ s1 }, u, true, by omega, fun B g W hs => (sField_good g 0 bs.length bs.length h x j W k hkN (HG B g W hs) (bs.getD k 0) (S.getD k 0) (HF B g W hs) hdh (by omega) (by omega) hd (by omega) (SOk B g W hs) STg (SRt B g W hs) SNum ⟨bs, h, 0, 0⟩ s1 (SOp B g W hs) u (fun X w0 bm bw cap' hX => (SFd X w0 bm bw cap' hX).mono (by rintro e w' ⟨⟨z, hz, hu⟩, hW⟩; rw [hu u rfl] at hz; exact ⟨hz, hW⟩))).mono (fun _ _ h => told_some hlen h), fun B g W hs => (iField_good g 0 bs.length bs.length h x j W bs S k hkN (S.getD k 0) rfl (by omega) (by omega) hd (by omega) hN8 (by omega) u ⟨bs, h, 0, 0⟩ s1 { s1.h with touched := touchZ s1 } (ILg B g W hs) (ILd g) INum (IOp B g W hs) IFd (fun X w0 bc bw cap' hX => ?_)).mono (fun _ _ h => told_some hlen h)⟩
        have e := told_calls hX
        rw [told_touch] at e
        exact e
end Go.Proofs.Ytebpgglegnljgaa

/- The specification's HeapScan. -/
namespace Go.Proofs.Ytebpgglegnljgaa
open Go.RowKit

/-- A heap is told. -/
def HeapTold (N : Nat) (w : World) (ws : List Int) (h1 : HpN) (e : Ending) (w' : World) : Prop :=
  ∃ bw cap' : Nat, e = .returned (.tuple #[heapV (.slice (some ⟨bw, 0, none⟩) N cap') h1, .bool true]) ∧ CellRow 3 w' bw N (intCells ws) ∧ w.heap.size ≤ bw ∧ Below w.heap.size w w'

/-- What looking through so many objects of a heap comes to. -/
def ScanTold (N : Nat) (w : World) (o : Option CN) (e : Ending) (w' : World) : Prop :=
  match o with
  | some s => HeapTold N w s.ws { s.h with touched := touchZ s } e w'
  | none => e = .returned (.tuple #[noHeap, .bool false]) ∧ Below w.heap.size w w'

set_option maxHeartbeats 8000000 in
set_option maxRecDepth 100000 in
theorem sScan_notOk (b off cap N : Nat) (h : HpN) (x : Int) (w : World)
    (HOk : Hid (∀ X, Below w.heap.size w X → Calls Try.prog 35 #[heapV (.slice (some ⟨b, off, none⟩) N cap) h] X fun e w' => e = .returned (.bool false) ∧ Below X.heap.size X w')) :
    Calls Try.prog 25 #[heapV (.slice (some ⟨b, off, none⟩) N cap) h, .int .i64 x] w fun e w' => e = .returned (.tuple #[noHeap, .bool false]) ∧ Below w.heap.size w w' := by
  obtain ⟨g1, g2, g3, g4, g5, g6, g7, g8, g9⟩ := h
  unfold heapV at *
  dsimp only at *
  obtain ⟨W0, hW0, hA, hR, k2⟩ := both_new w (.slice (some ⟨b, off, none⟩) N cap) ⟨g1, g2, g3, g4, g5, g6, g7, g8, g9⟩
  dsimp only at hW0
  have HW0 := hid hW0
  clear hW0
  go_enter Try.func25, Try.ntmps25
  go_wp2_with fail
  rw [HW0.out]
  have hlt := heap_lt hA
  obtain ⟨v0, v1, v2, v3, v4, v5, v6, v7, v8, v9⟩ := hA.later (B := W0.heap.size) hlt
  dsimp only at v0 v1 v2 v3 v4 v5 v6 v7 v8 v9
  have HA := hid hA
  have HR := hid hR
  have HK2 := hid k2
  clear hA hR k2 HW0
  have KB : Hid (∀ X : Later W0.heap.size W0, Below w.heap.size w X.w ∧ w.heap.size ≤ X.w.heap.size) := fun X => by
    have k := HK2.out.trans (X.h.mono HK2.out.size)
    exact ⟨k, k.size⟩
  clear v0 v1 v2 v3 v4 v5 v6 v7 v8 v9
  refine (HOk.out _ HK2.out).mono ?_
  rintro e W6 ⟨rfl, hb6⟩
  have HB6 := hid (HK2.out.trans (hb6.mono HK2.out.size))
  have HR6 := hid (HR.out.below hb6)
  have HA6 := hid (HA.out.below hb6)
  clear hb6
  obtain ⟨c0, c1, c2, c3, c4, c5, c6, c7, c8, c9⟩ := HR6.out.cells
  dsimp only at c0 c1 c2 c3 c4 c5 c6 c7 c8 c9
  have z0 := frozen_of_heap HR6.out 0
  have z1 := frozen_of_heap HR6.out 1
  have z2 := frozen_of_heap HR6.out 2
  have z3 := frozen_of_heap HR6.out 3
  have z4 := frozen_of_heap HR6.out 4
  have z5 := frozen_of_heap HR6.out 5
  have z6 := frozen_of_heap HR6.out 6
  have z7 := frozen_of_heap HR6.out 7
  have z8 := frozen_of_heap HR6.out 8
  have z9 := frozen_of_heap HR6.out 9
  go_wp2_with fail
  refine heap_use HR6.out (.slice none 0 0) ⟨0, 0, 0, 0, 0, 0, 0, 0, 0⟩ _ ?_
  intro W7 hL hb7 _ _
  obtain ⟨y0, y1, y2, y3, y4, y5, y6, y7, y8, y9⟩ := hL.cells
  dsimp only at y0 y1 y2 y3 y4 y5 y6 y7 y8 y9
  exact bodyPost_ret (v := .tuple #[noHeap, .bool false]) (by simp [results, Try.results25, go_sem, y0, y1, y2, y3, y4, y5, y6, y7, y8, y9, noHeap, heapV]) rfl ⟨rfl, HB6.out.trans (hb7 _ (Nat.le_succ _))⟩

set_option maxHeartbeats 8000000 in
set_option maxRecDepth 100000 in
theorem sScan_below (b off cap N : Nat) (h : HpN) (x : Int) (w : World)
    (hx : x < 0)
    (HOk : Hid (∀ X, Below w.heap.size w X → Calls Try.prog 35 #[heapV (.slice (some ⟨b, off, none⟩) N cap) h] X fun e w' => e = .returned (.bool true) ∧ Below X.heap.size X w')) :
    Calls Try.prog 25 #[heapV (.slice (some ⟨b, off, none⟩) N cap) h, .int .i64 x] w fun e w' => e = .returned (.tuple #[noHeap, .bool false]) ∧ Below w.heap.size w w' := by
  obtain ⟨g1, g2, g3, g4, g5, g6, g7, g8, g9⟩ := h
  unfold heapV at *
  dsimp only at *
  obtain ⟨W0, hW0, hA, hR, k2⟩ := both_new w (.slice (some ⟨b, off, none⟩) N cap) ⟨g1, g2, g3, g4, g5, g6, g7, g8, g9⟩
  dsimp only at hW0
  have HW0 := hid hW0
  clear hW0
  go_enter Try.func25, Try.ntmps25
  go_wp2_with fail
  rw [HW0.out]
  have hlt := heap_lt hA
  obtain ⟨v0, v1, v2, v3, v4, v5, v6, v7, v8, v9⟩ := hA.later (B := W0.heap.size) hlt
  dsimp only at v0 v1 v2 v3 v4 v5 v6 v7 v8 v9
  have HA := hid hA
  have HR := hid hR
  have HK2 := hid k2
  clear hA hR k2 HW0
  have KB : Hid (∀ X : Later W0.heap.size W0, Below w.heap.size w X.w ∧ w.heap.size ≤ X.w.heap.size) := fun X => by
    have k := HK2.out.trans (X.h.mono HK2.out.size)
    exact ⟨k, k.size⟩
  clear v0 v1 v2 v3 v4 v5 v6 v7 v8 v9
  refine (HOk.out _ HK2.out).mono ?_
  rintro e W6 ⟨rfl, hb6⟩
  have HB6 := hid (HK2.out.trans (hb6.mono HK2.out.size))
  have HR6 := hid (HR.out.below hb6)
  have HA6 := hid (HA.out.below hb6)
  clear hb6
  obtain ⟨c0, c1, c2, c3, c4, c5, c6, c7, c8, c9⟩ := HR6.out.cells
  dsimp only at c0 c1 c2 c3 c4 c5 c6 c7 c8 c9
  have z0 := frozen_of_heap HR6.out 0
  have z1 := frozen_of_heap HR6.out 1
  have z2 := frozen_of_heap HR6.out 2
  have z3 := frozen_of_heap HR6.out 3
  have z4 := frozen_of_heap HR6.out 4
  have z5 := frozen_of_heap HR6.out 5
  have z6 := frozen_of_heap HR6.out 6
  have z7 := frozen_of_heap HR6.out 7
  have z8 := frozen_of_heap HR6.out 8
  have z9 := frozen_of_heap HR6.out 9
  go_wp2_with fail
  refine heap_use HR6.out (.slice none 0 0) ⟨0, 0, 0, 0, 0, 0, 0, 0, 0⟩ _ ?_
  intro W7 hL hb7 _ _
  obtain ⟨y0, y1, y2, y3, y4, y5, y6, y7, y8, y9⟩ := hL.cells
  dsimp only at y0 y1 y2 y3 y4 y5 y6 y7 y8 y9
  exact bodyPost_ret (v := .tuple #[noHeap, .bool false]) (by simp [results, Try.results25, go_sem, y0, y1, y2, y3, y4, y5, y6, y7, y8, y9, noHeap, heapV]) rfl ⟨rfl, HB6.out.trans (hb7 _ (Nat.le_succ _))⟩

set_option maxHeartbeats 8000000 in
set_option maxRecDepth 100000 in
theorem sScan_above (b off cap N : Nat) (h : HpN) (x : Int) (w : World)
    (hx : 4000 < x) (hd : decide (x < 0) = false)
    (HOk : Hid (∀ X, Below w.heap.size w X → Calls Try.prog 35 #[heapV (.slice (some ⟨b, off, none⟩) N cap) h] X fun e w' => e = .returned (.bool true) ∧ Below X.heap.size X w')) :
    Calls Try.prog 25 #[heapV (.slice (some ⟨b, off, none⟩) N cap) h, .int .i64 x] w fun e w' => e = .returned (.tuple #[noHeap, .bool false]) ∧ Below w.heap.size w w' := by
  obtain ⟨g1, g2, g3, g4, g5, g6, g7, g8, g9⟩ := h
  unfold heapV at *
  dsimp only at *
  obtain ⟨W0, hW0, hA, hR, k2⟩ := both_new w (.slice (some ⟨b, off, none⟩) N cap) ⟨g1, g2, g3, g4, g5, g6, g7, g8, g9⟩
  dsimp only at hW0
  have HW0 := hid hW0
  clear hW0
  go_enter Try.func25, Try.ntmps25
  go_wp2_with fail
  rw [HW0.out]
  have hlt := heap_lt hA
  obtain ⟨v0, v1, v2, v3, v4, v5, v6, v7, v8, v9⟩ := hA.later (B := W0.heap.size) hlt
  dsimp only at v0 v1 v2 v3 v4 v5 v6 v7 v8 v9
  have HA := hid hA
  have HR := hid hR
  have HK2 := hid k2
  clear hA hR k2 HW0
  have KB : Hid (∀ X : Later W0.heap.size W0, Below w.heap.size w X.w ∧ w.heap.size ≤ X.w.heap.size) := fun X => by
    have k := HK2.out.trans (X.h.mono HK2.out.size)
    exact ⟨k, k.size⟩
  clear v0 v1 v2 v3 v4 v5 v6 v7 v8 v9
  refine (HOk.out _ HK2.out).mono ?_
  rintro e W6 ⟨rfl, hb6⟩
  have HB6 := hid (HK2.out.trans (hb6.mono HK2.out.size))
  have HR6 := hid (HR.out.below hb6)
  have HA6 := hid (HA.out.below hb6)
  clear hb6
  obtain ⟨c0, c1, c2, c3, c4, c5, c6, c7, c8, c9⟩ := HR6.out.cells
  dsimp only at c0 c1 c2 c3 c4 c5 c6 c7 c8 c9
  have z0 := frozen_of_heap HR6.out 0
  have z1 := frozen_of_heap HR6.out 1
  have z2 := frozen_of_heap HR6.out 2
  have z3 := frozen_of_heap HR6.out 3
  have z4 := frozen_of_heap HR6.out 4
  have z5 := frozen_of_heap HR6.out 5
  have z6 := frozen_of_heap HR6.out 6
  have z7 := frozen_of_heap HR6.out 7
  have z8 := frozen_of_heap HR6.out 8
  have z9 := frozen_of_heap HR6.out 9
  go_wp2_with fail
  refine heap_use HR6.out (.slice none 0 0) ⟨0, 0, 0, 0, 0, 0, 0, 0, 0⟩ _ ?_
  intro W7 hL hb7 _ _
  obtain ⟨y0, y1, y2, y3, y4, y5, y6, y7, y8, y9⟩ := hL.cells
  dsimp only at y0 y1 y2 y3 y4 y5 y6 y7 y8 y9
  exact bodyPost_ret (v := .tuple #[noHeap, .bool false]) (by simp [results, Try.results25, go_sem, y0, y1, y2, y3, y4, y5, y6, y7, y8, y9, noHeap, heapV]) rfl ⟨rfl, HB6.out.trans (hb7 _ (Nat.le_succ _))⟩

set_option maxHeartbeats 8000000 in
set_option maxRecDepth 100000 in
theorem sScan_good (b off cap N : Nat) (h : HpN) (x : Int) (w : World)
    (n : Nat) (hn : x = n) (hn4 : n ≤ 4000) (hd : decide (x < 0) = false) (hd2 : decide (4000 < x) = false) (s0 : CN)
    (HOk : Hid (∀ X, Below w.heap.size w X → Calls Try.prog 35 #[heapV (.slice (some ⟨b, off, none⟩) N cap) h] X fun e w' => e = .returned (.bool true) ∧ Below X.heap.size X w'))
    (HOp : Hid (∀ X, Below w.heap.size w X → Calls Try.prog 46 #[heapV (.slice (some ⟨b, off, none⟩) N cap) h] X fun e w' => ∃ bm bw cap' : Nat, e = .returned (.pointer (some ⟨bm, 0, none⟩)) ∧ Wk X bm bw N cap' s0 false w' ∧ X.heap.size ≤ bm ∧ X.heap.size ≤ bw))
    (HSn : Hid (∀ (q : Nat) (s' : CN) (X w0 : World) (bm bw cap' : Nat), scanRun q s0 = some s' → Wk w0 bm bw N cap' s' false X → Calls Try.prog 56 #[.pointer (some ⟨bm, 0, none⟩)] X (ScanPost w0 bm bw N cap' (scanOne s')))) :
    Calls Try.prog 25 #[heapV (.slice (some ⟨b, off, none⟩) N cap) h, .int .i64 x] w (ScanTold N w (scanRun n s0)) := by
  obtain ⟨R, hR⟩ : ∃ R, scanRun n s0 = R := ⟨_, rfl⟩
  rw [hR]
  have HR0 := hid hR
  have HN := hid hn
  have HN4 := hid hn4
  clear hR hn hn4
  obtain ⟨g1, g2, g3, g4, g5, g6, g7, g8, g9⟩ := h
  unfold heapV at *
  dsimp only at *
  obtain ⟨W0, hW0, hA, hR, k2⟩ := both_new w (.slice (some ⟨b, off, none⟩) N cap) ⟨g1, g2, g3, g4, g5, g6, g7, g8, g9⟩
  dsimp only at hW0
  have HW0 := hid hW0
  clear hW0
  go_enter Try.func25, Try.ntmps25
  go_wp2_with fail
  rw [HW0.out]
  have hlt := heap_lt hA
  obtain ⟨v0, v1, v2, v3, v4, v5, v6, v7, v8, v9⟩ := hA.later (B := W0.heap.size) hlt
  dsimp only at v0 v1 v2 v3 v4 v5 v6 v7 v8 v9
  have HA := hid hA
  have HR := hid hR
  have HK2 := hid k2
  clear hA hR k2 HW0
  have KB : Hid (∀ X : Later W0.heap.size W0, Below w.heap.size w X.w ∧ w.heap.size ≤ X.w.heap.size) := fun X => by
    have k := HK2.out.trans (X.h.mono HK2.out.size)
    exact ⟨k, k.size⟩
  clear v0 v1 v2 v3 v4 v5 v6 v7 v8 v9
  refine (HOk.out _ HK2.out).mono ?_
  rintro e W6 ⟨rfl, hb6⟩
  have HB6 := hid (HK2.out.trans (hb6.mono HK2.out.size))
  have HR6 := hid (HR.out.below hb6)
  have HA6 := hid (HA.out.below hb6)
  clear hb6
  obtain ⟨c0, c1, c2, c3, c4, c5, c6, c7, c8, c9⟩ := HA6.out.cells
  dsimp only at c0 c1 c2 c3 c4 c5 c6 c7 c8 c9
  go_wp2_with fail
  refine (HOp.out _ HB6.out).mono ?_
  rintro e W7 ⟨bm, bw, cap', rfl, hW7, hlo, hlo2⟩
  have HW7 := hid hW7
  have hlt6 := heap_lt HR6.out
  clear hW7 HOp HA6 c0 c1 c2 c3 c4 c5 c6 c7 c8 c9
  go_wp2_with fail
  go_loopw [7] (fun i wr => ∃ (ii : Int) (q : Nat), i = .int .i64 ii ∧ Hid (ii = (q : Int) ∧ q ≤ n) ∧ ((∃ s', Hid (scanRun q s0 = some s') ∧ Hid (Wk W6 bm bw N cap' s' false wr)) ∨ (Hid (scanRun q s0 = none) ∧ ∃ s', Hid (Wk W6 bm bw N cap' s' true wr)))) (fun i _ => n - (intOf i).toNat)
  case atStart => exact ⟨0, 0, rfl, ⟨rfl, by omega⟩, Or.inl ⟨_, rfl, HW7.out⟩⟩
  case round =>
    obtain ⟨ii, q, rfl, HQ, hcase⟩ := hrel
    clear HW7
    by_cases hlt : ii < x
    · have hqn : q < n := by have := HQ.out; have := HN.out; omega
      have hs : n - (intOf (.int .i64 (ii + 1))).toNat < n - (intOf (.int .i64 ii)).toNat := by have := HQ.out; simp only [intOf]; omega
      have hw : Hid (wrap64 (ii + 1) = ii + 1) := by have := HQ.out; have := HN4.out; show _ = _; unfold wrap64; omega
      rcases hcase with ⟨s', HK, HI⟩ | ⟨HK, s', HI⟩
      · have HSc := hid (HSn.out q s' wr W6 bm bw cap' HK.out HI.out)
        obtain ⟨o, ho⟩ : ∃ o, scanOne s' = o := ⟨_, rfl⟩
        rw [ho] at HSc
        have HNx : Hid (scanRun (q + 1) s0 = o) := by show _ = _; unfold scanRun; rw [HK.out]; exact ho
        clear ho HI
        go_wp2_with fail
        refine HSc.out.mono ?_
        rintro e W8 ⟨rfl, hC8⟩
        have HC8 := hid hC8
        clear hC8 HSc
        go_wp2_with fail
        try rw [hw.out]
        cases o with
        | some s2 => exact ⟨⟨ii + 1, q + 1, rfl, ⟨by have := HQ.out; push_cast; omega, by omega⟩, Or.inl ⟨s2, HNx.out, HC8.out⟩⟩, hs⟩
        | none => exact ⟨⟨ii + 1, q + 1, rfl, ⟨by have := HQ.out; push_cast; omega, by omega⟩, Or.inr ⟨HNx.out, HC8.out⟩⟩, hs⟩
      · have HSc := hid (sscan_full HI.out)
        have HNx : Hid (scanRun (q + 1) s0 = none) := scanRun_none HK.out 1
        clear HI
        go_wp2_with fail
        refine HSc.out.mono ?_
        rintro e W8 ⟨rfl, hC8⟩
        have HC8 := hid hC8
        clear hC8 HSc
        go_wp2_with fail
        try rw [hw.out]
        exact ⟨⟨ii + 1, q + 1, rfl, ⟨by have := HQ.out; push_cast; omega, by omega⟩, Or.inr ⟨HNx.out, s', HC8.out⟩⟩, hs⟩
    · have hqn : q = n := by have := HQ.out; have := HN.out; omega
      rcases hcase with ⟨s', HK, HI⟩ | ⟨HK, s', HI⟩
      · have HF : Hid (R = some s') := by have h := HK.out; rw [hqn, HR0.out] at h; exact h
        have HR8 := hid (HR6.out.below (HI.out.frame.below hlo hlo2))
        have HB8 := hid (HB6.out.trans ((HI.out.frame.below hlo hlo2).mono HB6.out.size))
        obtain ⟨d0, d1, d2, d3, d4, d5, d6, d7, d8, d9, d10⟩ := HI.out.blk.cells
        obtain ⟨tau, htau⟩ : ∃ tau, touchZ s' = tau := ⟨_, rfl⟩
        rw [htau] at d9
        have HTau := hid htau
        clear htau
        obtain ⟨c0, c1, c2, c3, c4, c5, c6, c7, c8, c9⟩ := HR8.out.cells
        dsimp only at c0 c1 c2 c3 c4 c5 c6 c7 c8 c9
        have z0 := frozen_of_heap HR8.out 0
        have z1 := frozen_of_heap HR8.out 1
        have z2 := frozen_of_heap HR8.out 2
        have z3 := frozen_of_heap HR8.out 3
        have z4 := frozen_of_heap HR8.out 4
        have z5 := frozen_of_heap HR8.out 5
        have z6 := frozen_of_heap HR8.out 6
        have z7 := frozen_of_heap HR8.out 7
        have z8 := frozen_of_heap HR8.out 8
        have z9 := frozen_of_heap HR8.out 9
        clear HR6 HB6
        go_wp2_with fail
        refine heap_use HR8.out (.slice (some ⟨bw, 0, none⟩) N cap') ⟨s'.h.size, s'.h.to, s'.h.bottom, s'.h.top, s'.h.scan, s'.h.fb, s'.h.ft, s'.h.flips, tau⟩ _ ?_
        intro W9 hL hb9 _ hoth
        obtain ⟨y0, y1, y2, y3, y4, y5, y6, y7, y8, y9⟩ := hL.cells
        dsimp only at y0 y1 y2 y3 y4 y5 y6 y7 y8 y9
        refine bodyPost_ret (v := .tuple #[heapV (.slice (some ⟨bw, 0, none⟩) N cap') ⟨s'.h.size, s'.h.to, s'.h.bottom, s'.h.top, s'.h.scan, s'.h.fb, s'.h.ft, s'.h.flips, tau⟩, .bool true]) (by simp [results, Try.results25, go_sem, y0, y1, y2, y3, y4, y5, y6, y7, y8, y9, heapV]) rfl ?_
        rw [HF.out]
        exact ⟨bw, cap', by rw [HTau.out], HI.out.row.of_block (hoth _ (by omega)), by have := HB8.out.size; omega, HB8.out.trans (hb9 _ (Nat.le_succ _))⟩
      · have HF : Hid (R = none) := by have h := HK.out; rw [hqn, HR0.out] at h; exact h
        have HR8 := hid (HR6.out.below (HI.out.frame.below hlo hlo2))
        have HB8 := hid (HB6.out.trans ((HI.out.frame.below hlo hlo2).mono HB6.out.size))
        have d10 := HI.out.blk.cells.2.2.2.2.2.2.2.2.2.2
        obtain ⟨c0, c1, c2, c3, c4, c5, c6, c7, c8, c9⟩ := HR8.out.cells
        dsimp only at c0 c1 c2 c3 c4 c5 c6 c7 c8 c9
        have z0 := frozen_of_heap HR8.out 0
        have z1 := frozen_of_heap HR8.out 1
        have z2 := frozen_of_heap HR8.out 2
        have z3 := frozen_of_heap HR8.out 3
        have z4 := frozen_of_heap HR8.out 4
        have z5 := frozen_of_heap HR8.out 5
        have z6 := frozen_of_heap HR8.out 6
        have z7 := frozen_of_heap HR8.out 7
        have z8 := frozen_of_heap HR8.out 8
        have z9 := frozen_of_heap HR8.out 9
        clear HR6 HB6
        go_wp2_with fail
        refine heap_use HR8.out (.slice none 0 0) ⟨0, 0, 0, 0, 0, 0, 0, 0, 0⟩ _ ?_
        intro W9 hL hb9 _ _
        obtain ⟨y0, y1, y2, y3, y4, y5, y6, y7, y8, y9⟩ := hL.cells
        dsimp only at y0 y1 y2 y3 y4 y5 y6 y7 y8 y9
        refine bodyPost_ret (v := .tuple #[noHeap, .bool false]) (by simp [results, Try.results25, go_sem, y0, y1, y2, y3, y4, y5, y6, y7, y8, y9, noHeap, heapV]) rfl ?_
        rw [HF.out]
        exact ⟨rfl, HB8.out.trans (hb9 _ (Nat.le_succ _))⟩

end Go.Proofs.Ytebpgglegnljgaa

/- The program's HeapScan. -/
namespace Go.Proofs.Ytebpgglegnljgaa
open Go.RowKit

set_option maxRecDepth 100000 in
theorem iOk_calls {v : Value} {h : HpN} {W : World} {R : Bool} (H : ∀ w, Below W.heap.size W w → Calls Try.prog 30 #[heapV v h] w fun e w' => (∃ (a a' : Option Addr) (n c n' c' : Nat) (h' : HpN), e = .returned (.tuple #[layV (.slice a n c) h' (.slice a' n' c'), .bool R])) ∧ Below w.heap.size w w') :
    Calls Try.prog 15 #[heapV v h] W fun e w' => e = .returned (.bool R) ∧ Below W.heap.size W w' := by
  have HH := hid H
  clear H
  obtain ⟨g1, g2, g3, g4, g5, g6, g7, g8, g9⟩ := h
  unfold heapV at *
  dsimp only at *
  go_enter Try.func15, Try.ntmps15
  go_wp2_with fail
  have k0 := (Below.refl W.heap.size W).alloc (Nat.le_refl _) (.cells #[v, .int .i64 g1, .int .i64 g2, .int .i64 g3, .int .i64 g4, .int .i64 g5, .int .i64 g6, .int .i64 g7, .int .i64 g8, .int .i64 g9] 25)
  refine (HH.out _ k0).mono ?_
  rintro e W1 ⟨⟨a, a', n, c, n', c', ⟨i1, i2, i3, i4, i5, i6, i7, i8, i9⟩, rfl⟩, hb⟩
  unfold layV
  dsimp only
  have HB := hid (k0.trans (hb.mono k0.size))
  clear hb k0 HH
  go_wp2_with fail
  go_ret
  exact ⟨rfl, HB.out.alloc HB.out.size _⟩

set_option maxHeartbeats 8000000 in
set_option maxRecDepth 100000 in
theorem iScan_below (b off cap N : Nat) (h : HpN) (x : Int) (w : World)
    (hx : x < 0) :
    Calls Try.prog 19 #[heapV (.slice (some ⟨b, off, none⟩) N cap) h, .int .i64 x] w fun e w' => e = .returned (.tuple #[noHeap, .bool false]) ∧ Below w.heap.size w w' := by
  obtain ⟨g1, g2, g3, g4, g5, g6, g7, g8, g9⟩ := h
  unfold heapV at *
  dsimp only at *
  obtain ⟨W0, hW0, hA, hR, k2⟩ := both_new w (.slice (some ⟨b, off, none⟩) N cap) ⟨g1, g2, g3, g4, g5, g6, g7, g8, g9⟩
  dsimp only at hW0
  have HB6 := hid k2
  have HR6 := hid hR
  clear hA hR k2
  obtain ⟨c0, c1, c2, c3, c4, c5, c6, c7, c8, c9⟩ := HR6.out.cells
  dsimp only at c0 c1 c2 c3 c4 c5 c6 c7 c8 c9
  have z0 := frozen_of_heap HR6.out 0
  have z1 := frozen_of_heap HR6.out 1
  have z2 := frozen_of_heap HR6.out 2
  have z3 := frozen_of_heap HR6.out 3
  have z4 := frozen_of_heap HR6.out 4
  have z5 := frozen_of_heap HR6.out 5
  have z6 := frozen_of_heap HR6.out 6
  have z7 := frozen_of_heap HR6.out 7
  have z8 := frozen_of_heap HR6.out 8
  have z9 := frozen_of_heap HR6.out 9
  go_enter Try.func19, Try.ntmps19
  go_wp2_with fail
  refine heap_use HR6.out (.slice none 0 0) ⟨0, 0, 0, 0, 0, 0, 0, 0, 0⟩ _ ?_
  intro W7 hL hb7 _ _
  obtain ⟨y0, y1, y2, y3, y4, y5, y6, y7, y8, y9⟩ := hL.cells
  dsimp only at y0 y1 y2 y3 y4 y5 y6 y7 y8 y9
  exact bodyPost_ret (v := .tuple #[noHeap, .bool false]) (by simp [results, Try.results19, go_sem, y0, y1, y2, y3, y4, y5, y6, y7, y8, y9, noHeap, heapV]) rfl ⟨rfl, HB6.out.trans (hb7 _ (Nat.le_succ _))⟩

set_option maxHeartbeats 8000000 in
set_option maxRecDepth 100000 in
theorem iScan_above (b off cap N : Nat) (h : HpN) (x : Int) (w : World)
    (hx : 4000 < x) (hd : decide (x < 0) = false) :
    Calls Try.prog 19 #[heapV (.slice (some ⟨b, off, none⟩) N cap) h, .int .i64 x] w fun e w' => e = .returned (.tuple #[noHeap, .bool false]) ∧ Below w.heap.size w w' := by
  obtain ⟨g1, g2, g3, g4, g5, g6, g7, g8, g9⟩ := h
  unfold heapV at *
  dsimp only at *
  obtain ⟨W0, hW0, hA, hR, k2⟩ := both_new w (.slice (some ⟨b, off, none⟩) N cap) ⟨g1, g2, g3, g4, g5, g6, g7, g8, g9⟩
  dsimp only at hW0
  have HB6 := hid k2
  have HR6 := hid hR
  clear hA hR k2
  obtain ⟨c0, c1, c2, c3, c4, c5, c6, c7, c8, c9⟩ := HR6.out.cells
  dsimp only at c0 c1 c2 c3 c4 c5 c6 c7 c8 c9
  have z0 := frozen_of_heap HR6.out 0
  have z1 := frozen_of_heap HR6.out 1
  have z2 := frozen_of_heap HR6.out 2
  have z3 := frozen_of_heap HR6.out 3
  have z4 := frozen_of_heap HR6.out 4
  have z5 := frozen_of_heap HR6.out 5
  have z6 := frozen_of_heap HR6.out 6
  have z7 := frozen_of_heap HR6.out 7
  have z8 := frozen_of_heap HR6.out 8
  have z9 := frozen_of_heap HR6.out 9
  go_enter Try.func19, Try.ntmps19
  go_wp2_with fail
  refine heap_use HR6.out (.slice none 0 0) ⟨0, 0, 0, 0, 0, 0, 0, 0, 0⟩ _ ?_
  intro W7 hL hb7 _ _
  obtain ⟨y0, y1, y2, y3, y4, y5, y6, y7, y8, y9⟩ := hL.cells
  dsimp only at y0 y1 y2 y3 y4 y5 y6 y7 y8 y9
  exact bodyPost_ret (v := .tuple #[noHeap, .bool false]) (by simp [results, Try.results19, go_sem, y0, y1, y2, y3, y4, y5, y6, y7, y8, y9, noHeap, heapV]) rfl ⟨rfl, HB6.out.trans (hb7 _ (Nat.le_succ _))⟩

set_option maxHeartbeats 8000000 in
set_option maxRecDepth 100000 in
theorem iScan_notOk (b off cap N : Nat) (h : HpN) (x : Int) (w : World)
    (hd : decide (x < 0) = false) (hd2 : decide (4000 < x) = false)
    (HOk : Hid (∀ X, Below w.heap.size w X → Calls Try.prog 15 #[heapV (.slice (some ⟨b, off, none⟩) N cap) h] X fun e w' => e = .returned (.bool false) ∧ Below X.heap.size X w')) :
    Calls Try.prog 19 #[heapV (.slice (some ⟨b, off, none⟩) N cap) h, .int .i64 x] w fun e w' => e = .returned (.tuple #[noHeap, .bool false]) ∧ Below w.heap.size w w' := by
  obtain ⟨g1, g2, g3, g4, g5, g6, g7, g8, g9⟩ := h
  unfold heapV at *
  dsimp only at *
  obtain ⟨W0, hW0, hA, hR, k2⟩ := both_new w (.slice (some ⟨b, off, none⟩) N cap) ⟨g1, g2, g3, g4, g5, g6, g7, g8, g9⟩
  dsimp only at hW0
  have HW0 := hid hW0
  clear hW0
  go_enter Try.func19, Try.ntmps19
  go_wp2_with fail
  rw [HW0.out]
  have hlt := heap_lt hA
  obtain ⟨v0, v1, v2, v3, v4, v5, v6, v7, v8, v9⟩ := hA.later (B := W0.heap.size) hlt
  dsimp only at v0 v1 v2 v3 v4 v5 v6 v7 v8 v9
  have HA := hid hA
  have HR := hid hR
  have HK2 := hid k2
  clear hA hR k2 HW0
  have KB : Hid (∀ X : Later W0.heap.size W0, Below w.heap.size w X.w ∧ w.heap.size ≤ X.w.heap.size) := fun X => by
    have k := HK2.out.trans (X.h.mono HK2.out.size)
    exact ⟨k, k.size⟩
  clear v0 v1 v2 v3 v4 v5 v6 v7 v8 v9
  refine (HOk.out _ HK2.out).mono ?_
  rintro e W6 ⟨rfl, hb6⟩
  have HB6 := hid (HK2.out.trans (hb6.mono HK2.out.size))
  have HR6 := hid (HR.out.below hb6)
  have HA6 := hid (HA.out.below hb6)
  clear hb6
  obtain ⟨c0, c1, c2, c3, c4, c5, c6, c7, c8, c9⟩ := HR6.out.cells
  dsimp only at c0 c1 c2 c3 c4 c5 c6 c7 c8 c9
  have z0 := frozen_of_heap HR6.out 0
  have z1 := frozen_of_heap HR6.out 1
  have z2 := frozen_of_heap HR6.out 2
  have z3 := frozen_of_heap HR6.out 3
  have z4 := frozen_of_heap HR6.out 4
  have z5 := frozen_of_heap HR6.out 5
  have z6 := frozen_of_heap HR6.out 6
  have z7 := frozen_of_heap HR6.out 7
  have z8 := frozen_of_heap HR6.out 8
  have z9 := frozen_of_heap HR6.out 9
  go_wp2_with fail
  refine heap_use HR6.out (.slice none 0 0) ⟨0, 0, 0, 0, 0, 0, 0, 0, 0⟩ _ ?_
  intro W7 hL hb7 _ _
  obtain ⟨y0, y1, y2, y3, y4, y5, y6, y7, y8, y9⟩ := hL.cells
  dsimp only at y0 y1 y2 y3 y4 y5 y6 y7 y8 y9
  exact bodyPost_ret (v := .tuple #[noHeap, .bool false]) (by simp [results, Try.results19, go_sem, y0, y1, y2, y3, y4, y5, y6, y7, y8, y9, noHeap, heapV]) rfl ⟨rfl, HB6.out.trans (hb7 _ (Nat.le_succ _))⟩

set_option maxHeartbeats 8000000 in
set_option maxRecDepth 100000 in
theorem iScan_good (b off cap N : Nat) (h : HpN) (x : Int) (w : World)
    (hd : decide (x < 0) = false) (hd2 : decide (4000 < x) = false) (s0 : CN) (o : Option CN)
    (HOk : Hid (∀ X, Below w.heap.size w X → Calls Try.prog 15 #[heapV (.slice (some ⟨b, off, none⟩) N cap) h] X fun e w' => e = .returned (.bool true) ∧ Below X.heap.size X w'))
    (HOp : Hid (∀ X, Below w.heap.size w X → Calls Try.prog 42 #[heapV (.slice (some ⟨b, off, none⟩) N cap) h] X fun e w' => ∃ bc bw cap' : Nat, e = .returned (.pointer (some ⟨bc, 0, none⟩)) ∧ ColAt X bc bw N cap' s0 w' ∧ X.heap.size ≤ bc ∧ X.heap.size ≤ bw))
    (HLk : Hid (∀ (X w0 : World) (bc bw cap' : Nat), ColAt w0 bc bw N cap' s0 X → Calls Try.prog 50 #[.pointer (some ⟨bc, 0, none⟩), .int .i64 x] X (LookPost w0 bc bw N cap' o)))
    (HTd : Hid (∀ (s1 : CN) (X w0 : World) (bc bw cap' : Nat), o = some s1 → ColAt w0 bc bw N cap' s1 X → Calls Try.prog 45 #[.pointer (some ⟨bc, 0, none⟩)] X fun e w' => e = .returned (heapV (.slice (some ⟨bw, 0, none⟩) N cap') { s1.h with touched := touchZ s1 }) ∧ Below X.heap.size X w')) :
    Calls Try.prog 19 #[heapV (.slice (some ⟨b, off, none⟩) N cap) h, .int .i64 x] w (ScanTold N w o) := by
  obtain ⟨g1, g2, g3, g4, g5, g6, g7, g8, g9⟩ := h
  unfold heapV at *
  dsimp only at *
  obtain ⟨W0, hW0, hA, hR, k2⟩ := both_new w (.slice (some ⟨b, off, none⟩) N cap) ⟨g1, g2, g3, g4, g5, g6, g7, g8, g9⟩
  dsimp only at hW0
  have HW0 := hid hW0
  clear hW0
  go_enter Try.func19, Try.ntmps19
  go_wp2_with fail
  rw [HW0.out]
  have hlt := heap_lt hA
  obtain ⟨v0, v1, v2, v3, v4, v5, v6, v7, v8, v9⟩ := hA.later (B := W0.heap.size) hlt
  dsimp only at v0 v1 v2 v3 v4 v5 v6 v7 v8 v9
  have HA := hid hA
  have HR := hid hR
  have HK2 := hid k2
  clear hA hR k2 HW0
  have KB : Hid (∀ X : Later W0.heap.size W0, Below w.heap.size w X.w ∧ w.heap.size ≤ X.w.heap.size) := fun X => by
    have k := HK2.out.trans (X.h.mono HK2.out.size)
    exact ⟨k, k.size⟩
  clear v0 v1 v2 v3 v4 v5 v6 v7 v8 v9
  refine (HOk.out _ HK2.out).mono ?_
  rintro e W6 ⟨rfl, hb6⟩
  have HB6 := hid (HK2.out.trans (hb6.mono HK2.out.size))
  have HR6 := hid (HR.out.below hb6)
  have HA6 := hid (HA.out.below hb6)
  clear hb6
  obtain ⟨c0, c1, c2, c3, c4, c5, c6, c7, c8, c9⟩ := HA6.out.cells
  dsimp only at c0 c1 c2 c3 c4 c5 c6 c7 c8 c9
  go_wp2_with fail
  refine (HOp.out _ HB6.out).mono ?_
  rintro e W7 ⟨bc, bw, cap', rfl, hW7, hlo, hlo2⟩
  have HW7 := hid hW7
  have hlt6 := heap_lt HR6.out
  clear hW7 HOp HA6 c0 c1 c2 c3 c4 c5 c6 c7 c8 c9
  have HLk' := hid (HLk.out _ _ _ _ _ HW7.out)
  clear HLk HW7
  go_wp2_with fail
  cases o with
  | none =>
    refine HLk'.out.mono ?_
    rintro e W8 ⟨rfl, s1, hC8⟩
    have HB8 := hid (HB6.out.trans ((Col.frame hC8).below hlo hlo2 |>.mono HB6.out.size))
    have HR8 := hid (HR6.out.below ((Col.frame hC8).below hlo hlo2))
    clear hC8 HR6 HB6 HTd HLk'
    obtain ⟨c0, c1, c2, c3, c4, c5, c6, c7, c8, c9⟩ := HR8.out.cells
    dsimp only at c0 c1 c2 c3 c4 c5 c6 c7 c8 c9
    have z0 := frozen_of_heap HR8.out 0
    have z1 := frozen_of_heap HR8.out 1
    have z2 := frozen_of_heap HR8.out 2
    have z3 := frozen_of_heap HR8.out 3
    have z4 := frozen_of_heap HR8.out 4
    have z5 := frozen_of_heap HR8.out 5
    have z6 := frozen_of_heap HR8.out 6
    have z7 := frozen_of_heap HR8.out 7
    have z8 := frozen_of_heap HR8.out 8
    have z9 := frozen_of_heap HR8.out 9
    go_wp2_with fail
    refine heap_use HR8.out (.slice none 0 0) ⟨0, 0, 0, 0, 0, 0, 0, 0, 0⟩ _ ?_
    intro W7 hL hb7 _ _
    obtain ⟨y0, y1, y2, y3, y4, y5, y6, y7, y8, y9⟩ := hL.cells
    dsimp only at y0 y1 y2 y3 y4 y5 y6 y7 y8 y9
    exact bodyPost_ret (v := .tuple #[noHeap, .bool false]) (by simp [results, Try.results19, go_sem, y0, y1, y2, y3, y4, y5, y6, y7, y8, y9, noHeap, heapV]) rfl ⟨rfl, HB8.out.trans (hb7 _ (Nat.le_succ _))⟩
  | some s1 =>
    refine HLk'.out.mono ?_
    rintro e W8 ⟨rfl, hC8⟩
    have HW8 := hid hC8
    have HTd' := hid (HTd.out s1 W8 W6 bc bw cap' rfl HW8.out)
    clear hC8 HLk' HTd
    obtain ⟨i9, hi9⟩ : ∃ i9, touchZ s1 = i9 := ⟨_, rfl⟩
    have HI9 := hid hi9
    rw [hi9] at HTd'
    clear hi9
    go_wp2_with fail
    refine HTd'.out.mono ?_
    rintro e W9 ⟨rfl, hb9⟩
    have HW9 := hid (Col.keep HW8.out hb9)
    have HR9 := hid (HR6.out.below (HW9.out.frame.below hlo hlo2))
    have HB9 := hid (HB6.out.trans ((HW9.out.frame.below hlo hlo2).mono HB6.out.size))
    obtain ⟨c0, c1, c2, c3, c4, c5, c6, c7, c8, c9⟩ := HR9.out.cells
    dsimp only at c0 c1 c2 c3 c4 c5 c6 c7 c8 c9
    have z0 := frozen_of_heap HR9.out 0
    have z1 := frozen_of_heap HR9.out 1
    have z2 := frozen_of_heap HR9.out 2
    have z3 := frozen_of_heap HR9.out 3
    have z4 := frozen_of_heap HR9.out 4
    have z5 := frozen_of_heap HR9.out 5
    have z6 := frozen_of_heap HR9.out 6
    have z7 := frozen_of_heap HR9.out 7
    have z8 := frozen_of_heap HR9.out 8
    have z9 := frozen_of_heap HR9.out 9
    clear hb9 HTd' HW8 HR6 HB6
    go_wp2_with fail
    refine heap_use HR9.out (.slice (some ⟨bw, 0, none⟩) N cap') ⟨s1.h.size, s1.h.to, s1.h.bottom, s1.h.top, s1.h.scan, s1.h.fb, s1.h.ft, s1.h.flips, i9⟩ _ ?_
    intro W10 hL hb10 _ hoth
    obtain ⟨y0, y1, y2, y3, y4, y5, y6, y7, y8, y9⟩ := hL.cells
    dsimp only at y0 y1 y2 y3 y4 y5 y6 y7 y8 y9
    refine bodyPost_ret (v := .tuple #[heapV (.slice (some ⟨bw, 0, none⟩) N cap') ⟨s1.h.size, s1.h.to, s1.h.bottom, s1.h.top, s1.h.scan, s1.h.fb, s1.h.ft, s1.h.flips, i9⟩, .bool true]) (by simp [results, Try.results19, go_sem, y0, y1, y2, y3, y4, y5, y6, y7, y8, y9, heapV]) rfl ?_
    exact ⟨bw, cap', by rw [HI9.out], HW9.out.row.of_block (hoth _ (by omega)), by have := HB9.out.size; omega, HB9.out.trans (hb10 _ (Nat.le_succ _))⟩

end Go.Proofs.Ytebpgglegnljgaa

/- HeapScan: both sides answer the same, whatever they are given. -/
namespace Go.Proofs.Ytebpgglegnljgaa
open Go.RowKit

/-- A heap and a bool are told; the heap's words are new. -/
def Told2 (W : World) (ans : List Int) (H : HpN) (ok : Bool) (e : Ending) (w' : World) : Prop :=
  (∃ v, e = .returned (.tuple #[heapV v H, .bool ok]) ∧ SliceR 3 1 W.heap.size w' v ans.length (intCells ans)) ∧ Below W.heap.size W w'

theorem told2_none {W w' : World} {e : Ending} (h : e = .returned (.tuple #[noHeap, .bool false]) ∧ Below W.heap.size W w') : Told2 W [] ⟨0, 0, 0, 0, 0, 0, 0, 0, 0⟩ false e w' :=
  ⟨⟨_, h.1, none, 0, rfl, Or.inl rfl⟩, h.2⟩

theorem told2_some {N : Nat} {W w' : World} {ws : List Int} {H : HpN} {e : Ending} (hl : ws.length = N) (h : HeapTold N W ws H e w') : Told2 W ws H true e w' := by
  obtain ⟨bw, cap, rfl, hr, hlow, hb⟩ := h
  subst hl
  exact ⟨⟨_, rfl, some ⟨bw, 0, none⟩, cap, rfl, Or.inr ⟨bw, rfl, hlow, by rw [Nat.mul_one]; exact hr⟩⟩, hb⟩

/-- Words in a row of their own, at a later world. -/
theorem row_at {B g N : Nat} {bs : List Int} {W X : World} (h0 : N ≠ 0) (hs : SliceR 3 1 B W (.slice (some ⟨g, 0, none⟩) N N) N (intCells bs)) (hX : Below W.heap.size W X) :
    g < X.heap.size ∧ ∀ k, k < N → X.cell? ⟨g, 0 + k, none⟩ = some (.int .i64 (bs.getD k 0)) := by
  obtain ⟨ad, cap, e, hh⟩ := hs
  obtain ⟨g', e2, hB, hr⟩ := hh.resolve_left h0
  cases e
  cases e2
  rw [Nat.mul_one] at hr
  exact ⟨Nat.lt_of_lt_of_le hr.lt hX.size, fun k hk => by rw [Nat.zero_add]; exact (hX.cell (p := ⟨g, k, none⟩) hr.lt).trans (hr.cell hk)⟩

theorem told_same (t r q : Int) : wrap64 (wrap64 (t + r) + q) = wrap64 (t + (r + q)) := by
  unfold wrap64
  omega

theorem scan_both (bs : List Int) (h : HpN) (ht : h.touched < 9223372036854775808) (hm : bs.length ≤ 1048576) (x : Int) : ∃ ans H ok, ans.length ≤ 1048576 ∧
    (∀ B g W, SliceR 3 1 B W (.slice (some ⟨g, 0, none⟩) bs.length bs.length) bs.length (intCells bs) → Calls Try.prog 25 #[heapV (.slice (some ⟨g, 0, none⟩) bs.length bs.length) h, .int .i64 x] W (Told2 W ans H ok)) ∧
    (∀ B g W, SliceR 3 1 B W (.slice (some ⟨g, 0, none⟩) bs.length bs.length) bs.length (intCells bs) → Calls Try.prog 19 #[heapV (.slice (some ⟨g, 0, none⟩) bs.length bs.length) h, .int .i64 x] W (Told2 W ans H ok)) := by
  have IOk : ∀ B g W, SliceR 3 1 B W (.slice (some ⟨g, 0, none⟩) bs.length bs.length) bs.length (intCells bs) → ∀ X, Below W.heap.size W X → Calls Try.prog 15 #[heapV (.slice (some ⟨g, 0, none⟩) bs.length bs.length) h] X fun e w' => e = .returned (.bool (if Ordered h bs.length then implOk bs h else false)) ∧ Below X.heap.size X w' := fun B g W hs X hX => by
    refine iOk_calls (fun w hb => ?_)
    have hXw := hX.trans (hb.mono hX.size)
    by_cases ho : Ordered h bs.length
    · rw [if_pos ho]
      have h0 : bs.length ≠ 0 := by obtain ⟨o1, o2, o3, _⟩ := ho; omega
      refine (layOut_calls g 0 bs.length bs.length bs h w rfl ho (Nat.le_refl _) (row_at h0 hs hXw).1 (row_at h0 hs hXw).2).mono ?_
      rintro e w' ⟨hres, hb'⟩
      refine ⟨?_, hb'⟩
      rcases hres with ⟨e1, rfl⟩ | ⟨S, gb, _, e1, rfl, _⟩
      · rw [e1]
        exact ⟨_, _, _, _, _, _, _, rfl⟩
      · rw [e1]
        exact ⟨_, _, _, _, _, _, _, rfl⟩
    · rw [if_neg ho]
      refine (layOut_bad _ _ _ h w ho).mono ?_
      rintro e w' ⟨rfl, hb'⟩
      exact ⟨⟨_, _, _, _, _, _, _, rfl⟩, hb'⟩
  have SOk : ∀ B g W, SliceR 3 1 B W (.slice (some ⟨g, 0, none⟩) bs.length bs.length) bs.length (intCells bs) → ∀ X, Below W.heap.size W X → Calls Try.prog 35 #[heapV (.slice (some ⟨g, 0, none⟩) bs.length bs.length) h] X fun e w' => e = .returned (.bool (if Ordered h bs.length then implOk bs h else false)) ∧ Below X.heap.size X w' := fun B g W hs X hX => by
    by_cases ho : Ordered h bs.length
    · rw [if_pos ho, ← ok_same ho]
      have h0 : bs.length ≠ 0 := by obtain ⟨o1, o2, o3, _⟩ := ho; omega
      exact specOk_calls g 0 bs.length bs.length bs h X rfl ho (row_at h0 hs hX).1 (row_at h0 hs hX).2
    · rw [if_neg ho]
      exact specOk_bad _ _ _ h X hm ho
  by_cases hx0 : x < 0
  · cases hk : (if Ordered h bs.length then implOk bs h else false) with
    | false =>
      rw [hk] at SOk
      exact ⟨[], _, _, by simp, fun B g W hs => (sScan_notOk g 0 bs.length bs.length h x W (SOk B g W hs)).mono (fun _ _ => told2_none), fun B g W hs => (iScan_below g 0 bs.length bs.length h x W hx0).mono (fun _ _ => told2_none)⟩
    | true =>
      rw [hk] at SOk
      exact ⟨[], _, _, by simp, fun B g W hs => (sScan_below g 0 bs.length bs.length h x W hx0 (SOk B g W hs)).mono (fun _ _ => told2_none), fun B g W hs => (iScan_below g 0 bs.length bs.length h x W hx0).mono (fun _ _ => told2_none)⟩
  have hd : decide (x < 0) = false := decide_eq_false hx0
  by_cases hx4 : 4000 < x
  · cases hk : (if Ordered h bs.length then implOk bs h else false) with
    | false =>
      rw [hk] at SOk
      exact ⟨[], _, _, by simp, fun B g W hs => (sScan_notOk g 0 bs.length bs.length h x W (SOk B g W hs)).mono (fun _ _ => told2_none), fun B g W hs => (iScan_above g 0 bs.length bs.length h x W hx4 hd).mono (fun _ _ => told2_none)⟩
    | true =>
      rw [hk] at SOk
      exact ⟨[], _, _, by simp, fun B g W hs => (sScan_above g 0 bs.length bs.length h x W hx4 hd (SOk B g W hs)).mono (fun _ _ => told2_none), fun B g W hs => (iScan_above g 0 bs.length bs.length h x W hx4 hd).mono (fun _ _ => told2_none)⟩
  have hd2 : decide (4000 < x) = false := decide_eq_false hx4
  cases hk : (if Ordered h bs.length then implOk bs h else false) with
  | false =>
    rw [hk] at SOk IOk
    exact ⟨[], _, _, by simp, fun B g W hs => (sScan_notOk g 0 bs.length bs.length h x W (SOk B g W hs)).mono (fun _ _ => told2_none), fun B g W hs => (iScan_notOk g 0 bs.length bs.length h x W hd hd2 (IOk B g W hs)).mono (fun _ _ => told2_none)⟩
  | true =>
    rw [hk] at SOk IOk
    have ho : Ordered h bs.length := by
      by_cases ho : Ordered h bs.length
      · exact ho
      · rw [if_neg ho] at hk
        cases hk
    rw [if_pos ho] at hk
    obtain ⟨S, ok⟩ := ok_facts ho (by rw [ok_same ho]; exact hk)
    have hstart := scn_start ok
    obtain ⟨o1, o2, o3, o4, o5, o6, o7, o8, o9, o10, o11, o12, o13⟩ := id ho
    have hN0 : bs.length ≠ 0 := by omega
    have hN8 : bs.length ≤ 8000 := by omega
    obtain ⟨n, hn⟩ := Int.eq_ofNat_of_zero_le (show 0 ≤ x by omega)
    have SOp : ∀ B g W, SliceR 3 1 B W (.slice (some ⟨g, 0, none⟩) bs.length bs.length) bs.length (intCells bs) → ∀ X, Below W.heap.size W X → Calls Try.prog 46 #[heapV (.slice (some ⟨g, 0, none⟩) bs.length bs.length) h] X fun e w' => ∃ bm bw cap' : Nat, e = .returned (.pointer (some ⟨bm, 0, none⟩)) ∧ Wk X bm bw bs.length cap' ⟨bs, h, 0, 0⟩ false w' ∧ X.heap.size ≤ bm ∧ X.heap.size ≤ bw := fun B g W hs X hX => open_calls g 0 bs.length bs.length bs h X (by omega) rfl hN8 (row_at hN0 hs hX).1 (row_at hN0 hs hX).2 o6 ht
    have IOp : ∀ B g W, SliceR 3 1 B W (.slice (some ⟨g, 0, none⟩) bs.length bs.length) bs.length (intCells bs) → ∀ X, Below W.heap.size W X → Calls Try.prog 42 #[heapV (.slice (some ⟨g, 0, none⟩) bs.length bs.length) h] X fun e w' => ∃ bc bw cap' : Nat, e = .returned (.pointer (some ⟨bc, 0, none⟩)) ∧ ColAt X bc bw bs.length cap' ⟨bs, h, 0, 0⟩ w' ∧ X.heap.size ≤ bc ∧ X.heap.size ≤ bw := fun B g W hs X hX => collectorOf_calls g 0 bs.length bs.length bs h X (by omega) rfl hN8 (row_at hN0 hs hX).1 (row_at hN0 hs hX).2
    have sS := fun B g W hs => sScan_good g 0 bs.length bs.length h x W n hn (by omega) hd hd2 ⟨bs, h, 0, 0⟩ (SOk B g W hs) (SOp B g W hs) (fun q s' X w0 bm bw cap' hq hX => sscan_calls hX (scanRun_scn hstart q s' hq))
    have sI := fun B g W hs => iScan_good g 0 bs.length bs.length h x W hd hd2 ⟨bs, h, 0, 0⟩ (scanRun n ⟨bs, h, 0, 0⟩) (IOk B g W hs) (IOp B g W hs) (fun X w0 bc bw cap' hX => by rw [hn]; exact look_calls ⟨bs, h, 0, 0⟩ hX hstart n (by omega)) (fun s1 X w0 bc bw cap' _ hX => by
      have e := told_calls hX
      rw [told_same] at e
      exact e)
    cases hr : scanRun n ⟨bs, h, 0, 0⟩ with
    | none =>
      rw [hr] at sS sI
      exact ⟨[], _, _, by simp, fun B g W hs => (sS B g W hs).mono (fun _ _ => told2_none), fun B g W hs => (sI B g W hs).mono (fun _ _ => told2_none)⟩
    | some s1 =>
      rw [hr] at sS sI
      have hl := (scanRun_scn hstart n s1 hr).len
      exact ⟨s1.ws, _, _, by omega, fun B g W hs => (sS B g W hs).mono (fun _ _ h => told2_some hl h), fun B g W hs => (sI B g W hs).mono (fun _ _ h => told2_some hl h)⟩
end Go.Proofs.Ytebpgglegnljgaa

/- HeapScan: what both sides answer, whatever they are given. -/
namespace Go.Proofs.Ytebpgglegnljgaa
open Go.RowKit

/-- The words and the numbers that are answered. -/
def ansW : Option CN → List Int
  | none => []
  | some s => s.ws
def ansH : Option CN → HpN
  | none => ⟨0, 0, 0, 0, 0, 0, 0, 0, 0⟩
  | some s => { s.h with touched := touchZ s }

/-- Looking through, as it is asked for. -/
def scanA (bs : List Int) (h : HpN) (x : Int) : Option CN := if 0 ≤ x ∧ x ≤ 4000 ∧ Ordered h bs.length ∧ specOk bs h = true then scanRun x.toNat ⟨bs, h, 0, 0⟩ else none

/-- Words in a row of their own, with room or without, at a later world. -/
theorem row_atC {B g N cp : Nat} {bs : List Int} {W X : World} (h0 : N ≠ 0) (hs : SliceR 3 1 B W (.slice (some ⟨g, 0, none⟩) N cp) N (intCells bs)) (hX : Below W.heap.size W X) :
    g < X.heap.size ∧ ∀ k, k < N → X.cell? ⟨g, 0 + k, none⟩ = some (.int .i64 (bs.getD k 0)) := by
  obtain ⟨ad, cap, e, hh⟩ := hs
  obtain ⟨g', e2, hB, hr⟩ := hh.resolve_left h0
  cases e
  cases e2
  rw [Nat.mul_one] at hr
  exact ⟨Nat.lt_of_lt_of_le hr.lt hX.size, fun k hk => by rw [Nat.zero_add]; exact (hX.cell (p := ⟨g, k, none⟩) hr.lt).trans (hr.cell hk)⟩

theorem scan_told (bs : List Int) (h : HpN) (ht : h.touched < 9223372036854775808) (hm : bs.length ≤ 1048576) (x : Int) :
    (∀ B g cp W, bs.length ≤ cp → SliceR 3 1 B W (.slice (some ⟨g, 0, none⟩) bs.length cp) bs.length (intCells bs) → Calls Try.prog 25 #[heapV (.slice (some ⟨g, 0, none⟩) bs.length cp) h, .int .i64 x] W (Told2 W (ansW (scanA bs h x)) (ansH (scanA bs h x)) (scanA bs h x).isSome)) ∧
    (∀ B g cp W, bs.length ≤ cp → SliceR 3 1 B W (.slice (some ⟨g, 0, none⟩) bs.length cp) bs.length (intCells bs) → Calls Try.prog 19 #[heapV (.slice (some ⟨g, 0, none⟩) bs.length cp) h, .int .i64 x] W (Told2 W (ansW (scanA bs h x)) (ansH (scanA bs h x)) (scanA bs h x).isSome)) := by
  have IOk : ∀ B g cp W, bs.length ≤ cp → SliceR 3 1 B W (.slice (some ⟨g, 0, none⟩) bs.length cp) bs.length (intCells bs) → ∀ X, Below W.heap.size W X → Calls Try.prog 15 #[heapV (.slice (some ⟨g, 0, none⟩) bs.length cp) h] X fun e w' => e = .returned (.bool (if Ordered h bs.length then implOk bs h else false)) ∧ Below X.heap.size X w' := fun B g cp W hcp hs X hX => by
    refine iOk_calls (fun w hb => ?_)
    have hXw := hX.trans (hb.mono hX.size)
    by_cases ho : Ordered h bs.length
    · rw [if_pos ho]
      have h0 : bs.length ≠ 0 := by obtain ⟨o1, o2, o3, _⟩ := ho; omega
      refine (layOut_calls g 0 cp bs.length bs h w rfl ho hcp (row_atC h0 hs hXw).1 (row_atC h0 hs hXw).2).mono ?_
      rintro e w' ⟨hres, hb'⟩
      refine ⟨?_, hb'⟩
      rcases hres with ⟨e1, rfl⟩ | ⟨S, gb, _, e1, rfl, _⟩
      · rw [e1]
        exact ⟨_, _, _, _, _, _, _, rfl⟩
      · rw [e1]
        exact ⟨_, _, _, _, _, _, _, rfl⟩
    · rw [if_neg ho]
      refine (layOut_bad _ _ _ h w ho).mono ?_
      rintro e w' ⟨rfl, hb'⟩
      exact ⟨⟨_, _, _, _, _, _, _, rfl⟩, hb'⟩
  have SOk : ∀ B g cp W, bs.length ≤ cp → SliceR 3 1 B W (.slice (some ⟨g, 0, none⟩) bs.length cp) bs.length (intCells bs) → ∀ X, Below W.heap.size W X → Calls Try.prog 35 #[heapV (.slice (some ⟨g, 0, none⟩) bs.length cp) h] X fun e w' => e = .returned (.bool (if Ordered h bs.length then implOk bs h else false)) ∧ Below X.heap.size X w' := fun B g cp W hcp hs X hX => by
    by_cases ho : Ordered h bs.length
    · rw [if_pos ho, ← ok_same ho]
      have h0 : bs.length ≠ 0 := by obtain ⟨o1, o2, o3, _⟩ := ho; omega
      exact specOk_calls g 0 cp bs.length bs h X rfl ho (row_atC h0 hs hX).1 (row_atC h0 hs hX).2
    · rw [if_neg ho]
      exact specOk_bad _ _ _ h X hm ho
  by_cases hx0 : x < 0
  · cases hk : (if Ordered h bs.length then implOk bs h else false) with
    | false =>
      rw [hk] at SOk
      have eN : scanA bs h x = none := by
        unfold scanA
        rw [if_neg]
        rintro ⟨a1, a2, a3, a4⟩
        first
        | omega
        | (rw [if_pos a3, ← ok_same a3, a4] at hk; cases hk)
      rw [eN]
      exact ⟨fun B g cp W hcp hs => (sScan_notOk g 0 cp bs.length h x W (SOk B g cp W hcp hs)).mono (fun _ _ => told2_none), fun B g cp W hcp hs => (iScan_below g 0 cp bs.length h x W hx0).mono (fun _ _ => told2_none)⟩
    | true =>
      rw [hk] at SOk
      have eN : scanA bs h x = none := by
        unfold scanA
        rw [if_neg]
        rintro ⟨a1, a2, a3, a4⟩
        first
        | omega
        | (rw [if_pos a3, ← ok_same a3, a4] at hk; cases hk)
      rw [eN]
      exact ⟨fun B g cp W hcp hs => (sScan_below g 0 cp bs.length h x W hx0 (SOk B g cp W hcp hs)).mono (fun _ _ => told2_none), fun B g cp W hcp hs => (iScan_below g 0 cp bs.length h x W hx0).mono (fun _ _ => told2_none)⟩
  have hd : decide (x < 0) = false := decide_eq_false hx0
  by_cases hx4 : 4000 < x
  · cases hk : (if Ordered h bs.length then implOk bs h else false) with
    | false =>
      rw [hk] at SOk
      have eN : scanA bs h x = none := by
        unfold scanA
        rw [if_neg]
        rintro ⟨a1, a2, a3, a4⟩
        first
        | omega
        | (rw [if_pos a3, ← ok_same a3, a4] at hk; cases hk)
      rw [eN]
      exact ⟨fun B g cp W hcp hs => (sScan_notOk g 0 cp bs.length h x W (SOk B g cp W hcp hs)).mono (fun _ _ => told2_none), fun B g cp W hcp hs => (iScan_above g 0 cp bs.length h x W hx4 hd).mono (fun _ _ => told2_none)⟩
    | true =>
      rw [hk] at SOk
      have eN : scanA bs h x = none := by
        unfold scanA
        rw [if_neg]
        rintro ⟨a1, a2, a3, a4⟩
        first
        | omega
        | (rw [if_pos a3, ← ok_same a3, a4] at hk; cases hk)
      rw [eN]
      exact ⟨fun B g cp W hcp hs => (sScan_above g 0 cp bs.length h x W hx4 hd (SOk B g cp W hcp hs)).mono (fun _ _ => told2_none), fun B g cp W hcp hs => (iScan_above g 0 cp bs.length h x W hx4 hd).mono (fun _ _ => told2_none)⟩
  have hd2 : decide (4000 < x) = false := decide_eq_false hx4
  cases hk : (if Ordered h bs.length then implOk bs h else false) with
  | false =>
    rw [hk] at SOk IOk
    have eN : scanA bs h x = none := by
      unfold scanA
      rw [if_neg]
      rintro ⟨a1, a2, a3, a4⟩
      first
      | omega
      | (rw [if_pos a3, ← ok_same a3, a4] at hk; cases hk)
    rw [eN]
    exact ⟨fun B g cp W hcp hs => (sScan_notOk g 0 cp bs.length h x W (SOk B g cp W hcp hs)).mono (fun _ _ => told2_none), fun B g cp W hcp hs => (iScan_notOk g 0 cp bs.length h x W hd hd2 (IOk B g cp W hcp hs)).mono (fun _ _ => told2_none)⟩
  | true =>
    rw [hk] at SOk IOk
    have ho : Ordered h bs.length := by
      by_cases ho : Ordered h bs.length
      · exact ho
      · rw [if_neg ho] at hk
        cases hk
    rw [if_pos ho] at hk
    obtain ⟨S, ok⟩ := ok_facts ho (by rw [ok_same ho]; exact hk)
    have hstart := scn_start ok
    obtain ⟨o1, o2, o3, o4, o5, o6, o7, o8, o9, o10, o11, o12, o13⟩ := id ho
    have hN0 : bs.length ≠ 0 := by omega
    have hN8 : bs.length ≤ 8000 := by omega
    obtain ⟨n, hn⟩ := Int.eq_ofNat_of_zero_le (show 0 ≤ x by omega)
    have SOp : ∀ B g cp W, bs.length ≤ cp → SliceR 3 1 B W (.slice (some ⟨g, 0, none⟩) bs.length cp) bs.length (intCells bs) → ∀ X, Below W.heap.size W X → Calls Try.prog 46 #[heapV (.slice (some ⟨g, 0, none⟩) bs.length cp) h] X fun e w' => ∃ bm bw cap' : Nat, e = .returned (.pointer (some ⟨bm, 0, none⟩)) ∧ Wk X bm bw bs.length cap' ⟨bs, h, 0, 0⟩ false w' ∧ X.heap.size ≤ bm ∧ X.heap.size ≤ bw := fun B g cp W hcp hs X hX => open_calls g 0 cp bs.length bs h X (by omega) rfl hN8 (row_atC hN0 hs hX).1 (row_atC hN0 hs hX).2 o6 ht
    have IOp : ∀ B g cp W, bs.length ≤ cp → SliceR 3 1 B W (.slice (some ⟨g, 0, none⟩) bs.length cp) bs.length (intCells bs) → ∀ X, Below W.heap.size W X → Calls Try.prog 42 #[heapV (.slice (some ⟨g, 0, none⟩) bs.length cp) h] X fun e w' => ∃ bc bw cap' : Nat, e = .returned (.pointer (some ⟨bc, 0, none⟩)) ∧ ColAt X bc bw bs.length cap' ⟨bs, h, 0, 0⟩ w' ∧ X.heap.size ≤ bc ∧ X.heap.size ≤ bw := fun B g cp W hcp hs X hX => collectorOf_calls g 0 cp bs.length bs h X (by omega) rfl hN8 (row_atC hN0 hs hX).1 (row_atC hN0 hs hX).2
    have sS := fun B g cp W hcp hs => sScan_good g 0 cp bs.length h x W n hn (by omega) hd hd2 ⟨bs, h, 0, 0⟩ (SOk B g cp W hcp hs) (SOp B g cp W hcp hs) (fun q s' X w0 bm bw cap' hq hX => sscan_calls hX (scanRun_scn hstart q s' hq))
    have sI := fun B g cp W hcp hs => iScan_good g 0 cp bs.length h x W hd hd2 ⟨bs, h, 0, 0⟩ (scanRun n ⟨bs, h, 0, 0⟩) (IOk B g cp W hcp hs) (IOp B g cp W hcp hs) (fun X w0 bc bw cap' hX => by rw [hn]; exact look_calls ⟨bs, h, 0, 0⟩ hX hstart n (by omega)) (fun s1 X w0 bc bw cap' _ hX => by
      have e := told_calls hX
      rw [told_same] at e
      exact e)
    cases hr : scanRun n ⟨bs, h, 0, 0⟩ with
    | none =>
      rw [hr] at sS sI
      have eN : scanA bs h x = none := by
        unfold scanA
        rw [if_pos ⟨by omega, by omega, ho, by rw [ok_same ho]; exact hk⟩, hn, Int.toNat_natCast]
        exact hr
      rw [eN]
      exact ⟨fun B g cp W hcp hs => (sS B g cp W hcp hs).mono (fun _ _ => told2_none), fun B g cp W hcp hs => (sI B g cp W hcp hs).mono (fun _ _ => told2_none)⟩
    | some s1 =>
      rw [hr] at sS sI
      have hl := (scanRun_scn hstart n s1 hr).len
      have eN : scanA bs h x = some s1 := by
        unfold scanA
        rw [if_pos ⟨by omega, by omega, ho, by rw [ok_same ho]; exact hk⟩, hn, Int.toNat_natCast]
        exact hr
      rw [eN]
      exact ⟨fun B g cp W hcp hs => (sS B g cp W hcp hs).mono (fun _ _ h => told2_some hl h), fun B g cp W hcp hs => (sI B g cp W hcp hs).mono (fun _ _ h => told2_some hl h)⟩
end Go.Proofs.Ytebpgglegnljgaa

/- HeapField: what both sides answer, whatever they are given. -/
namespace Go.Proofs.Ytebpgglegnljgaa
open Go.RowKit

open Classical in
/-- A field is read, as it is asked for. -/
noncomputable def fieldA (bs : List Int) (h : HpN) (x i : Int) : Option (Int × CN) :=
  if ∃ S, OkHeap bs S h ∧ x % 8 = 0 ∧ wordOkZ S h x = true ∧ 0 ≤ i ∧ i < S.getD (x / 8).toNat 0 - 1 then
    match fieldZ ⟨bs, h, 0, 0⟩ ((x / 8).toNat + 1 + i.toNat) with
    | (some u, s) => some (u, s)
    | (none, _) => none
  else none

def fW : Option (Int × CN) → List Int
  | none => []
  | some p => p.2.ws
def fH : Option (Int × CN) → HpN
  | none => ⟨0, 0, 0, 0, 0, 0, 0, 0, 0⟩
  | some p => { p.2.h with touched := touchZ p.2 }
def fU : Option (Int × CN) → Int
  | none => 0
  | some p => p.1

theorem ok_spec {ws S : List Int} {h : HpN} (ok : OkHeap ws S h) : specOk ws h = true := by
  unfold specOk
  rw [ok.spec]
  dsimp only
  rw [ok.objs, Bool.and_true]
  by_cases hb : h.scan < h.bottom
  · have := ok.scan hb
    rw [decide_eq_true hb, Bool.true_and]
    simpa using this
  · rw [decide_eq_false hb]
    rfl

/-- A heap, a number and a bool are told; the heap's words are new, and have room. -/
def Told3C (W : World) (ans : List Int) (H : HpN) (u : Int) (ok : Bool) (e : Ending) (w' : World) : Prop :=
  (∃ ad cp, e = .returned (.tuple #[heapV (.slice ad ans.length cp) H, .int .i64 u, .bool ok]) ∧ SliceR 3 1 W.heap.size w' (.slice ad ans.length cp) ans.length (intCells ans) ∧ ans.length ≤ cp) ∧ Below W.heap.size W w'

theorem told_noneC {W w' : World} {e : Ending} (h : e = .returned (.tuple #[noHeap, .int .i64 0, .bool false]) ∧ Below W.heap.size W w') : Told3C W [] ⟨0, 0, 0, 0, 0, 0, 0, 0, 0⟩ 0 false e w' :=
  ⟨⟨none, 0, h.1, ⟨none, 0, rfl, Or.inl rfl⟩, Nat.le_refl _⟩, h.2⟩

theorem told_someC {N : Nat} {W w' : World} {ws : List Int} {H : HpN} {u : Int} {e : Ending} (hl : ws.length = N) (h : FieldToldC N W ws H u e w') : Told3C W ws H u true e w' := by
  obtain ⟨bw, cap, rfl, hr, hlow, hb, hc⟩ := h
  subst hl
  exact ⟨⟨some ⟨bw, 0, none⟩, cap, rfl, ⟨_, _, rfl, Or.inr ⟨bw, rfl, hlow, by rw [Nat.mul_one]; exact hr⟩⟩, hc⟩, hb⟩

theorem field_told (bs : List Int) (h : HpN) (ht : h.touched < 9223372036854775808) (hm : bs.length ≤ 1048576) (x i : Int) :
    (∀ B g cp W, bs.length ≤ cp → SliceR 3 1 B W (.slice (some ⟨g, 0, none⟩) bs.length cp) bs.length (intCells bs) → Calls Try.prog 22 #[heapV (.slice (some ⟨g, 0, none⟩) bs.length cp) h, .int .i64 x, .int .i64 i] W (Told3 W (fW (fieldA bs h x i)) (fH (fieldA bs h x i)) (fU (fieldA bs h x i)) (fieldA bs h x i).isSome)) ∧
    (∀ B g cp W, bs.length ≤ cp → SliceR 3 1 B W (.slice (some ⟨g, 0, none⟩) bs.length cp) bs.length (intCells bs) → Calls Try.prog 21 #[heapV (.slice (some ⟨g, 0, none⟩) bs.length cp) h, .int .i64 x, .int .i64 i] W (Told3C W (fW (fieldA bs h x i)) (fH (fieldA bs h x i)) (fU (fieldA bs h x i)) (fieldA bs h x i).isSome)) := by
  by_cases ho : Ordered h bs.length
  case neg =>
    have eN : fieldA bs h x i = none := by
      unfold fieldA
      rw [if_neg]
      rintro ⟨S', ok', a1, a2, a3, a4⟩
      first
      | exact ho ok'.ord
      | (rw [ok_spec ok'] at hk; cases hk; done)
      | exact hx a1
      | (obtain rfl : S' = S := Option.some.inj (ok'.spec.symm.trans ok.spec); rw [used_same ok', hl] at a2; cases a2; done)
      | (omega)
      | (obtain rfl : S' = S := Option.some.inj (ok'.spec.symm.trans ok.spec); rw [hkx, Int.toNat_natCast] at a4; omega)
    rw [eN]
    refine ⟨fun B g cp W _ _ => (sField_notOk g 0 cp bs.length h x i W (fun X _ => specOk_bad _ _ _ h X hm ho)).mono (fun _ _ => told_none), fun B g cp W _ _ => (iField_notOk g 0 cp bs.length h x i W (fun X _ => layOut_bad _ _ _ h X ho)).mono (fun _ _ => told_noneC)⟩
  have hN0 : bs.length ≠ 0 := by obtain ⟨o1, o2, o3, _⟩ := ho; omega
  have hN8 : bs.length ≤ 8000 := by obtain ⟨o1, o2, o3, _⟩ := ho; omega
  -- the specification's and the program's own looks
  have SOk : ∀ B g cp W, bs.length ≤ cp → SliceR 3 1 B W (.slice (some ⟨g, 0, none⟩) bs.length cp) bs.length (intCells bs) → ∀ X, Below W.heap.size W X → Calls Try.prog 35 #[heapV (.slice (some ⟨g, 0, none⟩) bs.length cp) h] X fun e w' => e = .returned (.bool (specOk bs h)) ∧ Below X.heap.size X w' := fun B g cp W hcp hs X hX =>
    specOk_calls g 0 cp bs.length bs h X rfl ho (row_atC hN0 hs hX).1 (row_atC hN0 hs hX).2
  have ILy : ∀ B g cp W, bs.length ≤ cp → SliceR 3 1 B W (.slice (some ⟨g, 0, none⟩) bs.length cp) bs.length (intCells bs) → ∀ X, Below W.heap.size W X → Calls Try.prog 30 #[heapV (.slice (some ⟨g, 0, none⟩) bs.length cp) h] X (LayTold g 0 cp bs.length bs h X) := fun B g cp W hcp hs X hX =>
    layOut_calls g 0 cp bs.length bs h X rfl ho hcp (row_atC hN0 hs hX).1 (row_atC hN0 hs hX).2
  cases hk : specOk bs h with
  | false =>
    have hki : implOk bs h = false := by rw [← ok_same ho]; exact hk
    rw [hk] at SOk
    have eN : fieldA bs h x i = none := by
      unfold fieldA
      rw [if_neg]
      rintro ⟨S', ok', a1, a2, a3, a4⟩
      first
      | exact ho ok'.ord
      | (rw [ok_spec ok'] at hk; cases hk; done)
      | exact hx a1
      | (obtain rfl : S' = S := Option.some.inj (ok'.spec.symm.trans ok.spec); rw [used_same ok', hl] at a2; cases a2; done)
      | (omega)
      | (obtain rfl : S' = S := Option.some.inj (ok'.spec.symm.trans ok.spec); rw [hkx, Int.toNat_natCast] at a4; omega)
    rw [eN]
    refine ⟨fun B g cp W hcp hs => (sField_notOk g 0 cp bs.length h x i W (SOk B g cp W hcp hs)).mono (fun _ _ => told_none), fun B g cp W hcp hs => (iField_notOk g 0 cp bs.length h x i W (fun X hX => (ILy B g cp W hcp hs X hX).mono ?_)).mono (fun _ _ => told_noneC)⟩
    rintro e w' ⟨hres, hb'⟩
    rcases hres with ⟨_, e1⟩ | ⟨S, gb, _, e2, _⟩
    · exact ⟨e1, hb'⟩
    · rw [hki] at e2
      cases e2
  | true =>
    have hki : implOk bs h = true := by rw [← ok_same ho]; exact hk
    rw [hk] at SOk
    obtain ⟨S, ok⟩ := ok_facts ho hk
    have ILg : ∀ B g cp W, bs.length ≤ cp → SliceR 3 1 B W (.slice (some ⟨g, 0, none⟩) bs.length cp) bs.length (intCells bs) → ∀ X, Below W.heap.size W X → Calls Try.prog 30 #[heapV (.slice (some ⟨g, 0, none⟩) bs.length cp) h] X fun e w' => ∃ gb, e = .returned (.tuple #[layV (.slice (some ⟨g, 0, none⟩) bs.length cp) h (.slice (some ⟨gb, 0, none⟩) bs.length bs.length), .bool true]) ∧ Hid (ISt g 0 gb bs.length bs S w') ∧ Below X.heap.size X w' := fun B g cp W hcp hs X hX => (ILy B g cp W hcp hs X hX).mono (by
      rintro e w' ⟨hres, hb'⟩
      rcases hres with ⟨e1, _⟩ | ⟨S', gb, e1, _, e2, _, e3⟩
      · rw [hki] at e1
        cases e1
      · rw [ok.impl] at e1
        cases e1
        exact ⟨gb, e2, e3, hb'⟩)
    have ILd : ∀ (g cp : Nat), ∀ (X : World) (gb : Nat), ISt g 0 gb bs.length bs S X → Calls Try.prog 51 #[layV (.slice (some ⟨g, 0, none⟩) bs.length cp) h (.slice (some ⟨gb, 0, none⟩) bs.length bs.length), .int .i64 x, .int .i64 h.to] X fun e w' => e = .returned (.bool (leadsZ S h.size x h.to)) ∧ Below X.heap.size X w' := fun g cp X gb hI => leads_st hI _ h ho x h.to (Or.inl rfl)
    have STg := fun w => specTag_calls x w
    unfold tagZ at STg
    by_cases hx : x % 8 = 0
    case neg =>
      have hl : leadsZ S h.size x h.to = false := by unfold leadsZ; rw [decide_eq_false hx]; rfl
      rw [hl] at ILd
      have eN : fieldA bs h x i = none := by
        unfold fieldA
        rw [if_neg]
        rintro ⟨S', ok', a1, a2, a3, a4⟩
        first
        | exact ho ok'.ord
        | (rw [ok_spec ok'] at hk; cases hk; done)
        | exact hx a1
        | (obtain rfl : S' = S := Option.some.inj (ok'.spec.symm.trans ok.spec); rw [used_same ok', hl] at a2; cases a2; done)
        | (omega)
        | (obtain rfl : S' = S := Option.some.inj (ok'.spec.symm.trans ok.spec); rw [hkx, Int.toNat_natCast] at a4; omega)
      rw [eN]
      exact ⟨fun B g cp W hcp hs => (sField_noPtr g 0 cp bs.length h x i W (x % 8) (by simpa using hx) (SOk B g cp W hcp hs) STg).mono (fun _ _ => told_none), fun B g cp W hcp hs => (iField_noRoot g 0 cp bs.length h x i W bs S (ILg B g cp W hcp hs) (ILd g cp)).mono (fun _ _ => told_noneC)⟩
    rw [hx] at STg
    have SRt : ∀ B g cp W, bs.length ≤ cp → SliceR 3 1 B W (.slice (some ⟨g, 0, none⟩) bs.length cp) bs.length (intCells bs) → ∀ X, Below W.heap.size W X → ∀ g', X.cell? ⟨g', 0, none⟩ = some (.int .i64 x) → Calls Try.prog 36 #[heapV (.slice (some ⟨g, 0, none⟩) bs.length cp) h, .slice (some ⟨g', 0, none⟩) 1 1] X fun e w' => e = .returned (.bool (specLeads bs S h x false)) ∧ Below X.heap.size X w' := fun B g cp W hcp hs X hX g' hg' => by
      have e := specRoots_calls g 0 cp bs.length bs S h (.slice (some ⟨g', 0, none⟩) 1 1) [x] X rfl ho ok.spec (row_atC hN0 hs hX).1 (row_atC hN0 hs hX).2 ⟨_, 1, rfl, Or.inr ⟨g', 0, rfl, block_in hg', fun k hk => by
        obtain rfl : k = 0 := by simpa using hk
        exact hg'⟩⟩ (by simp)
      have e2 : specRoots bs S h [x] = specLeads bs S h x false := by simp [specRoots]
      rw [e2] at e
      exact e
    have hsame : leadsZ S h.size x h.to = specLeads bs S h x false := by
      rw [← used_same ok x]
      unfold wordOkZ
      rw [if_pos hx]
    rw [hsame] at ILd
    cases hl : specLeads bs S h x false with
    | false =>
      rw [hl] at SRt ILd
      have eN : fieldA bs h x i = none := by
        unfold fieldA
        rw [if_neg]
        rintro ⟨S', ok', a1, a2, a3, a4⟩
        first
        | exact ho ok'.ord
        | (rw [ok_spec ok'] at hk; cases hk; done)
        | exact hx a1
        | (obtain rfl : S' = S := Option.some.inj (ok'.spec.symm.trans ok.spec); rw [used_same ok', hl] at a2; cases a2; done)
        | (omega)
        | (obtain rfl : S' = S := Option.some.inj (ok'.spec.symm.trans ok.spec); rw [hkx, Int.toNat_natCast] at a4; omega)
      rw [eN]
      exact ⟨fun B g cp W hcp hs => (sField_noRoot g 0 cp bs.length h x i W (SOk B g cp W hcp hs) STg (SRt B g cp W hcp hs)).mono (fun _ _ => told_none), fun B g cp W hcp hs => (iField_noRoot g 0 cp bs.length h x i W bs S (ILg B g cp W hcp hs) (ILd g cp)).mono (fun _ _ => told_noneC)⟩
    | true =>
      rw [hl] at SRt ILd
      by_cases hi : i < 0
      · have eN : fieldA bs h x i = none := by
          unfold fieldA
          rw [if_neg]
          rintro ⟨S', ok', a1, a2, a3, a4⟩
          first
          | exact ho ok'.ord
          | (rw [ok_spec ok'] at hk; cases hk; done)
          | exact hx a1
          | (obtain rfl : S' = S := Option.some.inj (ok'.spec.symm.trans ok.spec); rw [used_same ok', hl] at a2; cases a2; done)
          | (omega)
          | (obtain rfl : S' = S := Option.some.inj (ok'.spec.symm.trans ok.spec); rw [hkx, Int.toNat_natCast] at a4; omega)
        rw [eN]
        exact ⟨fun B g cp W hcp hs => (sField_below g 0 cp bs.length h x i W hi (SOk B g cp W hcp hs) STg (SRt B g cp W hcp hs)).mono (fun _ _ => told_none), fun B g cp W hcp hs => (iField_below g 0 cp bs.length h x i W bs S hi (ILg B g cp W hcp hs) (ILd g cp)).mono (fun _ _ => told_noneC)⟩
      obtain ⟨l1, l2, l3, l4⟩ := specLeads_at hx hl
      have hin : inZ h (x / 8) = true := by
        rcases l4 with ⟨e, _⟩ | ⟨_, e⟩
        · exact e
        · cases e
      obtain ⟨k, hkx⟩ := Int.eq_ofNat_of_zero_le l1
      rw [hkx, Int.toNat_natCast] at l3
      rw [hkx] at l2 hin
      obtain ⟨hd3, hdl, hdh⟩ := (heads_noted ok.noted).2 k l3
      have hst := used_stays ok l3 hin
      have hd : decide (i < 0) = false := decide_eq_false hi
      have SNum := fun w => specNum_calls x w
      have INum := fun w => implNum_calls x w
      unfold numZ at SNum INum
      rw [hkx] at SNum INum
      have hkN : k < bs.length := by omega
      have HF : ∀ B g cp W, bs.length ≤ cp → SliceR 3 1 B W (.slice (some ⟨g, 0, none⟩) bs.length cp) bs.length (intCells bs) → W.cell? ⟨g, 0 + k, none⟩ = some (.int .i64 (bs.getD k 0)) := fun B g cp W hcp hs => (row_atC hN0 hs (Below.refl _ _)).2 k hkN
      have HG : ∀ B g cp W, bs.length ≤ cp → SliceR 3 1 B W (.slice (some ⟨g, 0, none⟩) bs.length cp) bs.length (intCells bs) → g < W.heap.size := fun B g cp W hcp hs => (row_atC hN0 hs (Below.refl _ _)).1
      by_cases hp : S.getD k 0 - 1 ≤ i
      · have eN : fieldA bs h x i = none := by
          unfold fieldA
          rw [if_neg]
          rintro ⟨S', ok', a1, a2, a3, a4⟩
          first
          | exact ho ok'.ord
          | (rw [ok_spec ok'] at hk; cases hk; done)
          | exact hx a1
          | (obtain rfl : S' = S := Option.some.inj (ok'.spec.symm.trans ok.spec); rw [used_same ok', hl] at a2; cases a2; done)
          | (omega)
          | (obtain rfl : S' = S := Option.some.inj (ok'.spec.symm.trans ok.spec); rw [hkx, Int.toNat_natCast] at a4; omega)
        rw [eN]
        exact ⟨fun B g cp W hcp hs => (sField_past g 0 cp bs.length h x i W k hkN (HG B g cp W hcp hs) (bs.getD k 0) (S.getD k 0) (HF B g cp W hcp hs) hdh (by omega) (by omega) hd hp (SOk B g cp W hcp hs) STg (SRt B g cp W hcp hs) SNum).mono (fun _ _ => told_none), fun B g cp W hcp hs => (iField_past g 0 cp bs.length h x i W bs S k hkN (S.getD k 0) rfl (by omega) (by omega) hd hp (ILg B g cp W hcp hs) (ILd g cp) INum).mono (fun _ _ => told_noneC)⟩
      -- a field that is there
      obtain ⟨j, rfl⟩ := Int.eq_ofNat_of_zero_le (show 0 ≤ i by omega)
      obtain ⟨o1, o2, o3, o4, o5, o6, o7, o8, o9, o10, o11, o12, o13⟩ := id ho
      have hq : k + 1 + j < bs.length := by omega
      have hgood := field_good ok l3 hst (i := j) (by omega)
      have hmv := good_move (h := h) (heads_noted ok.noted) hgood
      have hhe := good_here ho hgood
      have SOp : ∀ B g cp W, bs.length ≤ cp → SliceR 3 1 B W (.slice (some ⟨g, 0, none⟩) bs.length cp) bs.length (intCells bs) → ∀ X, Below W.heap.size W X → Calls Try.prog 46 #[heapV (.slice (some ⟨g, 0, none⟩) bs.length cp) h] X fun e w' => ∃ bm bw cap' : Nat, e = .returned (.pointer (some ⟨bm, 0, none⟩)) ∧ Wk X bm bw bs.length cap' ⟨bs, h, 0, 0⟩ false w' ∧ X.heap.size ≤ bm ∧ X.heap.size ≤ bw := fun B g cp W hcp hs X hX => open_calls g 0 cp bs.length bs h X (by omega) rfl hN8 (row_atC hN0 hs hX).1 (row_atC hN0 hs hX).2 o6 ht
      have IOp : ∀ B g cp W, bs.length ≤ cp → SliceR 3 1 B W (.slice (some ⟨g, 0, none⟩) bs.length cp) bs.length (intCells bs) → ∀ X, Below W.heap.size W X → Calls Try.prog 42 #[heapV (.slice (some ⟨g, 0, none⟩) bs.length cp) h] X fun e w' => ∃ bc bw cap' : Nat, e = .returned (.pointer (some ⟨bc, 0, none⟩)) ∧ (Col X bc bw bs.length cap' bs h 0 0 w' ∧ bs.length ≤ cap') ∧ X.heap.size ≤ bc ∧ X.heap.size ≤ bw := fun B g cp W hcp hs X hX => collectorOf_cap g 0 cp bs.length bs h X (by omega) rfl hN8 (row_atC hN0 hs hX).1 (row_atC hN0 hs hX).2
      have SFd : ∀ (X w0 : World) (bm bw cap' : Nat), Wk w0 bm bw bs.length cap' ⟨bs, h, 0, 0⟩ false X → Calls Try.prog 55 #[.pointer (some ⟨bm, 0, none⟩), .int .i64 x, .int .i64 (j : Int)] X fun e w' => (∃ z : Int, e = .returned (.int .i64 z) ∧ ∀ u, (fieldZ ⟨bs, h, 0, 0⟩ (k + 1 + j)).1 = some u → z = u) ∧ Wk w0 bm bw bs.length cap' (fieldZ ⟨bs, h, 0, 0⟩ (k + 1 + j)).2 (fieldZ ⟨bs, h, 0, 0⟩ (k + 1 + j)).1.isNone w' := fun X w0 bm bw cap' hX => sfield_calls hX x j (k + 1 + j) hq (by omega) (by omega) (by omega) (by omega) (by omega) (show 0 ≤ h.to by omega) (show h.to ≤ h.size by omega) o2 (show 0 ≤ h.bottom by omega) o9 (show h.top ≤ (bs.length : Int) by omega) hN8 hmv hhe
      have IFd : ∀ (X w0 : World) (bc bw cap' : Nat), Col w0 bc bw bs.length cap' bs h 0 0 X → Calls Try.prog 53 #[.pointer (some ⟨bc, 0, none⟩), .int .i64 ((k : Int) + 1 + (j : Int))] X fun e w' => e = .returned (moveV (fieldZ ⟨bs, h, 0, 0⟩ (k + 1 + j)).1) ∧ Col w0 bc bw bs.length cap' (fieldZ ⟨bs, h, 0, 0⟩ (k + 1 + j)).2.ws (fieldZ ⟨bs, h, 0, 0⟩ (k + 1 + j)).2.h (fieldZ ⟨bs, h, 0, 0⟩ (k + 1 + j)).2.r (fieldZ ⟨bs, h, 0, 0⟩ (k + 1 + j)).2.t w' := fun X w0 bc bw cap' hX => by
        have e := field_calls ⟨bs, h, 0, 0⟩ hX (k + 1 + j) hq (show 0 ≤ h.to by omega) (show h.to ≤ h.size by omega) o2 (show 0 ≤ h.bottom by omega) o9 (show h.top ≤ (bs.length : Int) by omega) hN8 (show (0 : Int) ≤ 0 by omega) (show (0 : Int) ≤ 60000 by omega) (show (0 : Int) ≤ 0 by omega) (show (0 : Int) ≤ 60000 by omega) hmv
        rw [show ((k + 1 + j : Nat) : Int) = (k : Int) + 1 + (j : Int) from rfl] at e
        exact e
      have hlen := fieldZ_len ⟨bs, h, 0, 0⟩ (k + 1 + j)
      generalize hR : fieldZ ⟨bs, h, 0, 0⟩ (k + 1 + j) = R at *
      obtain ⟨o, s1⟩ := R
      dsimp only at hlen SFd IFd
      cases o with
      | none =>
        have eN : fieldA bs h x (j : Int) = none := by
          unfold fieldA
          rw [if_pos ⟨S, ok, hx, by rw [used_same ok]; exact hl, by omega, by rw [hkx, Int.toNat_natCast]; omega⟩, hkx, Int.toNat_natCast, Int.toNat_natCast, hR]
        rw [eN]
        exact ⟨fun B g cp W hcp hs => (sField_full g 0 cp bs.length h x j W k hkN (HG B g cp W hcp hs) (bs.getD k 0) (S.getD k 0) (HF B g cp W hcp hs) hdh (by omega) (by omega) hd (by omega) (SOk B g cp W hcp hs) STg (SRt B g cp W hcp hs) SNum ⟨bs, h, 0, 0⟩ s1 (SOp B g cp W hcp hs) (fun X w0 bm bw cap' hX => (SFd X w0 bm bw cap' hX).mono (by rintro e w' ⟨⟨z, hz, -⟩, hW⟩; exact ⟨⟨z, hz⟩, hW⟩))).mono (fun _ _ => told_none), fun B g cp W hcp hs => (iField_full g 0 cp bs.length h x j W bs S k hkN (S.getD k 0) rfl (by omega) (by omega) hd (by omega) hN8 (by omega) ⟨bs, h, 0, 0⟩ s1 (ILg B g cp W hcp hs) (ILd g cp) INum (fun X hX => (IOp B g cp W hcp hs X hX).mono (by rintro e w' ⟨bc, bw, c', e1, e2, e3⟩; exact ⟨bc, bw, c', e1, e2.1, e3⟩)) IFd).mono (fun _ _ => told_noneC)⟩
      | some u =>
        have eN : fieldA bs h x (j : Int) = some (u, s1) := by
          unfold fieldA
          rw [if_pos ⟨S, ok, hx, by rw [used_same ok]; exact hl, by omega, by rw [hkx, Int.toNat_natCast]; omega⟩, hkx, Int.toNat_natCast, Int.toNat_natCast, hR]
        rw [eN]
        refine ⟨fun B g cp W hcp hs => (sField_good g 0 cp bs.length h x j W k hkN (HG B g cp W hcp hs) (bs.getD k 0) (S.getD k 0) (HF B g cp W hcp hs) hdh (by omega) (by omega) hd (by omega) (SOk B g cp W hcp hs) STg (SRt B g cp W hcp hs) SNum ⟨bs, h, 0, 0⟩ s1 (SOp B g cp W hcp hs) u (fun X w0 bm bw cap' hX => (SFd X w0 bm bw cap' hX).mono (by rintro e w' ⟨⟨z, hz, hu⟩, hW⟩; rw [hu u rfl] at hz; exact ⟨hz, hW⟩))).mono (fun _ _ h => told_some hlen h), fun B g cp W hcp hs => (iField_goodC g 0 cp bs.length h x j W bs S k hkN (S.getD k 0) rfl (by omega) (by omega) hd (by omega) hN8 (by omega) u ⟨bs, h, 0, 0⟩ s1 { s1.h with touched := touchZ s1 } (ILg B g cp W hcp hs) (ILd g cp) INum (IOp B g cp W hcp hs) IFd (fun X w0 bc bw cap' hX => ?_)).mono (fun _ _ h => told_someC hlen h)⟩
        have e := told_calls hX
        rw [told_touch] at e
        exact e
end Go.Proofs.Ytebpgglegnljgaa

/- HeapFlip: what both sides answer, whatever they are given. -/
namespace Go.Proofs.Ytebpgglegnljgaa
open Go.RowKit

open Classical in
/-- The spaces change, as it is asked for. -/
noncomputable def flipA (bs xs : List Int) (h : HpN) : Option (List Int × CN) :=
  if ∃ S, OkHeap bs S h ∧ h.scan = h.bottom ∧ xs.length ≤ 20 ∧ ∀ i, i < xs.length → wordOkZ S h (xs.getD i 0) = true then movesRun xs xs.length ⟨bs, flipH h, 0, 0⟩ else none

def mW : Option (List Int × CN) → List Int
  | none => []
  | some p => p.2.ws
def mH : Option (List Int × CN) → HpN
  | none => ⟨0, 0, 0, 0, 0, 0, 0, 0, 0⟩
  | some p => { p.2.h with touched := touchZ p.2 }
def mY : Option (List Int × CN) → List Int
  | none => []
  | some p => p.1

theorem roots_all {S xs : List Int} {h : HpN} (a : ∀ i, i < xs.length → wordOkZ S h (xs.getD i 0) = true) : implRoots S h xs = true := by
  unfold implRoots
  rw [List.all_eq_true]
  exact fun k hk => a k (List.mem_range.1 hk)

theorem roots_each {S xs : List Int} {h : HpN} (a : implRoots S h xs = true) : ∀ i, i < xs.length → wordOkZ S h (xs.getD i 0) = true := fun i hi => by
  unfold implRoots at a
  rw [List.all_eq_true] at a
  exact a i (List.mem_range.2 hi)

/-- A heap, a list and a bool are told; the heap's words are new, and have room. -/
def ToldFC (W : World) (ans : List Int) (H : HpN) (ys : List Int) (ok : Bool) (e : Ending) (w' : World) : Prop :=
  (∃ ad cp u, e = .returned (.tuple #[heapV (.slice ad ans.length cp) H, u, .bool ok]) ∧ SliceR 3 1 W.heap.size w' (.slice ad ans.length cp) ans.length (intCells ans) ∧ SliceR 3 1 W.heap.size w' u ys.length (intCells ys) ∧ ans.length ≤ cp) ∧ Below W.heap.size W w'

theorem toldF_noneC {W w' : World} {e : Ending} (h : e = .returned (.tuple #[noHeap, .slice none 0 0, .bool false]) ∧ Below W.heap.size W w') : ToldFC W [] ⟨0, 0, 0, 0, 0, 0, 0, 0, 0⟩ [] false e w' :=
  ⟨⟨none, 0, _, h.1, ⟨none, 0, rfl, Or.inl rfl⟩, ⟨none, 0, rfl, Or.inl rfl⟩, Nat.le_refl _⟩, h.2⟩

theorem toldF_someC {N n : Nat} {W w' : World} {ys : List Int} {s : CN} {e : Ending} (hl : s.ws.length = N) (hn : ys.length = n) (h : FlipToldC N n W (some (ys, s)) e w') : ToldFC W s.ws { s.h with touched := touchZ s } ys true e w' := by
  obtain ⟨bw, cap, g, c, rfl, hr, hr2, hne, hlow, hlow2, hb, hc⟩ := h
  subst hl
  subst hn
  exact ⟨⟨some ⟨bw, 0, none⟩, cap, _, rfl, ⟨_, _, rfl, Or.inr ⟨bw, rfl, hlow, by rw [Nat.mul_one]; exact hr⟩⟩, ⟨some ⟨g, 0, none⟩, c, rfl, Or.inr ⟨g, rfl, hlow2, by rw [Nat.mul_one]; exact hr2⟩⟩, hc⟩, hb⟩

theorem flip_told (bs xs : List Int) (h : HpN) (ht : h.touched < 9223372036854775808) (hm : bs.length ≤ 1048576) (hx : xs.length ≤ 1048576) :
    (∀ B g cp B2 rg rc W, bs.length ≤ cp → SliceR 3 1 B W (.slice (some ⟨g, 0, none⟩) bs.length cp) bs.length (intCells bs) → SliceR 3 1 B2 W (.slice (some ⟨rg, 0, none⟩) xs.length rc) xs.length (intCells xs) → Calls Try.prog 18 #[heapV (.slice (some ⟨g, 0, none⟩) bs.length cp) h, .slice (some ⟨rg, 0, none⟩) xs.length rc] W (ToldF W (mW (flipA bs xs h)) (mH (flipA bs xs h)) (mY (flipA bs xs h)) (flipA bs xs h).isSome)) ∧
    (∀ B g cp B2 rg rc W, bs.length ≤ cp → SliceR 3 1 B W (.slice (some ⟨g, 0, none⟩) bs.length cp) bs.length (intCells bs) → SliceR 3 1 B2 W (.slice (some ⟨rg, 0, none⟩) xs.length rc) xs.length (intCells xs) → Calls Try.prog 17 #[heapV (.slice (some ⟨g, 0, none⟩) bs.length cp) h, .slice (some ⟨rg, 0, none⟩) xs.length rc] W (ToldFC W (mW (flipA bs xs h)) (mH (flipA bs xs h)) (mY (flipA bs xs h)) (flipA bs xs h).isSome)) := by
  by_cases ho : Ordered h bs.length
  case neg =>
    have eN : flipA bs xs h = none := by
      unfold flipA
      rw [if_neg]
      rintro ⟨S', ok', a1, a2, a3⟩
      first
      | exact ho ok'.ord
      | (rw [ok_spec ok'] at hk; cases hk; done)
      | exact hsc a1
      | exact hn a2
      | (obtain rfl : S' = S := Option.some.inj (ok'.spec.symm.trans ok.spec); rw [roots_all a3] at hro; cases hro; done)
    rw [eN]
    exact ⟨fun B g cp B2 rg rc W _ _ _ => (sFlip_notOk g 0 cp bs.length h rg xs.length rc W (fun X _ => specOk_bad _ _ _ h X hm ho)).mono (fun _ _ => toldF_none), fun B g cp B2 rg rc W _ _ _ => (iFlip_notOk g 0 cp bs.length h rg xs.length rc W (fun X _ => layOut_bad _ _ _ h X ho)).mono (fun _ _ => toldF_noneC)⟩
  obtain ⟨o1, o2, o3, o4, o5, o6, o7, o8, o9, o10, o11, o12, o13⟩ := id ho
  have hN0 : bs.length ≠ 0 := by omega
  have hN8 : bs.length ≤ 8000 := by omega
  have SOk : ∀ B g cp W, bs.length ≤ cp → SliceR 3 1 B W (.slice (some ⟨g, 0, none⟩) bs.length cp) bs.length (intCells bs) → ∀ X, Below W.heap.size W X → Calls Try.prog 35 #[heapV (.slice (some ⟨g, 0, none⟩) bs.length cp) h] X fun e w' => e = .returned (.bool (specOk bs h)) ∧ Below X.heap.size X w' := fun B g cp W hcp hs X hX =>
    specOk_calls g 0 cp bs.length bs h X rfl ho (row_atC hN0 hs hX).1 (row_atC hN0 hs hX).2
  have ILy : ∀ B g cp W, bs.length ≤ cp → SliceR 3 1 B W (.slice (some ⟨g, 0, none⟩) bs.length cp) bs.length (intCells bs) → ∀ X, Below W.heap.size W X → Calls Try.prog 30 #[heapV (.slice (some ⟨g, 0, none⟩) bs.length cp) h] X (LayTold g 0 cp bs.length bs h X) := fun B g cp W hcp hs X hX =>
    layOut_calls g 0 cp bs.length bs h X rfl ho hcp (row_atC hN0 hs hX).1 (row_atC hN0 hs hX).2
  cases hk : specOk bs h with
  | false =>
    have hki : implOk bs h = false := by rw [← ok_same ho]; exact hk
    rw [hk] at SOk
    have eN : flipA bs xs h = none := by
      unfold flipA
      rw [if_neg]
      rintro ⟨S', ok', a1, a2, a3⟩
      first
      | exact ho ok'.ord
      | (rw [ok_spec ok'] at hk; cases hk; done)
      | exact hsc a1
      | exact hn a2
      | (obtain rfl : S' = S := Option.some.inj (ok'.spec.symm.trans ok.spec); rw [roots_all a3] at hro; cases hro; done)
    rw [eN]
    refine ⟨fun B g cp B2 rg rc W hcp hs _ => (sFlip_notOk g 0 cp bs.length h rg xs.length rc W (SOk B g cp W hcp hs)).mono (fun _ _ => toldF_none), fun B g cp B2 rg rc W hcp hs _ => (iFlip_notOk g 0 cp bs.length h rg xs.length rc W (fun X hX => (ILy B g cp W hcp hs X hX).mono ?_)).mono (fun _ _ => toldF_noneC)⟩
    rintro e w' ⟨hres, hb'⟩
    rcases hres with ⟨_, e1⟩ | ⟨S, gb, _, e2, _⟩
    · exact ⟨e1, hb'⟩
    · rw [hki] at e2
      cases e2
  | true =>
    have hki : implOk bs h = true := by rw [← ok_same ho]; exact hk
    rw [hk] at SOk
    obtain ⟨S, ok⟩ := ok_facts ho hk
    have ILg : ∀ B g cp W, bs.length ≤ cp → SliceR 3 1 B W (.slice (some ⟨g, 0, none⟩) bs.length cp) bs.length (intCells bs) → ∀ X, Below W.heap.size W X → Calls Try.prog 30 #[heapV (.slice (some ⟨g, 0, none⟩) bs.length cp) h] X fun e w' => ∃ gb, e = .returned (.tuple #[layV (.slice (some ⟨g, 0, none⟩) bs.length cp) h (.slice (some ⟨gb, 0, none⟩) bs.length bs.length), .bool true]) ∧ Hid (ISt g 0 gb bs.length bs S w') ∧ Below X.heap.size X w' := fun B g cp W hcp hs X hX => (ILy B g cp W hcp hs X hX).mono (by
      rintro e w' ⟨hres, hb'⟩
      rcases hres with ⟨e1, _⟩ | ⟨S', gb, e1, _, e2, _, e3⟩
      · rw [hki] at e1
        cases e1
      · rw [ok.impl] at e1
        cases e1
        exact ⟨gb, e2, e3, hb'⟩)
    by_cases hsc : h.scan = h.bottom
    case neg =>
      have hne : (h.scan != h.bottom) = true := by simpa using hsc
      have eN : flipA bs xs h = none := by
        unfold flipA
        rw [if_neg]
        rintro ⟨S', ok', a1, a2, a3⟩
        first
        | exact ho ok'.ord
        | (rw [ok_spec ok'] at hk; cases hk; done)
        | exact hsc a1
        | exact hn a2
        | (obtain rfl : S' = S := Option.some.inj (ok'.spec.symm.trans ok.spec); rw [roots_all a3] at hro; cases hro; done)
      rw [eN]
      exact ⟨fun B g cp B2 rg rc W hcp hs _ => (sFlip_scan g 0 cp bs.length h rg xs.length rc W hne (SOk B g cp W hcp hs)).mono (fun _ _ => toldF_none), fun B g cp B2 rg rc W hcp hs _ => (iFlip_scan g 0 cp bs.length h rg xs.length rc W bs S hne hsc (ILg B g cp W hcp hs)).mono (fun _ _ => toldF_noneC)⟩
    have heq : (h.scan != h.bottom) = false := by simpa using hsc
    have IRt : ∀ g cp B2 rg rc W, SliceR 3 1 B2 W (.slice (some ⟨rg, 0, none⟩) xs.length rc) xs.length (intCells xs) → ∀ (X : World) (gb : Nat), Below W.heap.size W X → ISt g 0 gb bs.length bs S X → Calls Try.prog 31 #[layV (.slice (some ⟨g, 0, none⟩) bs.length cp) h (.slice (some ⟨gb, 0, none⟩) bs.length bs.length), .slice (some ⟨rg, 0, none⟩) xs.length rc] X fun e w' => e = .returned (.bool (decide (xs.length ≤ 20) && implRoots S h xs)) ∧ Below X.heap.size X w' := fun g cp B2 rg rc W hr X gb hX hI => rootsOk_calls (some ⟨rg, 0, none⟩) rc g 0 cp gb bs.length bs S h xs X ho hI (hr.below hX).intSlice hx
    by_cases hn : xs.length ≤ 20
    case neg =>
      rw [decide_eq_false hn, Bool.false_and] at IRt
      have eN : flipA bs xs h = none := by
        unfold flipA
        rw [if_neg]
        rintro ⟨S', ok', a1, a2, a3⟩
        first
        | exact ho ok'.ord
        | (rw [ok_spec ok'] at hk; cases hk; done)
        | exact hsc a1
        | exact hn a2
        | (obtain rfl : S' = S := Option.some.inj (ok'.spec.symm.trans ok.spec); rw [roots_all a3] at hro; cases hro; done)
      rw [eN]
      exact ⟨fun B g cp B2 rg rc W hcp hs _ => (sFlip_many g 0 cp bs.length h rg xs.length rc W heq (by omega) (SOk B g cp W hcp hs)).mono (fun _ _ => toldF_none), fun B g cp B2 rg rc W hcp hs hr => (iFlip_noRoot g 0 cp bs.length h rg xs.length rc W bs S heq (ILg B g cp W hcp hs) (IRt g cp B2 rg rc W hr)).mono (fun _ _ => toldF_noneC)⟩
    have hn2 : ¬ (20 : Int) < (xs.length : Int) := by omega
    rw [decide_eq_true hn, Bool.true_and] at IRt
    have SRt : ∀ B g cp B2 rg rc W, bs.length ≤ cp → SliceR 3 1 B W (.slice (some ⟨g, 0, none⟩) bs.length cp) bs.length (intCells bs) → SliceR 3 1 B2 W (.slice (some ⟨rg, 0, none⟩) xs.length rc) xs.length (intCells xs) → ∀ X, Below W.heap.size W X → Calls Try.prog 36 #[heapV (.slice (some ⟨g, 0, none⟩) bs.length cp) h, .slice (some ⟨rg, 0, none⟩) xs.length rc] X fun e w' => e = .returned (.bool (specRoots bs S h xs)) ∧ Below X.heap.size X w' := fun B g cp B2 rg rc W hcp hs hr X hX => specRoots_calls g 0 cp bs.length bs S h _ xs X rfl ho ok.spec (row_atC hN0 hs hX).1 (row_atC hN0 hs hX).2 (hr.below hX).intSlice hn
    have hsame : specRoots bs S h xs = implRoots S h xs := (roots_same ok xs).symm
    rw [hsame] at SRt
    cases hro : implRoots S h xs with
    | false =>
      rw [hro] at SRt IRt
      have eN : flipA bs xs h = none := by
        unfold flipA
        rw [if_neg]
        rintro ⟨S', ok', a1, a2, a3⟩
        first
        | exact ho ok'.ord
        | (rw [ok_spec ok'] at hk; cases hk; done)
        | exact hsc a1
        | exact hn a2
        | (obtain rfl : S' = S := Option.some.inj (ok'.spec.symm.trans ok.spec); rw [roots_all a3] at hro; cases hro; done)
      rw [eN]
      exact ⟨fun B g cp B2 rg rc W hcp hs hr => (sFlip_noRoot g 0 cp bs.length h rg xs.length rc W heq hn2 (SOk B g cp W hcp hs) (SRt B g cp B2 rg rc W hcp hs hr)).mono (fun _ _ => toldF_none), fun B g cp B2 rg rc W hcp hs hr => (iFlip_noRoot g 0 cp bs.length h rg xs.length rc W bs S heq (ILg B g cp W hcp hs) (IRt g cp B2 rg rc W hr)).mono (fun _ _ => toldF_noneC)⟩
    | true =>
      rw [hro] at SRt IRt
      have ha : ∀ i, i < xs.length → Aim S (flipH h) bs.length (xs.getD i 0) := fun i hi => by
        unfold implRoots at hro
        rw [List.all_eq_true] at hro
        exact used_aim ok (hro i (List.mem_range.2 hi))
      have hst : Mvs S bs.length 0 ⟨bs, flipH h, 0, 0⟩ := mvs_start ok rfl rfl rfl (fun a _ hS => ((heads_noted ok.noted).2 a hS).2.2) (by omega) (by omega) (by omega) (by omega)
      have hrun := movesRun_mvs hst ha xs.length (Nat.le_refl _)
      have SOp : ∀ B g cp W, bs.length ≤ cp → SliceR 3 1 B W (.slice (some ⟨g, 0, none⟩) bs.length cp) bs.length (intCells bs) → ∀ X, Below W.heap.size W X → Calls Try.prog 46 #[heapV (.slice (some ⟨g, 0, none⟩) bs.length cp) h] X fun e w' => ∃ bm bw cap' : Nat, e = .returned (.pointer (some ⟨bm, 0, none⟩)) ∧ Wk X bm bw bs.length cap' ⟨bs, h, 0, 0⟩ false w' ∧ X.heap.size ≤ bm ∧ X.heap.size ≤ bw := fun B g cp W hcp hs X hX => open_calls g 0 cp bs.length bs h X (by omega) rfl hN8 (row_atC hN0 hs hX).1 (row_atC hN0 hs hX).2 o6 ht
      have IOp : ∀ B g cp W, bs.length ≤ cp → SliceR 3 1 B W (.slice (some ⟨g, 0, none⟩) bs.length cp) bs.length (intCells bs) → ∀ X, Below W.heap.size W X → Calls Try.prog 42 #[heapV (.slice (some ⟨g, 0, none⟩) bs.length cp) h] X fun e w' => ∃ bc bw cap' : Nat, e = .returned (.pointer (some ⟨bc, 0, none⟩)) ∧ (ColAt X bc bw bs.length cap' ⟨bs, h, 0, 0⟩ w' ∧ bs.length ≤ cap') ∧ X.heap.size ≤ bc ∧ X.heap.size ≤ bw := fun B g cp W hcp hs X hX => collectorOf_cap g 0 cp bs.length bs h X (by omega) rfl hN8 (row_atC hN0 hs hX).1 (row_atC hN0 hs hX).2
      have SFl : ∀ (X w0 : World) (bm bw cap' g c : Nat), Wk w0 bm bw bs.length cap' ⟨bs, h, 0, 0⟩ false X → g ≠ bm → g ≠ bw → CellRow 3 X g xs.length (intCells xs) → Calls Try.prog 49 #[.pointer (some ⟨bm, 0, none⟩), .slice (some ⟨g, 0, none⟩) xs.length c] X (SMovesPost X bm bw bs.length cap' g xs.length (movesRun xs xs.length ⟨bs, flipH h, 0, 0⟩)) := fun X w0 bm bw cap' g c hX h1 h2 hr => sflip_calls hX (show 0 ≤ h.to by omega) (show h.to ≤ h.size by omega) o2 hst xs rfl hn h1 h2 hr ha
      have IFl : ∀ (X w0 : World) (bc bw cap' g c : Nat), ColAt w0 bc bw bs.length cap' ⟨bs, h, 0, 0⟩ X → g ≠ bc → g ≠ bw → CellRow 3 X g xs.length (intCells xs) → Calls Try.prog 48 #[.pointer (some ⟨bc, 0, none⟩), .slice (some ⟨g, 0, none⟩) xs.length c] X (MovesPost X bc bw bs.length cap' g xs.length (movesRun xs xs.length ⟨bs, flipH h, 0, 0⟩)) := fun X w0 bc bw cap' g c hX h1 h2 hr => change_calls ⟨bs, h, 0, 0⟩ hX (show 0 ≤ h.to by omega) (show h.to ≤ h.size by omega) o2 hst xs rfl hn h1 h2 hr ha
      have HCs : ∀ B2 rg rc W, SliceR 3 1 B2 W (.slice (some ⟨rg, 0, none⟩) xs.length rc) xs.length (intCells xs) → ∀ X, Below W.heap.size W X → ∀ k, k < xs.length → rg < X.heap.size ∧ X.cell? ⟨rg, 0 + k, none⟩ = some (.int .i64 (xs.getD k 0)) := fun B2 rg rc W hr X hX k hk => ⟨(row_atC (by omega) hr hX).1, (row_atC (by omega) hr hX).2 k hk⟩
      have sS := fun B g cp B2 rg rc W hcp hs hr => sFlip_good g 0 cp bs.length h rg xs.length rc W heq hn2 xs rfl (fun h0 => (HCs B2 rg rc W hr W (Below.refl _ _) 0 h0).1) (fun k hk => by have e := (HCs B2 rg rc W hr W (Below.refl _ _) k hk).2; rw [Nat.zero_add] at e; exact e) ⟨bs, h, 0, 0⟩ _ (SOk B g cp W hcp hs) (SRt B g cp B2 rg rc W hcp hs hr) (SOp B g cp W hcp hs) SFl
      have sI := fun B g cp B2 rg rc W hcp hs hr => iFlip_goodC g 0 cp bs.length h rg xs.length rc W bs S xs heq ⟨bs, h, 0, 0⟩ _ (ILg B g cp W hcp hs) (IRt g cp B2 rg rc W hr) (IOp B g cp W hcp hs) (fun X hX => clone_row rg xs.length rc xs X rfl hn (fun k hk => (HCs B2 rg rc W hr X hX k hk).2)) IFl (fun ys s1 X w0 bc bw cap' _ hX => by
        have e := told_calls hX
        rw [touch_same] at e
        exact e)
      cases hr : movesRun xs xs.length ⟨bs, flipH h, 0, 0⟩ with
      | none =>
        rw [hr] at sS sI
        have eN : flipA bs xs h = none := by
          unfold flipA
          rw [if_pos ⟨S, ok, hsc, hn, roots_each hro⟩]
          exact hr
        rw [eN]
        exact ⟨fun B g cp B2 rg rc W hcp hs hr => (sS B g cp B2 rg rc W hcp hs hr).mono (fun _ _ => toldF_none), fun B g cp B2 rg rc W hcp hs hr => (sI B g cp B2 rg rc W hcp hs hr).mono (fun _ _ => toldF_noneC)⟩
      | some p =>
        obtain ⟨ys, s1⟩ := p
        rw [hr] at sS sI
        obtain ⟨c1, hl, -⟩ := hrun ys s1 hr
        have hl1 := c1.len
        have eN : flipA bs xs h = some (ys, s1) := by
          unfold flipA
          rw [if_pos ⟨S, ok, hsc, hn, roots_each hro⟩]
          exact hr
        rw [eN]
        exact ⟨fun B g cp B2 rg rc W hcp hs hr => (sS B g cp B2 rg rc W hcp hs hr).mono (fun _ _ h => toldF_some hl1 hl h), fun B g cp B2 rg rc W hcp hs hr => (sI B g cp B2 rg rc W hcp hs hr).mono (fun _ _ h => toldF_someC hl1 hl h)⟩
end Go.Proofs.Ytebpgglegnljgaa

/- Looking through a heap, told with the room of the words that are told. -/
namespace Go.Proofs.Ytebpgglegnljgaa
open Go.RowKit

/-- A heap is told, its words with room. -/
def HeapToldC (N : Nat) (w : World) (ws : List Int) (h1 : HpN) (e : Ending) (w' : World) : Prop :=
  ∃ bw cap' : Nat, e = .returned (.tuple #[heapV (.slice (some ⟨bw, 0, none⟩) N cap') h1, .bool true]) ∧ CellRow 3 w' bw N (intCells ws) ∧ w.heap.size ≤ bw ∧ Below w.heap.size w w' ∧ N ≤ cap'

def ScanToldC (N : Nat) (w : World) (o : Option CN) (e : Ending) (w' : World) : Prop :=
  match o with
  | some s => HeapToldC N w s.ws { s.h with touched := touchZ s } e w'
  | none => e = .returned (.tuple #[noHeap, .bool false]) ∧ Below w.heap.size w w'

/-- A heap and a bool are told; the heap's words are new, and have room. -/
def Told2C (W : World) (ans : List Int) (H : HpN) (ok : Bool) (e : Ending) (w' : World) : Prop :=
  (∃ ad cp, e = .returned (.tuple #[heapV (.slice ad ans.length cp) H, .bool ok]) ∧ SliceR 3 1 W.heap.size w' (.slice ad ans.length cp) ans.length (intCells ans) ∧ ans.length ≤ cp) ∧ Below W.heap.size W w'

theorem told2_noneC {W w' : World} {e : Ending} (h : e = .returned (.tuple #[noHeap, .bool false]) ∧ Below W.heap.size W w') : Told2C W [] ⟨0, 0, 0, 0, 0, 0, 0, 0, 0⟩ false e w' :=
  ⟨⟨none, 0, h.1, ⟨none, 0, rfl, Or.inl rfl⟩, Nat.le_refl _⟩, h.2⟩

theorem told2_someC {N : Nat} {W w' : World} {ws : List Int} {H : HpN} {e : Ending} (hl : ws.length = N) (h : HeapToldC N W ws H e w') : Told2C W ws H true e w' := by
  obtain ⟨bw, cap, rfl, hr, hlow, hb, hc⟩ := h
  subst hl
  exact ⟨⟨some ⟨bw, 0, none⟩, cap, rfl, ⟨_, _, rfl, Or.inr ⟨bw, rfl, hlow, by rw [Nat.mul_one]; exact hr⟩⟩, hc⟩, hb⟩

set_option maxHeartbeats 8000000 in
set_option maxRecDepth 100000 in
theorem sScan_goodC (b off cap N : Nat) (h : HpN) (x : Int) (w : World)
    (n : Nat) (hn : x = n) (hn4 : n ≤ 4000) (hd : decide (x < 0) = false) (hd2 : decide (4000 < x) = false) (s0 : CN)
    (HOk : Hid (∀ X, Below w.heap.size w X → Calls Try.prog 35 #[heapV (.slice (some ⟨b, off, none⟩) N cap) h] X fun e w' => e = .returned (.bool true) ∧ Below X.heap.size X w'))
    (HOp : Hid (∀ X, Below w.heap.size w X → Calls Try.prog 46 #[heapV (.slice (some ⟨b, off, none⟩) N cap) h] X fun e w' => ∃ bm bw cap' : Nat, e = .returned (.pointer (some ⟨bm, 0, none⟩)) ∧ (Wk X bm bw N cap' s0 false w' ∧ N ≤ cap') ∧ X.heap.size ≤ bm ∧ X.heap.size ≤ bw))
    (HSn : Hid (∀ (q : Nat) (s' : CN) (X w0 : World) (bm bw cap' : Nat), scanRun q s0 = some s' → Wk w0 bm bw N cap' s' false X → Calls Try.prog 56 #[.pointer (some ⟨bm, 0, none⟩)] X (ScanPost w0 bm bw N cap' (scanOne s')))) :
    Calls Try.prog 25 #[heapV (.slice (some ⟨b, off, none⟩) N cap) h, .int .i64 x] w (ScanToldC N w (scanRun n s0)) := by
  obtain ⟨R, hR⟩ : ∃ R, scanRun n s0 = R := ⟨_, rfl⟩
  rw [hR]
  have HR0 := hid hR
  have HN := hid hn
  have HN4 := hid hn4
  clear hR hn hn4
  obtain ⟨g1, g2, g3, g4, g5, g6, g7, g8, g9⟩ := h
  unfold heapV at *
  dsimp only at *
  obtain ⟨W0, hW0, hA, hR, k2⟩ := both_new w (.slice (some ⟨b, off, none⟩) N cap) ⟨g1, g2, g3, g4, g5, g6, g7, g8, g9⟩
  dsimp only at hW0
  have HW0 := hid hW0
  clear hW0
  go_enter Try.func25, Try.ntmps25
  go_wp2_with fail
  rw [HW0.out]
  have hlt := heap_lt hA
  obtain ⟨v0, v1, v2, v3, v4, v5, v6, v7, v8, v9⟩ := hA.later (B := W0.heap.size) hlt
  dsimp only at v0 v1 v2 v3 v4 v5 v6 v7 v8 v9
  have HA := hid hA
  have HR := hid hR
  have HK2 := hid k2
  clear hA hR k2 HW0
  have KB : Hid (∀ X : Later W0.heap.size W0, Below w.heap.size w X.w ∧ w.heap.size ≤ X.w.heap.size) := fun X => by
    have k := HK2.out.trans (X.h.mono HK2.out.size)
    exact ⟨k, k.size⟩
  clear v0 v1 v2 v3 v4 v5 v6 v7 v8 v9
  refine (HOk.out _ HK2.out).mono ?_
  rintro e W6 ⟨rfl, hb6⟩
  have HB6 := hid (HK2.out.trans (hb6.mono HK2.out.size))
  have HR6 := hid (HR.out.below hb6)
  have HA6 := hid (HA.out.below hb6)
  clear hb6
  obtain ⟨c0, c1, c2, c3, c4, c5, c6, c7, c8, c9⟩ := HA6.out.cells
  dsimp only at c0 c1 c2 c3 c4 c5 c6 c7 c8 c9
  go_wp2_with fail
  refine (HOp.out _ HB6.out).mono ?_
  rintro e W7 ⟨bm, bw, cap', rfl, ⟨hW7, hcpC⟩, hlo, hlo2⟩
  have HCpC := hid hcpC
  clear hcpC
  have HW7 := hid hW7
  have hlt6 := heap_lt HR6.out
  clear hW7 HOp HA6 c0 c1 c2 c3 c4 c5 c6 c7 c8 c9
  go_wp2_with fail
  go_loopw [7] (fun i wr => ∃ (ii : Int) (q : Nat), i = .int .i64 ii ∧ Hid (ii = (q : Int) ∧ q ≤ n) ∧ ((∃ s', Hid (scanRun q s0 = some s') ∧ Hid (Wk W6 bm bw N cap' s' false wr)) ∨ (Hid (scanRun q s0 = none) ∧ ∃ s', Hid (Wk W6 bm bw N cap' s' true wr)))) (fun i _ => n - (intOf i).toNat)
  case atStart => exact ⟨0, 0, rfl, ⟨rfl, by omega⟩, Or.inl ⟨_, rfl, HW7.out⟩⟩
  case round =>
    obtain ⟨ii, q, rfl, HQ, hcase⟩ := hrel
    clear HW7
    by_cases hlt : ii < x
    · have hqn : q < n := by have := HQ.out; have := HN.out; omega
      have hs : n - (intOf (.int .i64 (ii + 1))).toNat < n - (intOf (.int .i64 ii)).toNat := by have := HQ.out; simp only [intOf]; omega
      have hw : Hid (wrap64 (ii + 1) = ii + 1) := by have := HQ.out; have := HN4.out; show _ = _; unfold wrap64; omega
      rcases hcase with ⟨s', HK, HI⟩ | ⟨HK, s', HI⟩
      · have HSc := hid (HSn.out q s' wr W6 bm bw cap' HK.out HI.out)
        obtain ⟨o, ho⟩ : ∃ o, scanOne s' = o := ⟨_, rfl⟩
        rw [ho] at HSc
        have HNx : Hid (scanRun (q + 1) s0 = o) := by show _ = _; unfold scanRun; rw [HK.out]; exact ho
        clear ho HI
        go_wp2_with fail
        refine HSc.out.mono ?_
        rintro e W8 ⟨rfl, hC8⟩
        have HC8 := hid hC8
        clear hC8 HSc
        go_wp2_with fail
        try rw [hw.out]
        cases o with
        | some s2 => exact ⟨⟨ii + 1, q + 1, rfl, ⟨by have := HQ.out; push_cast; omega, by omega⟩, Or.inl ⟨s2, HNx.out, HC8.out⟩⟩, hs⟩
        | none => exact ⟨⟨ii + 1, q + 1, rfl, ⟨by have := HQ.out; push_cast; omega, by omega⟩, Or.inr ⟨HNx.out, HC8.out⟩⟩, hs⟩
      · have HSc := hid (sscan_full HI.out)
        have HNx : Hid (scanRun (q + 1) s0 = none) := scanRun_none HK.out 1
        clear HI
        go_wp2_with fail
        refine HSc.out.mono ?_
        rintro e W8 ⟨rfl, hC8⟩
        have HC8 := hid hC8
        clear hC8 HSc
        go_wp2_with fail
        try rw [hw.out]
        exact ⟨⟨ii + 1, q + 1, rfl, ⟨by have := HQ.out; push_cast; omega, by omega⟩, Or.inr ⟨HNx.out, s', HC8.out⟩⟩, hs⟩
    · have hqn : q = n := by have := HQ.out; have := HN.out; omega
      rcases hcase with ⟨s', HK, HI⟩ | ⟨HK, s', HI⟩
      · have HF : Hid (R = some s') := by have h := HK.out; rw [hqn, HR0.out] at h; exact h
        have HR8 := hid (HR6.out.below (HI.out.frame.below hlo hlo2))
        have HB8 := hid (HB6.out.trans ((HI.out.frame.below hlo hlo2).mono HB6.out.size))
        obtain ⟨d0, d1, d2, d3, d4, d5, d6, d7, d8, d9, d10⟩ := HI.out.blk.cells
        obtain ⟨tau, htau⟩ : ∃ tau, touchZ s' = tau := ⟨_, rfl⟩
        rw [htau] at d9
        have HTau := hid htau
        clear htau
        obtain ⟨c0, c1, c2, c3, c4, c5, c6, c7, c8, c9⟩ := HR8.out.cells
        dsimp only at c0 c1 c2 c3 c4 c5 c6 c7 c8 c9
        have z0 := frozen_of_heap HR8.out 0
        have z1 := frozen_of_heap HR8.out 1
        have z2 := frozen_of_heap HR8.out 2
        have z3 := frozen_of_heap HR8.out 3
        have z4 := frozen_of_heap HR8.out 4
        have z5 := frozen_of_heap HR8.out 5
        have z6 := frozen_of_heap HR8.out 6
        have z7 := frozen_of_heap HR8.out 7
        have z8 := frozen_of_heap HR8.out 8
        have z9 := frozen_of_heap HR8.out 9
        clear HR6 HB6
        go_wp2_with fail
        refine heap_use HR8.out (.slice (some ⟨bw, 0, none⟩) N cap') ⟨s'.h.size, s'.h.to, s'.h.bottom, s'.h.top, s'.h.scan, s'.h.fb, s'.h.ft, s'.h.flips, tau⟩ _ ?_
        intro W9 hL hb9 _ hoth
        obtain ⟨y0, y1, y2, y3, y4, y5, y6, y7, y8, y9⟩ := hL.cells
        dsimp only at y0 y1 y2 y3 y4 y5 y6 y7 y8 y9
        refine bodyPost_ret (v := .tuple #[heapV (.slice (some ⟨bw, 0, none⟩) N cap') ⟨s'.h.size, s'.h.to, s'.h.bottom, s'.h.top, s'.h.scan, s'.h.fb, s'.h.ft, s'.h.flips, tau⟩, .bool true]) (by simp [results, Try.results25, go_sem, y0, y1, y2, y3, y4, y5, y6, y7, y8, y9, heapV]) rfl ?_
        rw [HF.out]
        exact ⟨bw, cap', by rw [HTau.out], HI.out.row.of_block (hoth _ (by omega)), by have := HB8.out.size; omega, HB8.out.trans (hb9 _ (Nat.le_succ _)), HCpC.out⟩
      · have HF : Hid (R = none) := by have h := HK.out; rw [hqn, HR0.out] at h; exact h
        have HR8 := hid (HR6.out.below (HI.out.frame.below hlo hlo2))
        have HB8 := hid (HB6.out.trans ((HI.out.frame.below hlo hlo2).mono HB6.out.size))
        have d10 := HI.out.blk.cells.2.2.2.2.2.2.2.2.2.2
        obtain ⟨c0, c1, c2, c3, c4, c5, c6, c7, c8, c9⟩ := HR8.out.cells
        dsimp only at c0 c1 c2 c3 c4 c5 c6 c7 c8 c9
        have z0 := frozen_of_heap HR8.out 0
        have z1 := frozen_of_heap HR8.out 1
        have z2 := frozen_of_heap HR8.out 2
        have z3 := frozen_of_heap HR8.out 3
        have z4 := frozen_of_heap HR8.out 4
        have z5 := frozen_of_heap HR8.out 5
        have z6 := frozen_of_heap HR8.out 6
        have z7 := frozen_of_heap HR8.out 7
        have z8 := frozen_of_heap HR8.out 8
        have z9 := frozen_of_heap HR8.out 9
        clear HR6 HB6
        go_wp2_with fail
        refine heap_use HR8.out (.slice none 0 0) ⟨0, 0, 0, 0, 0, 0, 0, 0, 0⟩ _ ?_
        intro W9 hL hb9 _ _
        obtain ⟨y0, y1, y2, y3, y4, y5, y6, y7, y8, y9⟩ := hL.cells
        dsimp only at y0 y1 y2 y3 y4 y5 y6 y7 y8 y9
        refine bodyPost_ret (v := .tuple #[noHeap, .bool false]) (by simp [results, Try.results25, go_sem, y0, y1, y2, y3, y4, y5, y6, y7, y8, y9, noHeap, heapV]) rfl ?_
        rw [HF.out]
        exact ⟨rfl, HB8.out.trans (hb9 _ (Nat.le_succ _))⟩

set_option maxHeartbeats 8000000 in
set_option maxRecDepth 100000 in
theorem iScan_goodC (b off cap N : Nat) (h : HpN) (x : Int) (w : World)
    (hd : decide (x < 0) = false) (hd2 : decide (4000 < x) = false) (s0 : CN) (o : Option CN)
    (HOk : Hid (∀ X, Below w.heap.size w X → Calls Try.prog 15 #[heapV (.slice (some ⟨b, off, none⟩) N cap) h] X fun e w' => e = .returned (.bool true) ∧ Below X.heap.size X w'))
    (HOp : Hid (∀ X, Below w.heap.size w X → Calls Try.prog 42 #[heapV (.slice (some ⟨b, off, none⟩) N cap) h] X fun e w' => ∃ bc bw cap' : Nat, e = .returned (.pointer (some ⟨bc, 0, none⟩)) ∧ (ColAt X bc bw N cap' s0 w' ∧ N ≤ cap') ∧ X.heap.size ≤ bc ∧ X.heap.size ≤ bw))
    (HLk : Hid (∀ (X w0 : World) (bc bw cap' : Nat), ColAt w0 bc bw N cap' s0 X → Calls Try.prog 50 #[.pointer (some ⟨bc, 0, none⟩), .int .i64 x] X (LookPost w0 bc bw N cap' o)))
    (HTd : Hid (∀ (s1 : CN) (X w0 : World) (bc bw cap' : Nat), o = some s1 → ColAt w0 bc bw N cap' s1 X → Calls Try.prog 45 #[.pointer (some ⟨bc, 0, none⟩)] X fun e w' => e = .returned (heapV (.slice (some ⟨bw, 0, none⟩) N cap') { s1.h with touched := touchZ s1 }) ∧ Below X.heap.size X w')) :
    Calls Try.prog 19 #[heapV (.slice (some ⟨b, off, none⟩) N cap) h, .int .i64 x] w (ScanToldC N w o) := by
  obtain ⟨g1, g2, g3, g4, g5, g6, g7, g8, g9⟩ := h
  unfold heapV at *
  dsimp only at *
  obtain ⟨W0, hW0, hA, hR, k2⟩ := both_new w (.slice (some ⟨b, off, none⟩) N cap) ⟨g1, g2, g3, g4, g5, g6, g7, g8, g9⟩
  dsimp only at hW0
  have HW0 := hid hW0
  clear hW0
  go_enter Try.func19, Try.ntmps19
  go_wp2_with fail
  rw [HW0.out]
  have hlt := heap_lt hA
  obtain ⟨v0, v1, v2, v3, v4, v5, v6, v7, v8, v9⟩ := hA.later (B := W0.heap.size) hlt
  dsimp only at v0 v1 v2 v3 v4 v5 v6 v7 v8 v9
  have HA := hid hA
  have HR := hid hR
  have HK2 := hid k2
  clear hA hR k2 HW0
  have KB : Hid (∀ X : Later W0.heap.size W0, Below w.heap.size w X.w ∧ w.heap.size ≤ X.w.heap.size) := fun X => by
    have k := HK2.out.trans (X.h.mono HK2.out.size)
    exact ⟨k, k.size⟩
  clear v0 v1 v2 v3 v4 v5 v6 v7 v8 v9
  refine (HOk.out _ HK2.out).mono ?_
  rintro e W6 ⟨rfl, hb6⟩
  have HB6 := hid (HK2.out.trans (hb6.mono HK2.out.size))
  have HR6 := hid (HR.out.below hb6)
  have HA6 := hid (HA.out.below hb6)
  clear hb6
  obtain ⟨c0, c1, c2, c3, c4, c5, c6, c7, c8, c9⟩ := HA6.out.cells
  dsimp only at c0 c1 c2 c3 c4 c5 c6 c7 c8 c9
  go_wp2_with fail
  refine (HOp.out _ HB6.out).mono ?_
  rintro e W7 ⟨bc, bw, cap', rfl, ⟨hW7, hcpC⟩, hlo, hlo2⟩
  have HCpC := hid hcpC
  clear hcpC
  have HW7 := hid hW7
  have hlt6 := heap_lt HR6.out
  clear hW7 HOp HA6 c0 c1 c2 c3 c4 c5 c6 c7 c8 c9
  have HLk' := hid (HLk.out _ _ _ _ _ HW7.out)
  clear HLk HW7
  go_wp2_with fail
  cases o with
  | none =>
    refine HLk'.out.mono ?_
    rintro e W8 ⟨rfl, s1, hC8⟩
    have HB8 := hid (HB6.out.trans ((Col.frame hC8).below hlo hlo2 |>.mono HB6.out.size))
    have HR8 := hid (HR6.out.below ((Col.frame hC8).below hlo hlo2))
    clear hC8 HR6 HB6 HTd HLk'
    obtain ⟨c0, c1, c2, c3, c4, c5, c6, c7, c8, c9⟩ := HR8.out.cells
    dsimp only at c0 c1 c2 c3 c4 c5 c6 c7 c8 c9
    have z0 := frozen_of_heap HR8.out 0
    have z1 := frozen_of_heap HR8.out 1
    have z2 := frozen_of_heap HR8.out 2
    have z3 := frozen_of_heap HR8.out 3
    have z4 := frozen_of_heap HR8.out 4
    have z5 := frozen_of_heap HR8.out 5
    have z6 := frozen_of_heap HR8.out 6
    have z7 := frozen_of_heap HR8.out 7
    have z8 := frozen_of_heap HR8.out 8
    have z9 := frozen_of_heap HR8.out 9
    go_wp2_with fail
    refine heap_use HR8.out (.slice none 0 0) ⟨0, 0, 0, 0, 0, 0, 0, 0, 0⟩ _ ?_
    intro W7 hL hb7 _ _
    obtain ⟨y0, y1, y2, y3, y4, y5, y6, y7, y8, y9⟩ := hL.cells
    dsimp only at y0 y1 y2 y3 y4 y5 y6 y7 y8 y9
    exact bodyPost_ret (v := .tuple #[noHeap, .bool false]) (by simp [results, Try.results19, go_sem, y0, y1, y2, y3, y4, y5, y6, y7, y8, y9, noHeap, heapV]) rfl ⟨rfl, HB8.out.trans (hb7 _ (Nat.le_succ _))⟩
  | some s1 =>
    refine HLk'.out.mono ?_
    rintro e W8 ⟨rfl, hC8⟩
    have HW8 := hid hC8
    have HTd' := hid (HTd.out s1 W8 W6 bc bw cap' rfl HW8.out)
    clear hC8 HLk' HTd
    obtain ⟨i9, hi9⟩ : ∃ i9, touchZ s1 = i9 := ⟨_, rfl⟩
    have HI9 := hid hi9
    rw [hi9] at HTd'
    clear hi9
    go_wp2_with fail
    refine HTd'.out.mono ?_
    rintro e W9 ⟨rfl, hb9⟩
    have HW9 := hid (Col.keep HW8.out hb9)
    have HR9 := hid (HR6.out.below (HW9.out.frame.below hlo hlo2))
    have HB9 := hid (HB6.out.trans ((HW9.out.frame.below hlo hlo2).mono HB6.out.size))
    obtain ⟨c0, c1, c2, c3, c4, c5, c6, c7, c8, c9⟩ := HR9.out.cells
    dsimp only at c0 c1 c2 c3 c4 c5 c6 c7 c8 c9
    have z0 := frozen_of_heap HR9.out 0
    have z1 := frozen_of_heap HR9.out 1
    have z2 := frozen_of_heap HR9.out 2
    have z3 := frozen_of_heap HR9.out 3
    have z4 := frozen_of_heap HR9.out 4
    have z5 := frozen_of_heap HR9.out 5
    have z6 := frozen_of_heap HR9.out 6
    have z7 := frozen_of_heap HR9.out 7
    have z8 := frozen_of_heap HR9.out 8
    have z9 := frozen_of_heap HR9.out 9
    clear hb9 HTd' HW8 HR6 HB6
    go_wp2_with fail
    refine heap_use HR9.out (.slice (some ⟨bw, 0, none⟩) N cap') ⟨s1.h.size, s1.h.to, s1.h.bottom, s1.h.top, s1.h.scan, s1.h.fb, s1.h.ft, s1.h.flips, i9⟩ _ ?_
    intro W10 hL hb10 _ hoth
    obtain ⟨y0, y1, y2, y3, y4, y5, y6, y7, y8, y9⟩ := hL.cells
    dsimp only at y0 y1 y2 y3 y4 y5 y6 y7 y8 y9
    refine bodyPost_ret (v := .tuple #[heapV (.slice (some ⟨bw, 0, none⟩) N cap') ⟨s1.h.size, s1.h.to, s1.h.bottom, s1.h.top, s1.h.scan, s1.h.fb, s1.h.ft, s1.h.flips, i9⟩, .bool true]) (by simp [results, Try.results19, go_sem, y0, y1, y2, y3, y4, y5, y6, y7, y8, y9, heapV]) rfl ?_
    exact ⟨bw, cap', by rw [HI9.out], HW9.out.row.of_block (hoth _ (by omega)), by have := HB9.out.size; omega, HB9.out.trans (hb10 _ (Nat.le_succ _)), HCpC.out⟩

theorem scan_toldC (bs : List Int) (h : HpN) (ht : h.touched < 9223372036854775808) (hm : bs.length ≤ 1048576) (x : Int) :
    (∀ B g cp W, bs.length ≤ cp → SliceR 3 1 B W (.slice (some ⟨g, 0, none⟩) bs.length cp) bs.length (intCells bs) → Calls Try.prog 25 #[heapV (.slice (some ⟨g, 0, none⟩) bs.length cp) h, .int .i64 x] W (Told2C W (ansW (scanA bs h x)) (ansH (scanA bs h x)) (scanA bs h x).isSome)) ∧
    (∀ B g cp W, bs.length ≤ cp → SliceR 3 1 B W (.slice (some ⟨g, 0, none⟩) bs.length cp) bs.length (intCells bs) → Calls Try.prog 19 #[heapV (.slice (some ⟨g, 0, none⟩) bs.length cp) h, .int .i64 x] W (Told2C W (ansW (scanA bs h x)) (ansH (scanA bs h x)) (scanA bs h x).isSome)) := by
  have IOk : ∀ B g cp W, bs.length ≤ cp → SliceR 3 1 B W (.slice (some ⟨g, 0, none⟩) bs.length cp) bs.length (intCells bs) → ∀ X, Below W.heap.size W X → Calls Try.prog 15 #[heapV (.slice (some ⟨g, 0, none⟩) bs.length cp) h] X fun e w' => e = .returned (.bool (if Ordered h bs.length then implOk bs h else false)) ∧ Below X.heap.size X w' := fun B g cp W hcp hs X hX => by
    refine iOk_calls (fun w hb => ?_)
    have hXw := hX.trans (hb.mono hX.size)
    by_cases ho : Ordered h bs.length
    · rw [if_pos ho]
      have h0 : bs.length ≠ 0 := by obtain ⟨o1, o2, o3, _⟩ := ho; omega
      refine (layOut_calls g 0 cp bs.length bs h w rfl ho hcp (row_atC h0 hs hXw).1 (row_atC h0 hs hXw).2).mono ?_
      rintro e w' ⟨hres, hb'⟩
      refine ⟨?_, hb'⟩
      rcases hres with ⟨e1, rfl⟩ | ⟨S, gb, _, e1, rfl, _⟩
      · rw [e1]
        exact ⟨_, _, _, _, _, _, _, rfl⟩
      · rw [e1]
        exact ⟨_, _, _, _, _, _, _, rfl⟩
    · rw [if_neg ho]
      refine (layOut_bad _ _ _ h w ho).mono ?_
      rintro e w' ⟨rfl, hb'⟩
      exact ⟨⟨_, _, _, _, _, _, _, rfl⟩, hb'⟩
  have SOk : ∀ B g cp W, bs.length ≤ cp → SliceR 3 1 B W (.slice (some ⟨g, 0, none⟩) bs.length cp) bs.length (intCells bs) → ∀ X, Below W.heap.size W X → Calls Try.prog 35 #[heapV (.slice (some ⟨g, 0, none⟩) bs.length cp) h] X fun e w' => e = .returned (.bool (if Ordered h bs.length then implOk bs h else false)) ∧ Below X.heap.size X w' := fun B g cp W hcp hs X hX => by
    by_cases ho : Ordered h bs.length
    · rw [if_pos ho, ← ok_same ho]
      have h0 : bs.length ≠ 0 := by obtain ⟨o1, o2, o3, _⟩ := ho; omega
      exact specOk_calls g 0 cp bs.length bs h X rfl ho (row_atC h0 hs hX).1 (row_atC h0 hs hX).2
    · rw [if_neg ho]
      exact specOk_bad _ _ _ h X hm ho
  by_cases hx0 : x < 0
  · cases hk : (if Ordered h bs.length then implOk bs h else false) with
    | false =>
      rw [hk] at SOk
      have eN : scanA bs h x = none := by
        unfold scanA
        rw [if_neg]
        rintro ⟨a1, a2, a3, a4⟩
        first
        | omega
        | (rw [if_pos a3, ← ok_same a3, a4] at hk; cases hk)
      rw [eN]
      exact ⟨fun B g cp W hcp hs => (sScan_notOk g 0 cp bs.length h x W (SOk B g cp W hcp hs)).mono (fun _ _ => told2_noneC), fun B g cp W hcp hs => (iScan_below g 0 cp bs.length h x W hx0).mono (fun _ _ => told2_noneC)⟩
    | true =>
      rw [hk] at SOk
      have eN : scanA bs h x = none := by
        unfold scanA
        rw [if_neg]
        rintro ⟨a1, a2, a3, a4⟩
        first
        | omega
        | (rw [if_pos a3, ← ok_same a3, a4] at hk; cases hk)
      rw [eN]
      exact ⟨fun B g cp W hcp hs => (sScan_below g 0 cp bs.length h x W hx0 (SOk B g cp W hcp hs)).mono (fun _ _ => told2_noneC), fun B g cp W hcp hs => (iScan_below g 0 cp bs.length h x W hx0).mono (fun _ _ => told2_noneC)⟩
  have hd : decide (x < 0) = false := decide_eq_false hx0
  by_cases hx4 : 4000 < x
  · cases hk : (if Ordered h bs.length then implOk bs h else false) with
    | false =>
      rw [hk] at SOk
      have eN : scanA bs h x = none := by
        unfold scanA
        rw [if_neg]
        rintro ⟨a1, a2, a3, a4⟩
        first
        | omega
        | (rw [if_pos a3, ← ok_same a3, a4] at hk; cases hk)
      rw [eN]
      exact ⟨fun B g cp W hcp hs => (sScan_notOk g 0 cp bs.length h x W (SOk B g cp W hcp hs)).mono (fun _ _ => told2_noneC), fun B g cp W hcp hs => (iScan_above g 0 cp bs.length h x W hx4 hd).mono (fun _ _ => told2_noneC)⟩
    | true =>
      rw [hk] at SOk
      have eN : scanA bs h x = none := by
        unfold scanA
        rw [if_neg]
        rintro ⟨a1, a2, a3, a4⟩
        first
        | omega
        | (rw [if_pos a3, ← ok_same a3, a4] at hk; cases hk)
      rw [eN]
      exact ⟨fun B g cp W hcp hs => (sScan_above g 0 cp bs.length h x W hx4 hd (SOk B g cp W hcp hs)).mono (fun _ _ => told2_noneC), fun B g cp W hcp hs => (iScan_above g 0 cp bs.length h x W hx4 hd).mono (fun _ _ => told2_noneC)⟩
  have hd2 : decide (4000 < x) = false := decide_eq_false hx4
  cases hk : (if Ordered h bs.length then implOk bs h else false) with
  | false =>
    rw [hk] at SOk IOk
    have eN : scanA bs h x = none := by
      unfold scanA
      rw [if_neg]
      rintro ⟨a1, a2, a3, a4⟩
      first
      | omega
      | (rw [if_pos a3, ← ok_same a3, a4] at hk; cases hk)
    rw [eN]
    exact ⟨fun B g cp W hcp hs => (sScan_notOk g 0 cp bs.length h x W (SOk B g cp W hcp hs)).mono (fun _ _ => told2_noneC), fun B g cp W hcp hs => (iScan_notOk g 0 cp bs.length h x W hd hd2 (IOk B g cp W hcp hs)).mono (fun _ _ => told2_noneC)⟩
  | true =>
    rw [hk] at SOk IOk
    have ho : Ordered h bs.length := by
      by_cases ho : Ordered h bs.length
      · exact ho
      · rw [if_neg ho] at hk
        cases hk
    rw [if_pos ho] at hk
    obtain ⟨S, ok⟩ := ok_facts ho (by rw [ok_same ho]; exact hk)
    have hstart := scn_start ok
    obtain ⟨o1, o2, o3, o4, o5, o6, o7, o8, o9, o10, o11, o12, o13⟩ := id ho
    have hN0 : bs.length ≠ 0 := by omega
    have hN8 : bs.length ≤ 8000 := by omega
    obtain ⟨n, hn⟩ := Int.eq_ofNat_of_zero_le (show 0 ≤ x by omega)
    have SOp : ∀ B g cp W, bs.length ≤ cp → SliceR 3 1 B W (.slice (some ⟨g, 0, none⟩) bs.length cp) bs.length (intCells bs) → ∀ X, Below W.heap.size W X → Calls Try.prog 46 #[heapV (.slice (some ⟨g, 0, none⟩) bs.length cp) h] X fun e w' => ∃ bm bw cap' : Nat, e = .returned (.pointer (some ⟨bm, 0, none⟩)) ∧ (Wk X bm bw bs.length cap' ⟨bs, h, 0, 0⟩ false w' ∧ bs.length ≤ cap') ∧ X.heap.size ≤ bm ∧ X.heap.size ≤ bw := fun B g cp W hcp hs X hX => open_cap g 0 cp bs.length bs h X (by omega) rfl hN8 (row_atC hN0 hs hX).1 (row_atC hN0 hs hX).2 o6 ht
    have IOp : ∀ B g cp W, bs.length ≤ cp → SliceR 3 1 B W (.slice (some ⟨g, 0, none⟩) bs.length cp) bs.length (intCells bs) → ∀ X, Below W.heap.size W X → Calls Try.prog 42 #[heapV (.slice (some ⟨g, 0, none⟩) bs.length cp) h] X fun e w' => ∃ bc bw cap' : Nat, e = .returned (.pointer (some ⟨bc, 0, none⟩)) ∧ (ColAt X bc bw bs.length cap' ⟨bs, h, 0, 0⟩ w' ∧ bs.length ≤ cap') ∧ X.heap.size ≤ bc ∧ X.heap.size ≤ bw := fun B g cp W hcp hs X hX => collectorOf_cap g 0 cp bs.length bs h X (by omega) rfl hN8 (row_atC hN0 hs hX).1 (row_atC hN0 hs hX).2
    have sS := fun B g cp W hcp hs => sScan_goodC g 0 cp bs.length h x W n hn (by omega) hd hd2 ⟨bs, h, 0, 0⟩ (SOk B g cp W hcp hs) (SOp B g cp W hcp hs) (fun q s' X w0 bm bw cap' hq hX => sscan_calls hX (scanRun_scn hstart q s' hq))
    have sI := fun B g cp W hcp hs => iScan_goodC g 0 cp bs.length h x W hd hd2 ⟨bs, h, 0, 0⟩ (scanRun n ⟨bs, h, 0, 0⟩) (IOk B g cp W hcp hs) (IOp B g cp W hcp hs) (fun X w0 bc bw cap' hX => by rw [hn]; exact look_calls ⟨bs, h, 0, 0⟩ hX hstart n (by omega)) (fun s1 X w0 bc bw cap' _ hX => by
      have e := told_calls hX
      rw [told_same] at e
      exact e)
    cases hr : scanRun n ⟨bs, h, 0, 0⟩ with
    | none =>
      rw [hr] at sS sI
      have eN : scanA bs h x = none := by
        unfold scanA
        rw [if_pos ⟨by omega, by omega, ho, by rw [ok_same ho]; exact hk⟩, hn, Int.toNat_natCast]
        exact hr
      rw [eN]
      exact ⟨fun B g cp W hcp hs => (sS B g cp W hcp hs).mono (fun _ _ => told2_noneC), fun B g cp W hcp hs => (sI B g cp W hcp hs).mono (fun _ _ => told2_noneC)⟩
    | some s1 =>
      rw [hr] at sS sI
      have hl := (scanRun_scn hstart n s1 hr).len
      have eN : scanA bs h x = some s1 := by
        unfold scanA
        rw [if_pos ⟨by omega, by omega, ho, by rw [ok_same ho]; exact hk⟩, hn, Int.toNat_natCast]
        exact hr
      rw [eN]
      exact ⟨fun B g cp W hcp hs => (sS B g cp W hcp hs).mono (fun _ _ h => told2_someC hl h), fun B g cp W hcp hs => (sI B g cp W hcp hs).mono (fun _ _ h => told2_someC hl h)⟩
end Go.Proofs.Ytebpgglegnljgaa

/- A change of spaces that was looked through: just what is reached lies there. -/
namespace Go.Proofs.Ytebpgglegnljgaa
open Go.RowKit

theorem count_all {T S0 ws xs : List Int} {h : HpN} {s : CN} (c : Fr T S0 s) (ews : s.ws = ws) (eh : h = { s.h with touched := h.touched }) (ht : 0 ≤ h.touched) (hb : h.scan = h.bottom) (w : Why (fun b => ∃ j, j < xs.length ∧ xs.getD j 0 = 8 * (b : Int)) S0 ws h)
    (hx : ∀ i, i < xs.length → Led S0 h ws.length False (xs.getD i 0)) {K : Nat} (hK : Ends ws xs K) :
    sumS (fun i => 1 + ((fieldsOf (graphRun ws K (tellsRun ws xs xs.length []).1).2 i).length : Int)) K = h.bottom - h.to := by
  have d0 : Dyn True S0 ws h := by
    rw [eh, ← ews]
    exact c.d.touch ht
  have htop : h.top = h.to + h.size := by
    rw [eh]
    exact c.top
  obtain ⟨S, d, hl, hin⟩ := dyn_norm d0
  have ok := ok_of_dyn d
  obtain ⟨o1, o2, o3, o4, o5, o6, o7, o8, o9, o10, o11, o12, o13⟩ := id d.ord
  have hno : ¬ h.scan < h.bottom := by omega
  have inn : ∀ a : Nat, S.getD a 0 ≠ 0 → h.to ≤ (a : Int) ∧ (a : Int) + S.getD a 0 ≤ h.bottom ∧ InS h a := fun a ha => by
    have k := d.ends a ha
    have k3 := d.three ha
    unfold Within at k
    have : h.to ≤ (a : Int) ∧ (a : Int) + S.getD a 0 ≤ h.bottom := by
      rcases k with k | k | k
      · exact k
      · omega
      · exact absurd k.1 hno
    exact ⟨this.1, this.2, by unfold InS; omega⟩
  have hle : ∀ i, i < xs.length → Leads ws S (xs.getD i 0) := fun i hi hm => by
    have := (hl _ _ (hx i hi)).2 hm
    exact ⟨this.1, this.2.1, this.2.2.1⟩
  have mt := (Met.tells ok (met := []) ⟨List.nodup_nil, fun a ha => by cases ha⟩ hle xs.length (Nat.le_refl _)).1
  have mg := (mt.graph ok K hK.1).1
  have lenK : (graphRun ws K (tellsRun ws xs xs.length []).1).1.length = K := by
    have h1 := hK.2
    by_cases e : K = 0
    · omega
    · have h2 := hK.1 (K - 1) (by omega)
      obtain ⟨r, h3⟩ := graph_pre ws (tellsRun ws xs xs.length []).1 (K - 1) 1
      rw [show K - 1 + 1 = K by omega] at h3
      rw [h3, List.length_append] at h1 ⊢
      omega
  have get : ∀ j, j < K → (graphRun ws K (tellsRun ws xs xs.length []).1).1.getD j 0 = (graphRun ws j (tellsRun ws xs xs.length []).1).1.getD j 0 := fun j hj => graph_get hj (hK.1 j hj)
  rw [(graph_words K).2]
  -- every object is met
  have met : ∀ n : Nat, ∀ b : Nat, b < n → S.getD b 0 ≠ 0 → b ∈ (graphRun ws K (tellsRun ws xs xs.length []).1).1 := by
    intro n
    induction n with
    | zero => intro b hb; omega
    | succ n ih =>
      intro b hbn hS
      obtain ⟨i1, i2, i3⟩ := inn b hS
      have hu := d.unm b hS i3
      have now : nowZ ws b = b := by unfold nowZ; rw [if_neg hu]
      have hw := w b (by rw [← hin b i3]; exact hS) i3
      rcases hw with ⟨j, j1, j2⟩ | ⟨p, i, p1, p2, p3, p4, p5, p6⟩
      · obtain ⟨r, e⟩ := graph_pre ws (tellsRun ws xs xs.length []).1 0 K
        rw [Nat.zero_add] at e
        rw [e]
        refine List.mem_append.2 (Or.inl ?_)
        have := tells_mem (ws := ws) (xs := xs) (met := []) (j := j) (by omega) xs.length j1
        rw [j2, show (8 * (b : Int) / 8).toNat = b by omega, now] at this
        exact this
      · have hp := hin p p3
        have hm := ih p (by omega) (by rw [hp]; exact p2)
        obtain ⟨j, hj, ej⟩ := List.getElem_of_mem hm
        have hjK : j < K := by omega
        have eg : (graphRun ws j (tellsRun ws xs xs.length []).1).1.getD j 0 = p := by
          rw [← get j hjK]
          simp [List.getD, hj, ej]
        have hh := d.head (a := p) (by rw [hp]; exact p2)
        have h3 := d.three (a := p) (by rw [hp]; exact p2)
        have fld := graph_field (ws := ws) (met := (tellsRun ws xs xs.length []).1) (j := j) (K := K) (i := i - 1) hjK (by rw [eg, hh, hp]; omega) (by rw [eg, show p + 1 + (i - 1) = p + i by omega, p6]; omega)
        rw [eg, show p + 1 + (i - 1) = p + i by omega, p6, show (8 * (b : Int) / 8).toNat = b by omega, now] at fld
        exact fld
  have e1 : sumS (fun i => 1 + (((ws.getD ((graphRun ws i (tellsRun ws xs xs.length []).1).1.getD i 0) 0 / 16).toNat - 1 : Nat) : Int)) K = sumS (fun i => S.getD ((graphRun ws K (tellsRun ws xs xs.length []).1).1.getD i 0) 0) K := by
    refine sum_congr K (fun i hi => ?_)
    rw [← get i hi]
    have hm := getD_mem (l := (graphRun ws K (tellsRun ws xs xs.length []).1).1) (k := i) (by omega)
    have nd := mg.nodes _ hm
    have hh := d.head nd.here
    have h3 := d.three nd.here
    rw [hh]
    omega
  have e2 := sum_list (f := fun a => S.getD a 0) (N := ws.length) (graphRun ws K (tellsRun ws xs xs.length []).1).1 mg.once (fun a ha => (ok.noted.2 a (mg.nodes a ha).here).1)
  rw [lenK] at e2
  rw [e1, e2]
  have e3 : sumS (fun a => if a ∈ (graphRun ws K (tellsRun ws xs xs.length []).1).1 then S.getD a 0 else 0) ws.length = sumS (fun a => S.getD a 0) ws.length := by
    refine sum_congr _ (fun a _ => ?_)
    by_cases hm : a ∈ (graphRun ws K (tellsRun ws xs xs.length []).1).1
    · rw [if_pos hm]
    · rw [if_neg hm]
      by_cases e : S.getD a 0 = 0
      · exact e.symm
      · exact absurd (met (a + 1) a (by omega) e) hm
  rw [e3]
  have r1 := sum_row d.apart d.rowA
  have z : sumS (fun a => S.getD a 0) h.to.toNat = 0 := sum_zero _ (fun i hi => by
    by_cases e : S.getD i 0 = 0
    · exact e
    · have := inn i e
      omega)
  have tail : ∀ m : Nat, sumS (fun a => S.getD a 0) (h.bottom.toNat + m) = sumS (fun a => S.getD a 0) h.bottom.toNat := by
    intro m
    induction m with
    | zero => rfl
    | succ m ih =>
      rw [show sumS (fun a => S.getD a 0) (h.bottom.toNat + (m + 1)) = sumS (fun a => S.getD a 0) (h.bottom.toNat + m) + S.getD (h.bottom.toNat + m) 0 from rfl, ih]
      by_cases e : S.getD (h.bottom.toNat + m) 0 = 0
      · omega
      · have := inn _ e
        have := d.three e
        omega
  have t := tail (ws.length - h.bottom.toNat)
  rw [show h.bottom.toNat + (ws.length - h.bottom.toNat) = ws.length by omega] at t
  rw [t, r1, z]
  omega

/-- What comes of a change of spaces that is looked through. -/
structure Freed (bs xs : List Int) (h : HpN) (ys : List Int) (s1 s2 : CN) (S1 S2 : List Int) : Prop where
  flip : flipA bs xs h = some (ys, s1)
  ylen : ys.length = xs.length
  len1 : s1.ws.length = bs.length
  ok1 : OkHeap s1.ws S1 { s1.h with touched := touchZ s1 }
  scan : scanA s1.ws { s1.h with touched := touchZ s1 } 4000 = some s2
  len2 : s2.ws.length = bs.length
  ok2 : OkHeap s2.ws S2 { s2.h with touched := touchZ s2 }
  roots : ∀ i, i < ys.length → wordOkZ S2 { s2.h with touched := touchZ s2 } (ys.getD i 0) = true
  done : s2.h.scan = s2.h.bottom
  flips : s2.h.flips = h.flips + 1
  words : ∀ K, Ends s2.ws ys K → sumS (fun i => 1 + ((fieldsOf (graphRun s2.ws K (tellsRun s2.ws ys ys.length []).1).2 i).length : Int)) K = s2.h.bottom - s2.h.to

theorem freed_of {bs xs S : List Int} {h : HpN} (ok : OkHeap bs S h) (hx : ∀ i, i < xs.length → wordOkZ S h (xs.getD i 0) = true) (hn : xs.length ≤ 20) (hb : h.scan = h.bottom) (hf : h.flips < 4000000000) (ht : ∀ ys s, movesRun xs xs.length ⟨bs, flipH h, 0, 0⟩ = some (ys, s) → 0 ≤ touchZ s)
    (ht2 : ∀ s s' : CN, scanRun 4000 ⟨s.ws, { s.h with touched := touchZ s }, 0, 0⟩ = some s' → (∃ ys, movesRun xs xs.length ⟨bs, flipH h, 0, 0⟩ = some (ys, s)) → 0 ≤ touchZ s') : ∃ ys s1 s2 S1 S2, Freed bs xs h ys s1 s2 S1 S2 := by
  have d := dyn_of_ok ok
  obtain ⟨c0, w0⟩ := fr_start d (by omega) hf 0 0
  obtain ⟨ys, s1, S1', f1, hm, m⟩ := fr_moves (xs := xs) c0 w0 (fun i hi => ((used_iff ok _).1 (hx i hi)).drop.pts) xs.length (Nat.le_refl _)
  have t1 := ht ys s1 hm
  obtain ⟨S1, st1, fl1⟩ := keep_flip ok hx hb hf hm t1
  have hl1 := m.told.step.len
  dsimp only at hl1
  have c1 : Fr (dropS S h) S1' ⟨s1.ws, { s1.h with touched := touchZ s1 }, 0, 0⟩ := ⟨m.fr.d.touch t1, m.fr.top, m.fr.old, m.fr.all, m.fr.room⟩
  obtain ⟨s2, S2', f2, hs, t2, c2, w2, hd⟩ := fr_all c1 (R := fun b => ∃ j, j < xs.length ∧ ys.getD j 0 = 8 * (b : Int)) m.why
  have tz2 := ht2 s1 s2 hs ⟨ys, hm⟩
  obtain ⟨S2, st2⟩ := keep_scan st1.ok st1.roots hs tz2
  have hl2 := t2.len
  dsimp only at hl2
  refine ⟨ys, s1, s2, S1, S2, ⟨?_, m.told.len, hl1, st1.ok, ?_, hl2.trans hl1, st2.ok, st2.roots, hd, ?_, fun K hK => ?_⟩⟩
  · unfold flipA
    rw [if_pos ⟨S, ok, hb, hn, hx⟩]
    exact hm
  · unfold scanA
    rw [if_pos ⟨by omega, by omega, st1.ok.ord, ok_spec st1.ok⟩]
    exact hs
  · rw [t2.num]
    exact fl1
  · refine count_all (h := { s2.h with touched := touchZ s2 }) c2 rfl rfl tz2 hd (by rw [m.told.len]; exact w2) (fun i hi => ?_) hK
    have hle := m.told.done i (by rw [← m.told.len]; exact hi)
    have h1 := hle.1
    dsimp only at h1
    rw [hl2, hl1]
    have h2 := t2.led (N := bs.length) (x := ys.getD i 0) (o := False) h1
    exact h2

end Go.Proofs.Ytebpgglegnljgaa

/- Looking through goes on, and touches few words. -/
namespace Go.Proofs.Ytebpgglegnljgaa
open Go.RowKit

theorem field_cnt {S : List Int} {s s' : CN} {p i : Nat} {y : Int} (d : Dyn True S s.ws s.h) (hp : S.getD p 0 ≠ 0) (hi : InS s.h p) (h1 : 1 ≤ i) (h2 : (i : Int) < S.getD p 0) (he : fieldZ s (p + i) = (some y, s')) : s'.r + s'.t ≤ s.r + s.t + 16 ∧ s.r + s.t ≤ s'.r + s'.t := by
  have pq := (d.flds p hp (d.unm p hp hi) i h1 h2).pts
  obtain ⟨o1, o2, o3, o4, -⟩ := id d.ord
  unfold fieldZ at he
  cases hl : lateZ s.h (s.ws.getD (p + i) 0) with
  | false =>
    rw [if_pos hl] at he
    cases he
    dsimp only
    omega
  | true =>
    rw [if_neg (by rw [hl]; decide)] at he
    obtain ⟨hx, hx0, hold⟩ := late_old hl (by omega)
    have hS := (pq.2 hx).2.2
    have e3 := d.head hS
    have h3 := d.three hS
    unfold moveZ at he
    dsimp only at he
    rw [hl, if_neg (by decide)] at he
    split at he
    · rename_i hm
      split at hm
      · cases hm
        cases he
        dsimp only
        omega
      · split at hm
        · cases hm
          cases he
          dsimp only
          omega
        · cases hm
    · cases he

theorem fields_cnt {S : List Int} {s : CN} {p : Nat} (d : Dyn True S s.ws s.h) (hp : S.getD p 0 ≠ 0) (hi : InS s.h p) : ∀ k : Nat, (k : Int) < S.getD p 0 → ∀ s', fieldsRun p k s = some s' → s'.r + s'.t ≤ s.r + s.t + 16 * k ∧ s.r + s.t ≤ s'.r + s'.t
  | 0, _, s', he => by
    cases he
    omega
  | k + 1, hk, s', he => by
    unfold fieldsRun at he
    cases h1 : fieldsRun p k s with
    | none => rw [h1] at he; cases he
    | some s1 =>
      rw [h1] at he
      dsimp only at he
      obtain ⟨S1, f1, t1⟩ := dyn_fields d hp hi k (by push_cast at hk; omega) s1 h1
      have c1 := fields_cnt d hp hi k (by push_cast at hk; omega) s1 h1
      cases h2 : fieldZ s1 (p + (k + 1)) with
      | mk o s2 =>
        rw [h2] at he
        cases o with
        | none => cases he
        | some y =>
          cases he
          have e1 := t1.step.ext p hp
          have c2 := field_cnt t1.step.dyn (by rw [e1]; exact hp) ((t1.step.ins p).2 hi) (by omega) (by rw [e1]; exact hk) h2
          push_cast
          omega

theorem scan_grow {S : List Int} {s s' : CN} (d : Dyn True S s.ws s.h) (he : scanOne s = some s') : s.h.scan ≤ s'.h.scan ∧ s.h.bottom ≤ s'.h.bottom ∧ s'.r + s'.t ≤ s.r + s.t + 90 ∧ s.r + s.t ≤ s'.r + s'.t := by
  unfold scanOne at he
  by_cases hb : s.h.scan = s.h.bottom
  · rw [if_pos hb] at he
    cases he
    omega
  · rw [if_neg hb] at he
    obtain ⟨o1, o2, o3, o4, o5, o6, o7, o8, o9, o10, o11, o12, o13⟩ := id d.ord
    obtain ⟨p, hp, hS, hi, hd⟩ := d.begin (by omega)
    have h3 := d.three hS
    rw [hp, Int.toNat_natCast, hd] at he
    obtain ⟨n, hn⟩ := Int.eq_ofNat_of_zero_le (show 0 ≤ S.getD p 0 by omega)
    rw [hn, Int.toNat_natCast] at he
    cases h1 : fieldsRun p (n - 1) { s with r := s.r + 1 } with
    | none => rw [h1] at he; cases he
    | some s1 =>
      rw [h1] at he
      cases he
      obtain ⟨S1, f, t⟩ := dyn_fields (s := { s with r := s.r + 1 }) d hS hi (n - 1) (by omega) s1 h1
      have c := fields_cnt (s := { s with r := s.r + 1 }) d hS hi (n - 1) (by omega) s1 h1
      have hg := t.step.grow
      dsimp only at c hg ⊢
      omega

theorem scans_grow {S : List Int} {s : CN} (d : Dyn True S s.ws s.h) : ∀ k s', scanRun k s = some s' → s.h.scan ≤ s'.h.scan ∧ s.h.bottom ≤ s'.h.bottom
  | 0, s', he => by
    cases he
    omega
  | k + 1, s', he => by
    unfold scanRun at he
    cases h1 : scanRun k s with
    | none => rw [h1] at he; cases he
    | some s1 =>
      rw [h1] at he
      obtain ⟨S1, f1, t1⟩ := dyn_scans d k s1 h1
      have g1 := scans_grow d k s1 h1
      have g2 := scan_grow t1.dyn he
      omega

theorem scanA_some {bs : List Int} {h : HpN} {x : Int} {s1 : CN} (he : scanA bs h x = some s1) : ∃ S, OkHeap bs S h ∧ scanRun x.toNat ⟨bs, h, 0, 0⟩ = some s1 := by
  unfold scanA at he
  split at he
  · rename_i hc
    obtain ⟨S, ok⟩ := ok_facts hc.2.2.1 hc.2.2.2
    exact ⟨S, ok, he⟩
  · cases he

/-- Looking through goes on. -/
theorem scan_facts {bs : List Int} {h : HpN} {x : Int} {s1 : CN} (he : scanA bs h x = some s1) : h.scan ≤ s1.h.scan ∧ h.bottom ≤ s1.h.bottom ∧ s1.h.top = h.top := by
  obtain ⟨S, ok, hr⟩ := scanA_some he
  obtain ⟨c, S1, f, p⟩ := phase_scans ok hr
  have ht : s1.h.top = h.top := by rw [p.num]
  by_cases hb : h.scan < h.bottom
  · have g := scans_grow (s := ⟨bs, h, 0, 0⟩) ((dyn_of_ok ok).of_iff ⟨fun _ => trivial, fun _ => hb⟩) _ s1 hr
    exact ⟨g.1, g.2, ht⟩
  · obtain ⟨o1, o2, o3, o4, o5, o6, o7, o8, -⟩ := id ok.ord
    have e := scanRun_end (s := ⟨bs, h, 0, 0⟩) (k := 0) rfl (by dsimp only; omega) x.toNat
    rw [Nat.zero_add, hr] at e
    cases e
    exact ⟨Int.le_refl _, Int.le_refl _, rfl⟩

/-- To look through one object touches few words. -/
theorem scan_one {bs : List Int} {h : HpN} {s1 : CN} (he : scanA bs h 1 = some s1) : wrap64 (touchZ s1 - h.touched) ≤ 100 := by
  obtain ⟨S, ok, hr⟩ := scanA_some he
  obtain ⟨c, S1, f, p⟩ := phase_scans ok hr
  have ht : s1.h.touched = h.touched := by rw [p.num]
  have hc : 0 ≤ s1.r + s1.t ∧ s1.r + s1.t ≤ 90 := by
    by_cases hb : h.scan < h.bottom
    · have hr1 : scanOne ⟨bs, h, 0, 0⟩ = some s1 := hr
      have g := scan_grow (s := ⟨bs, h, 0, 0⟩) ((dyn_of_ok ok).of_iff ⟨fun _ => trivial, fun _ => hb⟩) hr1
      dsimp only at g
      omega
    · obtain ⟨o1, o2, o3, o4, o5, o6, o7, o8, -⟩ := id ok.ord
      have e := scanRun_end (s := ⟨bs, h, 0, 0⟩) (k := 0) rfl (by dsimp only; omega) (1 : Int).toNat
      rw [Nat.zero_add, hr] at e
      cases e
      dsimp only
      omega
  unfold touchZ wrap64
  rw [ht]
  omega
end Go.Proofs.Ytebpgglegnljgaa

/- What looking through and moving count. -/
namespace Go.Proofs.Ytebpgglegnljgaa
open Go.RowKit

theorem scans_cnt {S : List Int} {s : CN} (d : Dyn True S s.ws s.h) : ∀ k s', scanRun k s = some s' → s'.r + s'.t ≤ s.r + s.t + 90 * k ∧ s.r + s.t ≤ s'.r + s'.t
  | 0, s', he => by
    cases he
    omega
  | k + 1, s', he => by
    unfold scanRun at he
    cases h1 : scanRun k s with
    | none => rw [h1] at he; cases he
    | some s1 =>
      rw [h1] at he
      obtain ⟨S1, f1, t1⟩ := dyn_scans d k s1 h1
      have g1 := scans_cnt d k s1 h1
      have g2 := scan_grow t1.dyn he
      push_cast
      omega

theorem move_cnt {S : List Int} {s s' : CN} {x y : Int} (d : Dyn True S s.ws s.h) (l : Pts S s.ws.length x) (hm : moveZ s x = (some y, s')) : s'.r + s'.t ≤ s.r + s.t + 16 ∧ s.r + s.t ≤ s'.r + s'.t := by
  obtain ⟨o1, o2, o3, o4, -⟩ := id d.ord
  unfold moveZ at hm
  cases hl : lateZ s.h x with
  | false =>
    rw [if_pos hl] at hm
    cases hm
    omega
  | true =>
    rw [if_neg (by rw [hl]; decide)] at hm
    obtain ⟨hx, hx0, hold⟩ := late_old hl (by omega)
    have hS := (l.2 hx).2.2
    have e3 := d.head hS
    have h3 := d.three hS
    split at hm
    · cases hm
      dsimp only
      omega
    · split at hm
      · cases hm
        dsimp only
        omega
      · cases hm

theorem moves_cnt {S : List Int} {s : CN} {xs : List Int} (d : Dyn True S s.ws s.h) (hx : ∀ i, i < xs.length → Pts S s.ws.length (xs.getD i 0)) : ∀ k, k ≤ xs.length → ∀ ys s', movesRun xs k s = some (ys, s') → s'.r + s'.t ≤ s.r + s.t + 16 * k ∧ s.r + s.t ≤ s'.r + s'.t
  | 0, _, ys, s', he => by
    cases he
    omega
  | k + 1, hk, ys, s', he => by
    unfold movesRun at he
    cases h1 : movesRun xs k s with
    | none => rw [h1] at he; cases he
    | some r =>
      obtain ⟨zs, s1⟩ := r
      rw [h1] at he
      dsimp only at he
      obtain ⟨S1, f1, t1⟩ := dyn_moves d hx k (by omega) zs s1 h1
      have c1 := moves_cnt d hx k (by omega) zs s1 h1
      have px1 : Pts S1 s1.ws.length (zs.getD k 0) := by rw [t1.rest k (Nat.le_refl _), t1.step.len]; exact t1.step.pts (hx k (by omega))
      cases h2 : moveZ s1 (zs.getD k 0) with
      | mk o s2 =>
        rw [h2] at he
        cases o with
        | none => cases he
        | some y =>
          cases he
          have c2 := move_cnt t1.step.dyn px1 h2
          push_cast
          omega

/-- What looking through counts. -/
theorem scan_touch {ws S : List Int} {h : HpN} (ok : OkHeap ws S h) (ht : h.touched ≤ 1000000000) {m : Nat} (hm : m ≤ 4000) {s1 : CN} (he : scanRun m ⟨ws, h, 0, 0⟩ = some s1) : s1.ws.length = ws.length ∧ s1.h.flips = h.flips ∧ 0 ≤ touchZ s1 ∧ touchZ s1 ≤ h.touched + 360000 := by
  obtain ⟨c, S1, f, p⟩ := phase_scans ok he
  have hfl : s1.h.flips = h.flips := by rw [p.num]
  have htc : s1.h.touched = h.touched := by rw [p.num]
  have o := ok.ord
  obtain ⟨o1, o2, o3, o4, o5, o6, o7, o8, -⟩ := o
  have cnt : s1.r + s1.t ≤ 90 * (m : Int) ∧ 0 ≤ s1.r + s1.t := by
    by_cases hb : h.scan < h.bottom
    · have := scans_cnt (s := ⟨ws, h, 0, 0⟩) ((dyn_of_ok ok).of_iff ⟨fun _ => trivial, fun _ => hb⟩) m s1 he
      dsimp only at this
      omega
    · have e := scanRun_end (s := ⟨ws, h, 0, 0⟩) (k := 0) rfl (by dsimp only; omega) m
      rw [Nat.zero_add, he] at e
      cases e
      dsimp only
      omega
  refine ⟨p.len, hfl, ?_⟩
  unfold touchZ wrap64
  rw [htc]
  omega

theorem scanA_nums {bs : List Int} {h : HpN} {x : Int} {s1 : CN} (he : scanA bs h x = some s1) (ht : h.touched ≤ 1000000000) : s1.ws.length = bs.length ∧ s1.h.flips = h.flips ∧ 0 ≤ touchZ s1 ∧ touchZ s1 ≤ h.touched + 360000 := by
  obtain ⟨S, ok, hs⟩ := scanA_some he
  refine scan_touch ok ht (m := x.toNat) ?_ hs
  unfold scanA at he
  split at he
  · rename_i k
    omega
  · cases he

theorem flip_touch {bs S xs : List Int} {h : HpN} (ok : OkHeap bs S h) (hx : ∀ i, i < xs.length → wordOkZ S h (xs.getD i 0) = true) (hn : xs.length ≤ 20) (hb : h.scan = h.bottom) (hf : h.flips < 4000000000) (ht : h.touched ≤ 1000000000) {ys : List Int} {s : CN} (he : movesRun xs xs.length ⟨bs, flipH h, 0, 0⟩ = some (ys, s)) : 0 ≤ touchZ s ∧ touchZ s ≤ h.touched + 320 := by
  have d := dyn_of_ok ok
  obtain ⟨S1, f, m⟩ := flip_moves d (by omega) hf (fun i hi => (used_iff ok _).1 (hx i hi)) he
  have c := moves_cnt (s := ⟨bs, flipH h, 0, 0⟩) (dyn_flip d (by omega) hf) (fun i hi => ((used_iff ok _).1 (hx i hi)).drop.pts) xs.length (Nat.le_refl _) ys s he
  have e : s.h.touched = h.touched := by rw [m.step.num]; rfl
  have o := ok.ord
  obtain ⟨o1, o2, o3, o4, o5, o6, -⟩ := o
  dsimp only at c
  unfold touchZ wrap64
  rw [e]
  omega

theorem freed {bs xs S : List Int} {h : HpN} (ok : OkHeap bs S h) (hx : ∀ i, i < xs.length → wordOkZ S h (xs.getD i 0) = true) (hn : xs.length ≤ 20) (hb : h.scan = h.bottom) (hf : h.flips < 4000000000) (ht : h.touched ≤ 900000000) : ∃ ys s1 s2 S1 S2, Freed bs xs h ys s1 s2 S1 S2 ∧ touchZ s1 ≤ h.touched + 320 := by
  obtain ⟨ys, s1, s2, S1, S2, fr⟩ := freed_of ok hx hn hb hf (fun ys s he => (flip_touch ok hx hn hb hf (by omega) he).1) (fun s s' he ⟨ys, hm⟩ => by
    have t := flip_touch ok hx hn hb hf (by omega) hm
    obtain ⟨S1, st1, -⟩ := keep_flip ok hx hb hf hm t.1
    exact (scan_touch st1.ok (by dsimp only; omega) (by omega) he).2.2.1)
  refine ⟨ys, s1, s2, S1, S2, fr, ?_⟩
  have hf' := fr.flip
  unfold flipA at hf'
  rw [if_pos ⟨S, ok, hb, hn, hx⟩] at hf'
  exact (flip_touch ok hx hn hb hf (by omega) hf').2

/-- Where the spaces change, the heap was one that may be. -/
theorem flipA_ok {bs xs : List Int} {h : HpN} {r : List Int × CN} (he : flipA bs xs h = some r) : ∃ S, OkHeap bs S h ∧ h.scan = h.bottom ∧ xs.length ≤ 20 ∧ ∀ i, i < xs.length → wordOkZ S h (xs.getD i 0) = true := by
  unfold flipA at he
  split at he
  · assumption
  · cases he

end Go.Proofs.Ytebpgglegnljgaa

/- The draw of a heap whose spaces are to be changed. -/
namespace Go.Proofs.Ytebpgglegnljgaa
open Go.RowKit Go.Deep

/-- A drawn heap and four roots, each in a row of its own. -/
structure HpF (W0 : World) (bw cp g gc : Nat) (ws : List Int) (h : HpN) (rs : List Int) (W : World) : Prop where
  row : SliceR 3 1 W0.heap.size W (.slice (some ⟨bw, 0, none⟩) ws.length cp) ws.length (intCells ws)
  rt : SliceR 3 1 W0.heap.size W (.slice (some ⟨g, 0, none⟩) 4 gc) 4 (intCells rs)
  rl : rs.length = 4
  cw : ws.length ≤ cp
  l8 : ws.length ≤ 8000
  l0 : 0 < ws.length
  fl : h.flips ≤ 100
  tc : h.touched ≤ 200000000
  below : Below W0.heap.size W0 W

theorem slice_turned {t : TypeId} {sz B : Nat} {b : Nat} {W W' : World} {g N cp : Nat} {F : Nat → Value} (s : SliceR t sz B W (.slice (some ⟨g, 0, none⟩) N cp) N F) (h1 : b ≠ g) (e : ∀ j, j ≠ b → W'.heap[j]? = W.heap[j]?) : SliceR t sz B W' (.slice (some ⟨g, 0, none⟩) N cp) N F := by
  obtain ⟨ad, c, e1, h0 | ⟨g, e2, hg, hr⟩⟩ := s
  · exact ⟨ad, c, e1, Or.inl h0⟩
  · cases e1
    cases e2
    exact ⟨_, _, rfl, Or.inr ⟨_, rfl, hg, hr.of_block (e _ (Ne.symm h1))⟩⟩

theorem HpF.keep {W0 : World} {bw cp g gc : Nat} {ws : List Int} {h : HpN} {rs : List Int} {W W' : World} (s : HpF W0 bw cp g gc ws h rs W) (hb : Below W.heap.size W W') : HpF W0 bw cp g gc ws h rs W' :=
  ⟨s.row.below hb, s.rt.below hb, s.rl, s.cw, s.l8, s.l0, s.fl, s.tc, s.below.trans (hb.mono s.below.size)⟩

theorem HpF.turned {W0 : World} {bw cp g gc : Nat} {ws : List Int} {h : HpN} {rs : List Int} {W W' : World} (s : HpF W0 bw cp g gc ws h rs W) {b : Nat} (h1 : b ≠ bw) (h2 : b ≠ g) (e : ∀ j, j ≠ b → W'.heap[j]? = W.heap[j]?) (hb : Below W0.heap.size W W') : HpF W0 bw cp g gc ws h rs W' :=
  ⟨slice_turned s.row h1 e, slice_turned s.rt h2 e, s.rl, s.cw, s.l8, s.l0, s.fl, s.tc, s.below.trans hb⟩

theorem HpF.only {W0 : World} {bw cp g gc B : Nat} {ws : List Int} {h : HpN} {rs : List Int} {W W' : World} (s : HpF W0 bw cp g gc ws h rs W) (o : Only B W W') (h1 : B ≠ bw) (h3 : B ≠ g) (h2 : W0.heap.size ≤ B) : HpF W0 bw cp g gc ws h rs W' := s.turned h1 h3 o.block (o.below h2)

theorem HpD.far {B : Nat} {a0 : Option Addr} {n cap q : Nat} {w0 W0 : World} {bw cp g gc : Nat} {ws : List Int} {h : HpN} {rs : List Int} {W : World} (s : HpD B a0 n cap q w0 bw cp g ws h rs W) (h1 : W0.heap.size ≤ B) (h2 : Below W0.heap.size W0 w0) : HpF W0 bw cp g gc ws h rs W := by
  have := s.low
  have := s.o2
  have := s.o3
  have := s.tc
  refine ⟨⟨_, _, rfl, Or.inr ⟨bw, rfl, by omega, by rw [Nat.mul_one]; exact s.row⟩⟩, ⟨_, _, rfl, Or.inr ⟨g, rfl, by omega, by rw [Nat.mul_one]; exact s.rt⟩⟩, s.rl, s.cw, s.l8, s.l0, s.fl, by omega, h2.trans (s.below.below h1 h2.size)⟩

def DrawFlipP (W : World) (e : Ending) (W' : World) : Prop :=
  ∃ (bw cp g gc : Nat) (ws : List Int) (h : HpN) (rs : List Int), e = .returned (.tuple #[heapV (.slice (some ⟨bw, 0, none⟩) ws.length cp) h, .slice (some ⟨g, 0, none⟩) 4 gc]) ∧ HpF W bw cp g gc ws h rs W' ∧ 4 ≤ gc

set_option maxHeartbeats 8000000 in
set_option maxRecDepth 100000 in
theorem drawFlip_calls (a0 : Option Addr) (len cap : Nat) (W : World) (hl : len ≤ 1048576) (hc : len ≤ cap) (hB : BytesAt W a0 len) : Calls Try.prog 16 #[.slice a0 len cap] W (DrawFlipP W) := by
  have HO : Hid (∀ X, Below W.heap.size W X → Calls Try.prog 26 #[.slice a0 len cap] X fun e X' => e = .returned (.pointer (some ⟨X.heap.size, 0, none⟩)) ∧ ∃ m, Rd X.heap.size a0 m cap 0 X' ∧ Below X.heap.size X X') := fun X hX => (ropen_calls a0 len cap X (by omega) hc).mono (by
    rintro e X' ⟨rfl, m, hm, rfl⟩
    exact ⟨rfl, m, rd_new X a0 len cap m hm (hB.later hX), (Below.refl _ _).alloc (Nat.le_refl _) _⟩)
  clear hl hc hB
  go_enter Try.func16, Try.ntmps16
  go_wp2_with fail
  have hX := (Below.refl W.heap.size W).alloc (Nat.le_refl _) (.cells #[.slice none 0 0, .int .i64 0, .int .i64 0, .int .i64 0, .int .i64 0, .int .i64 0, .int .i64 0, .int .i64 0, .int .i64 0, .int .i64 0] 25)
  have hXs : (W.alloc (.cells #[.slice none 0 0, .int .i64 0, .int .i64 0, .int .i64 0, .int .i64 0, .int .i64 0, .int .i64 0, .int .i64 0, .int .i64 0, .int .i64 0] 25)).heap.size = W.heap.size + 1 := by simp
  have hrv : HeapBlk _ W.heap.size (.slice none 0 0) ⟨0, 0, 0, 0, 0, 0, 0, 0, 0⟩ := HeapBlk.new W (.slice none 0 0) ⟨0, 0, 0, 0, 0, 0, 0, 0, 0⟩
  refine (HO.out _ hX).mono ?_
  rintro e W1 ⟨rfl, m, hrd, hb1⟩
  rw [hXs] at hrd ⊢
  have hr1 := hrv.below hb1
  have hbW := hX.trans (hb1.mono hX.size)
  have HH := hid (heap_calls (W.heap.size + 1) a0 m cap W1 hrd)
  have HR1 := hid hr1
  have HB1 := hid hbW
  have HBl := hid (heap_lt hrd.blk)
  clear hrd hb1 hX hXs hrv hr1 hbW HO
  go_wp2_with fail
  refine HH.out.mono ?_
  rintro e W2 ⟨q, bw, cp, g, gc, ws, h, rs, rfl, hd, hgc⟩
  obtain ⟨rv, hrve⟩ : ∃ rv, W.heap.size = rv := ⟨_, rfl⟩
  have hR2 : HeapBlk W2 W.heap.size (.slice none 0 0) ⟨0, 0, 0, 0, 0, 0, 0, 0, 0⟩ := (hd.below.block W.heap.size (by have := HBl.out; omega) (by omega)).trans HR1.out
  have HR2 := hid hR2
  have HD := hid hd
  have HGC := hid hgc
  clear hR2 hd hgc HH HR1
  unfold heapV
  obtain ⟨L, hL⟩ : ∃ L, ws.length = L := ⟨_, rfl⟩
  have HLL := hid hL
  rw [hL]
  clear hL
  go_wp2_with fail
  have hbA := (Below.refl W2.heap.size W2).alloc (Nat.le_refl _) (.cells #[.slice (some ⟨bw, 0, none⟩) L cp, .int .i64 h.size, .int .i64 h.to, .int .i64 h.bottom, .int .i64 h.top, .int .i64 h.scan, .int .i64 h.fb, .int .i64 h.ft, .int .i64 h.flips, .int .i64 h.touched] 25)
  have HS2 := hid (HD.out.keep hbA)
  have HH2 : Hid (HeapBlk _ W2.heap.size (.slice (some ⟨bw, 0, none⟩) L cp) h) := HeapBlk.new W2 (.slice (some ⟨bw, 0, none⟩) L cp) h
  have HRv2 := hid (HR2.out.below hbA)
  have hN : Hid (W.heap.size < W1.heap.size ∧ W.heap.size + 1 < W1.heap.size ∧ W1.heap.size ≤ bw ∧ W1.heap.size ≤ W2.heap.size ∧ bw < W2.heap.size ∧ W1.heap.size ≤ g ∧ g < W2.heap.size ∧ bw ≠ g ∧ 4 ≤ gc) := ⟨by have := HBl.out; omega, HBl.out, HD.out.o2, HD.out.below.size, HD.out.row.lt, HD.out.o3, HD.out.rt.lt, HD.out.n3, HGC.out⟩
  clear hbA HD HR2
  have HPk := hid (rd_picks HS2.out.rd (by have := HS2.out.q0; omega) 3 (by omega))
  have HvS : Hid (W2.heap.size < (W2.alloc (.cells #[.slice (some ⟨bw, 0, none⟩) L cp, .int .i64 h.size, .int .i64 h.to, .int .i64 h.bottom, .int .i64 h.top, .int .i64 h.scan, .int .i64 h.fb, .int .i64 h.ft, .int .i64 h.flips, .int .i64 h.touched] 25)).heap.size) := heap_lt HH2.out
  obtain ⟨hv, hhv⟩ : ∃ hv, W2.heap.size = hv := ⟨_, rfl⟩
  rw [hhv] at HH2 hN HvS ⊢
  obtain ⟨A, hA⟩ : ∃ A, (W2.alloc (.cells #[.slice (some ⟨bw, 0, none⟩) L cp, .int .i64 h.size, .int .i64 h.to, .int .i64 h.bottom, .int .i64 h.top, .int .i64 h.scan, .int .i64 h.fb, .int .i64 h.ft, .int .i64 h.flips, .int .i64 h.touched] 25)) = A := ⟨_, rfl⟩
  rw [hA] at HH2 HRv2 HS2 HPk HvS
  rw [hA]
  have HHV := hid hhv
  clear hA hhv
  rw [hrve] at HPk
  have HRE := hid hrve
  have HFD := hid (HpD.far (gc := gc) HS2.out (by omega) HB1.out)
  have HTC : Hid (h.touched ≤ 100000000) := HS2.out.tc
  clear HS2 hrve
  refine HPk.out.mono ?_
  rintro e X1 ⟨m1, rfl, hm0, hm3, hr1, ho1⟩
  have HF1 := hid (HFD.out.only ho1 (by have := hN.out; have := HRE.out; omega) (by have := hN.out; have := HRE.out; omega) (by have := HRE.out; omega))
  have Hv1 : Hid (HeapBlk X1 hv (.slice (some ⟨bw, 0, none⟩) L cp) h) := (ho1.block hv (by have := hN.out; have := HRE.out; omega)).trans HH2.out
  have Rv1 : Hid (HeapBlk X1 rv (.slice none 0 0) ⟨0, 0, 0, 0, 0, 0, 0, 0, 0⟩) := (ho1.block rv (by omega)).trans (by have := HRv2.out; rw [HRE.out] at this; exact this)
  have HvS1 : Hid (hv < X1.heap.size) := by have := HvS.out; have e := ho1.size; show _ < _; omega
  have HNN : Hid (W.heap.size ≤ rv ∧ rv < hv ∧ rv ≠ bw ∧ rv ≠ g ∧ hv ≠ bw ∧ hv ≠ g ∧ 4 ≤ gc) := by have := hN.out; have := HRE.out; show _ ∧ _; omega
  clear hr1 ho1 HH2 HRv2 HFD HvS HPk hN HB1 HBl HHV HRE
  obtain ⟨c0, c1, c2, c3, c4, c5, c6, c7, c8, c9⟩ := Hv1.out.cells
  by_cases hm : 0 < m1
  · have hdm : decide (0 < m1) = true := decide_eq_true hm
    have HSc := hid ((scan_toldC ws h (by have := HF1.out.tc; omega) (by have := HF1.out.l8; omega) 1000).1 _ bw cp X1 HF1.out.cw HF1.out.row)
    rw [HLL.out] at HSc
    unfold heapV at HSc
    go_wp2_with fail
    refine HSc.out.mono ?_
    rintro e X2 ⟨⟨ad, cp2, rfl, hsl, hcp2⟩, hb2⟩
    have Hv2 := hid (Hv1.out.below hb2)
    have Rv2 := hid (Rv1.out.below hb2)
    have HF2 := hid (HF1.out.keep hb2)
    have Hx12 := hid hb2.size
    clear hb2 HSc Hv1 Rv1 HF1 c0 c1 c2 c3 c4 c5 c6 c7 c8 c9
    obtain ⟨H2, hH2⟩ : ∃ H2, ansH (scanA ws h 1000) = H2 := ⟨_, rfl⟩
    obtain ⟨w2, hw2⟩ : ∃ w2, ansW (scanA ws h 1000) = w2 := ⟨_, rfl⟩
    obtain ⟨b2, hb2⟩ : ∃ b2, (scanA ws h 1000).isSome = b2 := ⟨_, rfl⟩
    rw [hH2, hw2, hb2]
    rw [hw2] at hsl hcp2
    obtain ⟨L2, hL2⟩ : ∃ L2, w2.length = L2 := ⟨_, rfl⟩
    rw [hL2]
    have EH := hid hH2
    have EW := hid hw2
    have EB := hid hb2
    have EL := hid hL2
    have ES := hid hsl
    have EC := hid hcp2
    clear hH2 hw2 hb2 hL2 hsl hcp2
    unfold heapV
    have hal := (Below.refl X2.heap.size X2).alloc (Nat.le_refl _) (.cells #[.slice ad L2 cp2, .int .i64 H2.size, .int .i64 H2.to, .int .i64 H2.bottom, .int .i64 H2.top, .int .i64 H2.scan, .int .i64 H2.fb, .int .i64 H2.ft, .int .i64 H2.flips, .int .i64 H2.touched] 25)
    have Hv3 := hid (Hv2.out.below hal)
    have Rv3 := hid (Rv2.out.below hal)
    have HF3 := hid (HF2.out.keep hal)
    have Hu3 : Hid (HeapBlk _ X2.heap.size (.slice ad L2 cp2) H2) := HeapBlk.new X2 (.slice ad L2 cp2) H2
    have HX2 : Hid (hv < X2.heap.size) := by have := Hx12.out; have := HvS1.out; show _ < _; omega
    clear hal Hv2 Rv2 Hx12
    cases b2 with
    | false =>
      obtain ⟨c0, c1, c2, c3, c4, c5, c6, c7, c8, c9⟩ := Hv3.out.cells
      clear ES EC EH EW EL EB Hu3 HF2 Hv3
      obtain ⟨d0, d1, d2, d3, d4, d5, d6, d7, d8, d9⟩ := Rv3.out.cells
      have z0 := frozen_of_heap Rv3.out 0
      have z1 := frozen_of_heap Rv3.out 1
      have z2 := frozen_of_heap Rv3.out 2
      have z3 := frozen_of_heap Rv3.out 3
      have z4 := frozen_of_heap Rv3.out 4
      have z5 := frozen_of_heap Rv3.out 5
      have z6 := frozen_of_heap Rv3.out 6
      have z7 := frozen_of_heap Rv3.out 7
      have z8 := frozen_of_heap Rv3.out 8
      have z9 := frozen_of_heap Rv3.out 9
      try dsimp only at d0 d1 d2 d3 d4 d5 d6 d7 d8 d9
      go_wp2_with fail
      refine heap_use Rv3.out (.slice (some ⟨bw, 0, none⟩) L cp) h _ ?_
      intro W9 hL9 hb9 _ hoth
      obtain ⟨y0, y1, y2, y3, y4, y5, y6, y7, y8, y9⟩ := hL9.cells
      try dsimp only at y0 y1 y2 y3 y4 y5 y6 y7 y8 y9
      refine bodyPost_ret (v := .tuple #[heapV (.slice (some ⟨bw, 0, none⟩) L cp) h, .slice (some ⟨g, 0, none⟩) 4 gc]) (by simp [results, Try.results16, go_sem, y0, y1, y2, y3, y4, y5, y6, y7, y8, y9, heapV]) rfl ?_
      exact ⟨bw, cp, g, gc, ws, h, rs, by rw [HLL.out], HF3.out.turned (b := rv) (by have := HNN.out; omega) (by have := HNN.out; omega) hoth (hb9 _ (by have := HNN.out; omega)), by have := HNN.out; omega⟩
    | true =>
      obtain ⟨u0, u1, u2, u3, u4, u5, u6, u7, u8, u9⟩ := Hu3.out.cells
      obtain ⟨c0, c1, c2, c3, c4, c5, c6, c7, c8, c9⟩ := Hv3.out.cells
      have x0 := frozen_of_heap Hv3.out 0
      have x1 := frozen_of_heap Hv3.out 1
      have x2 := frozen_of_heap Hv3.out 2
      have x3 := frozen_of_heap Hv3.out 3
      have x4 := frozen_of_heap Hv3.out 4
      have x5 := frozen_of_heap Hv3.out 5
      have x6 := frozen_of_heap Hv3.out 6
      have x7 := frozen_of_heap Hv3.out 7
      have x8 := frozen_of_heap Hv3.out 8
      have x9 := frozen_of_heap Hv3.out 9
      have hT := heap_useT Hv3.out (.slice ad L2 cp2) H2 (fun Z => HeapBlk Z hv (.slice ad L2 cp2) H2 ∧ (∀ B, B ≤ hv → Below B (X2.alloc (.cells #[.slice ad L2 cp2, .int .i64 H2.size, .int .i64 H2.to, .int .i64 H2.bottom, .int .i64 H2.top, .int .i64 H2.scan, .int .i64 H2.fb, .int .i64 H2.ft, .int .i64 H2.flips, .int .i64 H2.touched] 25)) Z) ∧ ∀ g, g ≠ hv → Z.heap[g]? = (X2.alloc (.cells #[.slice ad L2 cp2, .int .i64 H2.size, .int .i64 H2.to, .int .i64 H2.bottom, .int .i64 H2.top, .int .i64 H2.scan, .int .i64 H2.fb, .int .i64 H2.ft, .int .i64 H2.flips, .int .i64 H2.touched] 25)).heap[g]?) (fun Z a b c => ⟨a, b, c⟩)
      have HvT := hid hT.1
      have Rv4 : Hid (HeapBlk (((((((((((X2.alloc (.cells #[.slice ad L2 cp2, .int .i64 H2.size, .int .i64 H2.to, .int .i64 H2.bottom, .int .i64 H2.top, .int .i64 H2.scan, .int .i64 H2.fb, .int .i64 H2.ft, .int .i64 H2.flips, .int .i64 H2.touched] 25)).setCell ⟨hv, 0, none⟩ (.slice ad L2 cp2)).setCell ⟨hv, 1, none⟩ (.int .i64 H2.size)).setCell ⟨hv, 2, none⟩ (.int .i64 H2.to)).setCell ⟨hv, 3, none⟩ (.int .i64 H2.bottom)).setCell ⟨hv, 4, none⟩ (.int .i64 H2.top)).setCell ⟨hv, 5, none⟩ (.int .i64 H2.scan)).setCell ⟨hv, 6, none⟩ (.int .i64 H2.fb)).setCell ⟨hv, 7, none⟩ (.int .i64 H2.ft)).setCell ⟨hv, 8, none⟩ (.int .i64 H2.flips)).setCell ⟨hv, 9, none⟩ (.int .i64 H2.touched)) rv (.slice none 0 0) ⟨0, 0, 0, 0, 0, 0, 0, 0, 0⟩) := (hT.2.2 rv (by have := HNN.out; omega)).trans Rv3.out
      have HF4 := hid (HF3.out.turned (b := hv) (by have := HNN.out; omega) (by have := HNN.out; omega) hT.2.2 (hT.2.1 _ (by have := HNN.out; omega)))
      have HN4 : Hid (∀ k, k ≠ hv → ((((((((((((X2.alloc (.cells #[.slice ad L2 cp2, .int .i64 H2.size, .int .i64 H2.to, .int .i64 H2.bottom, .int .i64 H2.top, .int .i64 H2.scan, .int .i64 H2.fb, .int .i64 H2.ft, .int .i64 H2.flips, .int .i64 H2.touched] 25)).setCell ⟨hv, 0, none⟩ (.slice ad L2 cp2)).setCell ⟨hv, 1, none⟩ (.int .i64 H2.size)).setCell ⟨hv, 2, none⟩ (.int .i64 H2.to)).setCell ⟨hv, 3, none⟩ (.int .i64 H2.bottom)).setCell ⟨hv, 4, none⟩ (.int .i64 H2.top)).setCell ⟨hv, 5, none⟩ (.int .i64 H2.scan)).setCell ⟨hv, 6, none⟩ (.int .i64 H2.fb)).setCell ⟨hv, 7, none⟩ (.int .i64 H2.ft)).setCell ⟨hv, 8, none⟩ (.int .i64 H2.flips)).setCell ⟨hv, 9, none⟩ (.int .i64 H2.touched))).heap[k]? = (X2.alloc (.cells #[.slice ad L2 cp2, .int .i64 H2.size, .int .i64 H2.to, .int .i64 H2.bottom, .int .i64 H2.top, .int .i64 H2.scan, .int .i64 H2.fb, .int .i64 H2.ft, .int .i64 H2.flips, .int .i64 H2.touched] 25)).heap[k]?) := hT.2.2
      have HA4 := hid ((Below.refl X2.heap.size X2).alloc (Nat.le_refl _) (.cells #[.slice ad L2 cp2, .int .i64 H2.size, .int .i64 H2.to, .int .i64 H2.bottom, .int .i64 H2.top, .int .i64 H2.scan, .int .i64 H2.fb, .int .i64 H2.ft, .int .i64 H2.flips, .int .i64 H2.touched] 25))
      obtain ⟨e0, e1, e2, e3, e4, e5, e6, e7, e8, e9⟩ := HvT.out.cells
      clear hT HF3 HF2 HvT Hv3 Hu3 Rv3
      obtain ⟨d0, d1, d2, d3, d4, d5, d6, d7, d8, d9⟩ := Rv4.out.cells
      have z0 := frozen_of_heap Rv4.out 0
      have z1 := frozen_of_heap Rv4.out 1
      have z2 := frozen_of_heap Rv4.out 2
      have z3 := frozen_of_heap Rv4.out 3
      have z4 := frozen_of_heap Rv4.out 4
      have z5 := frozen_of_heap Rv4.out 5
      have z6 := frozen_of_heap Rv4.out 6
      have z7 := frozen_of_heap Rv4.out 7
      have z8 := frozen_of_heap Rv4.out 8
      have z9 := frozen_of_heap Rv4.out 9
      try dsimp only at d0 d1 d2 d3 d4 d5 d6 d7 d8 d9
      go_wp2_with fail
      refine heap_use Rv4.out (.slice ad L2 cp2) H2 _ ?_
      intro W9 hL9 hb9 _ hoth
      obtain ⟨y0, y1, y2, y3, y4, y5, y6, y7, y8, y9⟩ := hL9.cells
      try dsimp only at y0 y1 y2 y3 y4 y5 y6 y7 y8 y9
      refine bodyPost_ret (v := .tuple #[heapV (.slice ad L2 cp2) H2, .slice (some ⟨g, 0, none⟩) 4 gc]) (by simp [results, Try.results16, go_sem, y0, y1, y2, y3, y4, y5, y6, y7, y8, y9, heapV]) rfl ?_
      obtain ⟨s1, hs1⟩ := Option.isSome_iff_exists.1 EB.out
      have nums := scanA_nums hs1 (by have := HTC.out; omega)
      have ew : w2 = s1.ws := by rw [← EW.out, hs1]; rfl
      have eh : H2 = { s1.h with touched := touchZ s1 } := by rw [← EH.out, hs1]; rfl
      have l0 := HF4.out.l0
      have l8 := HF4.out.l8
      have lw : w2.length = ws.length := by rw [ew]; exact nums.1
      obtain ⟨ad', c', q1, h0 | ⟨bw2, q2, hg, hr⟩⟩ := ES.out
      · omega
      · cases q1
        cases q2
        have hv1 := HvS1.out
        have hnn := HNN.out
        have r3 := hr.of_block ((HA4.out.block _ hr.lt))
        have r4 := r3.of_block (HN4.out bw2 (by omega))
        have r5 := r4.of_block (hoth bw2 (by omega))
        have f5 := HF4.out.turned (b := rv) (by omega) (by omega) hoth (hb9 _ (by omega))
        refine ⟨bw2, cp2, g, gc, w2, H2, rs, by rw [EL.out], ⟨⟨_, _, rfl, Or.inr ⟨bw2, rfl, ?_, r5⟩⟩, f5.rt, f5.rl, EC.out, by omega, by omega, ?_, ?_, f5.below⟩, by omega⟩
        · omega
        · rw [eh]
          have := f5.fl
          have := nums.2.1
          dsimp only
          omega
        · rw [eh]
          have := HTC.out
          have := nums.2.2.2
          dsimp only
          omega
  · have hdm : decide (0 < m1) = false := decide_eq_false hm
    obtain ⟨d0, d1, d2, d3, d4, d5, d6, d7, d8, d9⟩ := Rv1.out.cells
    have z0 := frozen_of_heap Rv1.out 0
    have z1 := frozen_of_heap Rv1.out 1
    have z2 := frozen_of_heap Rv1.out 2
    have z3 := frozen_of_heap Rv1.out 3
    have z4 := frozen_of_heap Rv1.out 4
    have z5 := frozen_of_heap Rv1.out 5
    have z6 := frozen_of_heap Rv1.out 6
    have z7 := frozen_of_heap Rv1.out 7
    have z8 := frozen_of_heap Rv1.out 8
    have z9 := frozen_of_heap Rv1.out 9
    try dsimp only at d0 d1 d2 d3 d4 d5 d6 d7 d8 d9
    go_wp2_with fail
    refine heap_use Rv1.out (.slice (some ⟨bw, 0, none⟩) L cp) h _ ?_
    intro W9 hL9 hb9 _ hoth
    obtain ⟨y0, y1, y2, y3, y4, y5, y6, y7, y8, y9⟩ := hL9.cells
    try dsimp only at y0 y1 y2 y3 y4 y5 y6 y7 y8 y9
    refine bodyPost_ret (v := .tuple #[heapV (.slice (some ⟨bw, 0, none⟩) L cp) h, .slice (some ⟨g, 0, none⟩) 4 gc]) (by simp [results, Try.results16, go_sem, y0, y1, y2, y3, y4, y5, y6, y7, y8, y9, heapV]) rfl ?_
    exact ⟨bw, cp, g, gc, ws, h, rs, by rw [HLL.out], HF1.out.turned (b := rv) (by have := HNN.out; omega) (by have := HNN.out; omega) hoth (hb9 _ (by have := HNN.out; omega)), by have := HNN.out; omega⟩
end Go.Proofs.Ytebpgglegnljgaa

/- HeapGraph and HeapOk of the program, at a heap that may be. -/
namespace Go.Proofs.Ytebpgglegnljgaa
open Go.RowKit

/-- What roots lead to, told. -/
structure GraphG (bs xs : List Int) (h : HpN) (K : Nat) : Prop where
  ends : Ends bs xs K
  ylen : (tellsRun bs xs xs.length []).2.length = xs.length
  olen : (graphRun bs K (tellsRun bs xs xs.length []).1).2.length ≤ 8000
  flen : ∀ i, i < (graphRun bs K (tellsRun bs xs xs.length []).1).2.length → (fieldsOf (graphRun bs K (tellsRun bs xs xs.length []).1).2 i).length ≤ 5
  calls : ∀ B g cp B2 rg rc W, bs.length ≤ cp → SliceR 3 1 B W (.slice (some ⟨g, 0, none⟩) bs.length cp) bs.length (intCells bs) → SliceR 3 1 B2 W (.slice (some ⟨rg, 0, none⟩) xs.length rc) xs.length (intCells xs) → Calls Try.prog 8 #[heapV (.slice (some ⟨g, 0, none⟩) bs.length cp) h, .slice (some ⟨rg, 0, none⟩) xs.length rc] W (ToldGI W (graphRun bs K (tellsRun bs xs xs.length []).1).2 (tellsRun bs xs xs.length []).2 true)

theorem graph_good {bs S xs : List Int} {h : HpN} (ok : OkHeap bs S h) (hro : ∀ i, i < xs.length → wordOkZ S h (xs.getD i 0) = true) (hn : xs.length ≤ 20) : ∃ K, GraphG bs xs h K := by
  have ho := ok.ord
  obtain ⟨o1, o2, o3, o4, o5, o6, o7, o8, o9, o10, o11, o12, o13⟩ := id ho
  have hN0 : bs.length ≠ 0 := by omega
  have hN8 : bs.length ≤ 8000 := by omega
  have hki : implOk bs h = true := by rw [← ok_same ho]; exact ok_spec ok
  have hrr : implRoots S h xs = true := by
    unfold implRoots
    rw [List.all_eq_true]
    exact fun k hk => hro k (List.mem_range.1 hk)
  have ILg : ∀ B g cp W, bs.length ≤ cp → SliceR 3 1 B W (.slice (some ⟨g, 0, none⟩) bs.length cp) bs.length (intCells bs) → ∀ X, Below W.heap.size W X → Calls Try.prog 30 #[heapV (.slice (some ⟨g, 0, none⟩) bs.length cp) h] X fun e w' => ∃ gb, e = .returned (.tuple #[layV (.slice (some ⟨g, 0, none⟩) bs.length cp) h (.slice (some ⟨gb, 0, none⟩) bs.length bs.length), .bool true]) ∧ Hid (ISt g 0 gb bs.length bs S w') ∧ Below X.heap.size X w' := fun B g cp W hcp hs X hX => (layOut_calls g 0 cp bs.length bs h X rfl ho hcp (row_atC hN0 hs hX).1 (row_atC hN0 hs hX).2).mono (by
    rintro e w' ⟨hres, hb'⟩
    rcases hres with ⟨e1, _⟩ | ⟨S', gb, e1, _, e2, _, e3⟩
    · rw [hki] at e1
      cases e1
    · rw [ok.impl] at e1
      cases e1
      exact ⟨gb, e2, e3, hb'⟩)
  have IRt : ∀ g cp B2 rg rc W, SliceR 3 1 B2 W (.slice (some ⟨rg, 0, none⟩) xs.length rc) xs.length (intCells xs) → ∀ (X : World) (gb : Nat), Below W.heap.size W X → ISt g 0 gb bs.length bs S X → Calls Try.prog 31 #[layV (.slice (some ⟨g, 0, none⟩) bs.length cp) h (.slice (some ⟨gb, 0, none⟩) bs.length bs.length), .slice (some ⟨rg, 0, none⟩) xs.length rc] X fun e w' => e = .returned (.bool true) ∧ Below X.heap.size X w' := fun g cp B2 rg rc W hr X gb hX hI => by
    have e := rootsOk_calls (some ⟨rg, 0, none⟩) rc g 0 cp gb bs.length bs S h xs X ho hI (hr.below hX).intSlice (by omega)
    rw [hrr, decide_eq_true hn] at e
    exact e
  have hle : ∀ i, i < xs.length → Leads bs S (xs.getD i 0) := fun i hi => leads_of (by have := hro i hi; rw [used_same ok] at this; exact this)
  obtain ⟨K, hK⟩ := ends_some ok hle
  have ht := Met.tells ok (met := []) ⟨List.nodup_nil, fun a ha => by cases ha⟩ hle xs.length (Nat.le_refl _)
  have hyl := ht.2.2
  have hg := ht.1.graph ok K hK.1
  have hKN : (graphRun bs K (tellsRun bs xs xs.length []).1).2.length ≤ 8000 := by
    rw [hg.2.2]
    by_cases h0 : K = 0
    · omega
    · have h1 := hK.1 (K - 1) (by omega)
      have h2 := (ht.1.graph ok (K - 1) (fun j hj => hK.1 j (by omega))).1.short ok
      omega
  refine ⟨K, hK, hyl, hKN, fun i hi => graph_small ok ht.1 K hK.1 i (by rw [hg.2.2] at hi; exact hi), fun B g cp B2 rg rc W hcp hs hr => ?_⟩
  have HW : Wds g 0 bs.length bs W := ⟨rfl, (row_atC hN0 hs (Below.refl _ _)).1, (row_atC hN0 hs (Below.refl _ _)).2⟩
  have HLs : ListAt rg 0 xs W := ⟨fun h0 => (row_atC (by omega) hr (Below.refl _ _)).1, fun k hk => (row_atC (by omega) hr (Below.refl _ _)).2 k hk⟩
  exact (iGraph_good g 0 cp bs.length h rg xs.length rc W bs S xs ok HW hN8 hcp HLs rfl hn hle (ILg B g cp W hcp hs) (IRt g cp B2 rg rc W hr)).mono (fun _ _ => toldGI_some hK hyl)

theorem ok_good {bs S : List Int} {h : HpN} (ok : OkHeap bs S h) (B g cp : Nat) (W : World) (hcp : bs.length ≤ cp) (hs : SliceR 3 1 B W (.slice (some ⟨g, 0, none⟩) bs.length cp) bs.length (intCells bs)) : Calls Try.prog 15 #[heapV (.slice (some ⟨g, 0, none⟩) bs.length cp) h] W fun e w' => e = .returned (.bool true) ∧ Below W.heap.size W w' := by
  refine iOk_calls (fun w hb => ?_)
  have ho := ok.ord
  have h0 : bs.length ≠ 0 := by obtain ⟨o1, o2, o3, _⟩ := ho; omega
  have hki : implOk bs h = true := by rw [← ok_same ho]; exact ok_spec ok
  refine (layOut_calls g 0 cp bs.length bs h w rfl ho hcp (row_atC h0 hs hb).1 (row_atC h0 hs hb).2).mono ?_
  rintro e w' ⟨hres, hb'⟩
  refine ⟨?_, hb'⟩
  rcases hres with ⟨e1, rfl⟩ | ⟨S, gb, _, e1, rfl, _⟩
  · rw [hki] at e1
    cases e1
  · exact ⟨_, _, _, _, _, _, _, rfl⟩
end Go.Proofs.Ytebpgglegnljgaa

/- laws.hrInts at two lists of the same numbers. -/
namespace Go.Proofs.Ytebpgglegnljgaa
open Go.RowKit

set_option maxRecDepth 100000 in
theorem hrInts_none (ad ad' : Option Addr) (cap cap' : Nat) (w : World) :
    Calls Try.prog 11 #[.slice ad 0 cap, .slice ad' 0 cap'] w fun e w' => e = .returned (.bool true) ∧ Below w.heap.size w w' := by
  go_enter Try.func11, Try.ntmps11
  go_wp2
  refine wp_loop_rounds 1 ?_
  rw [rounds_succ]
  go_wp2
  go_ret
  exact ⟨rfl, Below.refl _ _⟩

set_option maxHeartbeats 1000000 in
set_option maxRecDepth 100000 in
theorem hrInts_rows (b off b' off' len cap cap' : Nat) (bs : List Int) (w : World) (hn : ∀ k, k < len → w.cell? ⟨b, off + k, none⟩ = some (.int .i64 (bs.getD k 0))) (hn' : ∀ k, k < len → w.cell? ⟨b', off' + k, none⟩ = some (.int .i64 (bs.getD k 0))) (hm : len ≤ 1048576) :
    Calls Try.prog 11 #[.slice (some ⟨b, off, none⟩) len cap, .slice (some ⟨b', off', none⟩) len cap'] w fun e w' => e = .returned (.bool true) ∧ Below w.heap.size w w' := by
  have HM : Hid (len ≤ 1048576) := hm
  have HN : Hid ((∀ k, k < len → w.cell? ⟨b, off + k, none⟩ = some (.int .i64 (bs.getD k 0))) ∧ ∀ k, k < len → w.cell? ⟨b', off' + k, none⟩ = some (.int .i64 (bs.getD k 0))) := ⟨hn, hn'⟩
  clear hm hn hn'
  go_enter Try.func11, Try.ntmps11
  go_wp2_with fail
  go_loopw [5] (fun i wr => ∃ k : Nat, k ≤ len ∧ i = .int .i64 k ∧ Below w.heap.size w wr ∧ ∀ a, wr.cell? a = w.cell? a) (fun i _ => len - (intOf i).toNat)
  case atStart => exact ⟨0, Nat.zero_le _, rfl, Below.refl _ _, fun _ => rfl⟩
  case round =>
    obtain ⟨k, hk, rfl, hnx, hce⟩ := hrel
    by_cases hkl : (k : Int) < (len : Int)
    · have c0 := (hce _).trans (HN.out.1 k (by omega))
      have d0 := (hce _).trans (HN.out.2 k (by omega))
      generalize bs.getD k 0 = n at c0 d0
      have hi0 : (0 : Int) ≤ (k : Int) := by omega
      have Hce : Hid (∀ a, wr.cell? a = w.cell? a) := hce
      clear hce
      go_wp2_with fail
      go_region
      all_goals
        go_wp2_with fail
        have hs : len - (intOf (.int .i64 ((k + 1 : Nat) : Int))).toNat < len - (intOf (.int .i64 (k : Int))).toNat := by simp only [intOf, Int.toNat_natCast]; omega
        try rw [wrap_inc (n := len) (by omega) HM.out]
        exact ⟨⟨k + 1, by omega, rfl, hnx.drew, Hce.out⟩, hs⟩
    · go_wp2_with fail
      go_ret
      exact ⟨rfl, hnx⟩

theorem hrInts_any {v v' : Value} {bs : List Int} (w : World) (hm : bs.length ≤ 1048576) (h : IntSlice w v bs) (h' : IntSlice w v' bs) :
    Calls Try.prog 11 #[v, v'] w fun e w' => e = .returned (.bool true) ∧ Below w.heap.size w w' := by
  obtain ⟨ad, cap, rfl, h⟩ := h
  obtain ⟨ad', cap', rfl, h'⟩ := h'
  by_cases h0 : bs = []
  · subst h0
    exact hrInts_none ad ad' cap cap' w
  · obtain ⟨g, o, rfl, -, hr⟩ := h.resolve_left h0
    obtain ⟨g', o', rfl, -, hr'⟩ := h'.resolve_left h0
    exact hrInts_rows g o g' o' _ cap cap' bs w hr hr' hm
end Go.Proofs.Ytebpgglegnljgaa

/- laws.hrHeap at two heaps of the same words and numbers. -/
namespace Go.Proofs.Ytebpgglegnljgaa
open Go.RowKit

set_option maxHeartbeats 4000000 in
set_option maxRecDepth 100000 in
theorem hrHeap_any {v v' : Value} {bs : List Int} {h : HpN} (w : World) (hm : bs.length ≤ 1048576) (h1 : IntSlice w v bs) (h2 : IntSlice w v' bs) :
    Calls Try.prog 14 #[heapV v h, heapV v' h] w fun e w' => e = .returned (.bool true) ∧ Below w.heap.size w w' := by
  have HI : Hid (∀ X, Below w.heap.size w X → Calls Try.prog 11 #[v, v'] X fun e w' => e = .returned (.bool true) ∧ Below X.heap.size X w') := fun X hX => hrInts_any X hm (h1.below hX) (h2.below hX)
  obtain ⟨a, c, hv, -⟩ := h1
  obtain ⟨a', c', hv', -⟩ := h2
  obtain ⟨g1, g2, g3, g4, g5, g6, g7, g8, g9⟩ := h
  unfold heapV
  dsimp only
  clear hm
  subst hv hv'
  generalize bs.length = n at *
  go_enter Try.func14, Try.ntmps14
  go_wp2_with fail
  have hb := ((Below.refl w.heap.size w).alloc (Nat.le_refl _) (.cells #[.slice a n c, .int .i64 g1, .int .i64 g2, .int .i64 g3, .int .i64 g4, .int .i64 g5, .int .i64 g6, .int .i64 g7, .int .i64 g8, .int .i64 g9] 25)).alloc (by simp) (.cells #[.slice a' n c', .int .i64 g1, .int .i64 g2, .int .i64 g3, .int .i64 g4, .int .i64 g5, .int .i64 g6, .int .i64 g7, .int .i64 g8, .int .i64 g9] 25)
  obtain ⟨eA, eB, eS⟩ := heap_alloc2 w (.cells #[.slice a n c, .int .i64 g1, .int .i64 g2, .int .i64 g3, .int .i64 g4, .int .i64 g5, .int .i64 g6, .int .i64 g7, .int .i64 g8, .int .i64 g9] 25) (.cells #[.slice a' n c', .int .i64 g1, .int .i64 g2, .int .i64 g3, .int .i64 g4, .int .i64 g5, .int .i64 g6, .int .i64 g7, .int .i64 g8, .int .i64 g9] 25)
  refine (HI.out _ hb).mono ?_
  rintro e W1 ⟨rfl, hb1⟩
  have k1 : HeapBlk W1 w.heap.size (.slice a n c) ⟨g1, g2, g3, g4, g5, g6, g7, g8, g9⟩ := (hb1.block _ (by rw [eS]; omega)).trans eA
  have k2 : HeapBlk W1 (w.heap.size + 1) (.slice a' n c') ⟨g1, g2, g3, g4, g5, g6, g7, g8, g9⟩ := (hb1.block _ (by rw [eS]; omega)).trans eB
  obtain ⟨c0, c1, c2, c3, c4, c5, c6, c7, c8, c9⟩ := k1.cells
  obtain ⟨d0, d1, d2, d3, d4, d5, d6, d7, d8, d9⟩ := k2.cells
  have HB := hid (hb.trans (hb1.mono hb.size))
  clear hb hb1 eA eB eS k1 k2 HI
  dsimp only at c0 c1 c2 c3 c4 c5 c6 c7 c8 c9 d0 d1 d2 d3 d4 d5 d6 d7 d8 d9
  go_wp2_with fail
  go_ret
  exact ⟨rfl, HB.out⟩
end Go.Proofs.Ytebpgglegnljgaa
