/- The program's HeapField: what is read. -/
import Derived.Test.YtnoobonlmfgfhaaImplWkA
namespace Go.Proofs.Ytnoobonlmfgfhaa
open Go.RowKit

/-- A heap is told, and a field. -/
def FieldTold (N : Nat) (w : World) (ws : List Int) (h1 : HpN) (u : Int) (e : Ending) (w' : World) : Prop :=
  ∃ bw cap' : Nat, e = .returned (.tuple #[heapV (.slice (some ⟨bw, 0, none⟩) N cap') h1, .int .i64 u, .bool true]) ∧ CellRow 3 w' bw N (intCells ws) ∧ w.heap.size ≤ bw ∧ Below w.heap.size w w'

set_option maxHeartbeats 8000000 in
set_option maxRecDepth 100000 in
theorem iField_good (b off cap N : Nat) (h : HpN) (x i : Int) (w : World)
    (ws S : List Int)
    (k : Nat) (hk : k < N) (n : Int) (HSk : Hid (S.getD k 0 = n)) (hn0 : 0 ≤ n) (hn1 : n ≤ 6) (hd : decide (i < 0) = false) (hi1 : i < n - 1)
    (hN8 : N ≤ 8000) (hi0 : 0 ≤ i) (u : Int) (s0 s1 : CN) (h1 : HpN)
    (HLy : Hid (∀ X, Below w.heap.size w X → Calls Try.prog 40 #[heapV (.slice (some ⟨b, off, none⟩) N cap) h] X fun e w' => ∃ gb, e = .returned (.tuple #[layV (.slice (some ⟨b, off, none⟩) N cap) h (.slice (some ⟨gb, 0, none⟩) N N), .bool true]) ∧ Hid (ISt b off gb N ws S w') ∧ Below X.heap.size X w'))
    (HLd : Hid (∀ (X : World) (gb : Nat), ISt b off gb N ws S X → Calls Try.prog 53 #[layV (.slice (some ⟨b, off, none⟩) N cap) h (.slice (some ⟨gb, 0, none⟩) N N), .int .i64 x, .int .i64 h.to] X fun e w' => e = .returned (.bool true) ∧ Below X.heap.size X w'))
    (HNum : Hid (∀ w, Calls Try.prog 54 #[.int .i64 x] w fun e w' => e = .returned (.int .i64 (k : Int)) ∧ w = w'))
    (HOp : Hid (∀ X, Below w.heap.size w X → Calls Try.prog 48 #[heapV (.slice (some ⟨b, off, none⟩) N cap) h] X fun e w' => ∃ bc bw cap' : Nat, e = .returned (.pointer (some ⟨bc, 0, none⟩)) ∧ Col X bc bw N cap' s0.ws s0.h s0.r s0.t w' ∧ X.heap.size ≤ bc ∧ X.heap.size ≤ bw))
    (HFd : Hid (∀ (X w0 : World) (bc bw cap' : Nat), Col w0 bc bw N cap' s0.ws s0.h s0.r s0.t X → Calls Try.prog 55 #[.pointer (some ⟨bc, 0, none⟩), .int .i64 ((k : Int) + 1 + i)] X fun e w' => e = .returned (.tuple #[.int .i64 u, .bool true]) ∧ Col w0 bc bw N cap' s1.ws s1.h s1.r s1.t w'))
    (HTd : Hid (∀ (X w0 : World) (bc bw cap' : Nat), Col w0 bc bw N cap' s1.ws s1.h s1.r s1.t X → Calls Try.prog 51 #[.pointer (some ⟨bc, 0, none⟩)] X fun e w' => e = .returned (heapV (.slice (some ⟨bw, 0, none⟩) N cap') h1) ∧ Below X.heap.size X w')) :
    Calls Try.prog 23 #[heapV (.slice (some ⟨b, off, none⟩) N cap) h, .int .i64 x, .int .i64 i] w (FieldTold N w s1.ws h1 u) := by
  obtain ⟨g1, g2, g3, g4, g5, g6, g7, g8, g9⟩ := h
  unfold heapV at *
  dsimp only at *
  obtain ⟨W0, hW0, hA, hR, k2⟩ := both_new w (.slice (some ⟨b, off, none⟩) N cap) ⟨g1, g2, g3, g4, g5, g6, g7, g8, g9⟩
  dsimp only at hW0
  have HW0 := hid hW0
  have HA := hid hA
  have HR := hid hR
  have HK2 := hid k2
  clear hW0 hA hR k2
  go_enter Try.func23, Try.ntmps23
  go_wp2_with fail
  rw [HW0.out]
  refine (HLy.out _ HK2.out).mono ?_
  rintro e W1 ⟨gb, rfl, HI, hb1⟩
  unfold layV at *
  dsimp only at *
  have k1 := HK2.out.trans (hb1.mono HK2.out.size)
  have HB2 := hid (k1.alloc k1.size (.cells #[.slice (some ⟨b, off, none⟩) N cap, .int .i64 g1, .int .i64 g2, .int .i64 g3, .int .i64 g4, .int .i64 g5, .int .i64 g6, .int .i64 g7, .int .i64 g8, .int .i64 g9, .slice (some ⟨gb, 0, none⟩) N N] 59))
  have HR2 := hid ((HR.out.below hb1).below ((Below.refl _ W1).alloc (Nat.le_refl _) (.cells #[.slice (some ⟨b, off, none⟩) N cap, .int .i64 g1, .int .i64 g2, .int .i64 g3, .int .i64 g4, .int .i64 g5, .int .i64 g6, .int .i64 g7, .int .i64 g8, .int .i64 g9, .slice (some ⟨gb, 0, none⟩) N N] 59)))
  have HA2 := hid ((HA.out.below hb1).below ((Below.refl _ W1).alloc (Nat.le_refl _) (.cells #[.slice (some ⟨b, off, none⟩) N cap, .int .i64 g1, .int .i64 g2, .int .i64 g3, .int .i64 g4, .int .i64 g5, .int .i64 g6, .int .i64 g7, .int .i64 g8, .int .i64 g9, .slice (some ⟨gb, 0, none⟩) N N] 59)))
  have HI2 := hid (HI.out.kept ((Below.refl _ W1).alloc (Nat.le_refl _) (.cells #[.slice (some ⟨b, off, none⟩) N cap, .int .i64 g1, .int .i64 g2, .int .i64 g3, .int .i64 g4, .int .i64 g5, .int .i64 g6, .int .i64 g7, .int .i64 g8, .int .i64 g9, .slice (some ⟨gb, 0, none⟩) N N] 59)))
  have hLB := LayBlk.new W1 (.slice (some ⟨b, off, none⟩) N cap) ⟨g1, g2, g3, g4, g5, g6, g7, g8, g9⟩ (.slice (some ⟨gb, 0, none⟩) N N)
  dsimp only at hLB
  clear k1 hb1 HW0 HA HR HK2 HLy HI
  go_wp2_with fail
  generalize W1.alloc (.cells #[.slice (some ⟨b, off, none⟩) N cap, .int .i64 g1, .int .i64 g2, .int .i64 g3, .int .i64 g4, .int .i64 g5, .int .i64 g6, .int .i64 g7, .int .i64 g8, .int .i64 g9, .slice (some ⟨gb, 0, none⟩) N N] 59) = W2 at *
  obtain ⟨v0, v1, v2, v3, v4, v5, v6, v7, v8, v9, v10⟩ := hLB.later (B := W2.heap.size) (heap_lt hLB)
  dsimp only at v0 v1 v2 v3 v4 v5 v6 v7 v8 v9 v10
  have HLB := hid hLB
  clear hLB
  have u1 : ∀ y : Later W2.heap.size W2, y.w.cell? ⟨gb, k, none⟩ = some (.int .i64 n) := fun y => by
    have e := y.cell (p := ⟨gb, 0 + k, none⟩) HI2.out.glt (HI2.out.sizes k hk)
    rw [Nat.zero_add, HSk.out] at e
    exact e
  refine wp_region_calm W2.heap.size (by kernel_rfl) (by kernel_rfl) ?_
  repeat (go_big_quiet_step (first | (rename_i y; go_at_call 53; refine (HLd.out _ _ (HI2.out.kept y.h)).mono ?_; rintro e w5 ⟨rfl, hb5⟩; exact ⟨rfl, ⟨w5, y.h.trans (hb5.mono y.h.size)⟩, rfl⟩) | (rename_i y; go_at_call 54; refine (HNum.out _).mono ?_; rintro e w5 ⟨rfl, rfl⟩; exact ⟨rfl, y, rfl⟩)))
  refine wpQuiet_nil ?_
  rintro w6 ⟨y, rfl⟩
  have HB6 := hid (HB2.out.trans (y.h.mono HB2.out.size))
  have HR6 := hid (HR2.out.below y.h)
  have HA6 := hid (HA2.out.below y.h)
  have HI6 := hid (HI2.out.kept y.h)
  clear u1 v0 v1 v2 v3 v4 v5 v6 v7 v8 v9 v10
  generalize y.w = W6 at *
  obtain ⟨c0, c1, c2, c3, c4, c5, c6, c7, c8, c9⟩ := HA6.out.cells
  dsimp only at c0 c1 c2 c3 c4 c5 c6 c7 c8 c9
  go_wp2_with fail
  refine (HOp.out _ HB6.out).mono ?_
  rintro e W7 ⟨bc, bw, cap', rfl, hW7, hlo, hlo2⟩
  have HW7 := hid hW7
  have hlt6 := heap_lt HR6.out
  clear hW7 HOp HA6 c0 c1 c2 c3 c4 c5 c6 c7 c8 c9
  go_wp2_with fail
  refine (HNum.out _).mono ?_
  rintro e W7b ⟨rfl, rfl⟩
  go_wp2_with fail
  refine (HFd.out _ _ _ _ _ HW7.out).mono ?_
  rintro e W8 ⟨rfl, hW8⟩
  have HW8 := hid hW8
  clear hW8 HFd HW7
  obtain ⟨i1, i2, i3, i4, i5, i6, i7, i8, i9⟩ := h1
  dsimp only at HTd
  go_wp2_with fail
  refine (HTd.out _ _ _ _ _ HW8.out).mono ?_
  rintro e W9 ⟨rfl, hb9⟩
  have HW9 := hid (HW8.out.keep hb9)
  have HR9 := hid (HR6.out.below (HW9.out.frame.below hlo hlo2))
  have HB9 := hid (HB6.out.trans ((HW9.out.frame.below hlo hlo2).mono HB6.out.size))
  obtain ⟨c0, c1, c2, c3, c4, c5, c6, c7, c8, c9⟩ := HR9.out.cells
  dsimp only at c0 c1 c2 c3 c4 c5 c6 c7 c8 c9
  have z0 := frozen_of_heap HR9.out 0
  have z1 := frozen_of_heap HR9.out 1
  have z2 := frozen_of_heap HR9.out 2
  have z3 := frozen_of_heap HR9.out 3
  have z4 := frozen_of_heap HR9.out 4
  have z5 := frozen_of_heap HR9.out 5
  have z6 := frozen_of_heap HR9.out 6
  have z7 := frozen_of_heap HR9.out 7
  have z8 := frozen_of_heap HR9.out 8
  have z9 := frozen_of_heap HR9.out 9
  clear hb9 HTd HW8 HR6 HB6
  go_wp2_with fail
  refine heap_use HR9.out (.slice (some ⟨bw, 0, none⟩) N cap') ⟨i1, i2, i3, i4, i5, i6, i7, i8, i9⟩ _ ?_
  intro W10 hL hb10 _ hoth
  obtain ⟨y0, y1, y2, y3, y4, y5, y6, y7, y8, y9⟩ := hL.cells
  dsimp only at y0 y1 y2 y3 y4 y5 y6 y7 y8 y9
  exact bodyPost_ret (v := .tuple #[heapV (.slice (some ⟨bw, 0, none⟩) N cap') ⟨i1, i2, i3, i4, i5, i6, i7, i8, i9⟩, .int .i64 u, .bool true]) (by simp [results, Try.results23, go_sem, y0, y1, y2, y3, y4, y5, y6, y7, y8, y9, heapV]) rfl ⟨bw, cap', rfl, HW9.out.row.of_block (hoth _ (by omega)), by have := HB9.out.size; omega, HB9.out.trans (hb10 _ (Nat.le_succ _))⟩

set_option maxHeartbeats 8000000 in
set_option maxRecDepth 100000 in
theorem iField_full (b off cap N : Nat) (h : HpN) (x i : Int) (w : World)
    (ws S : List Int)
    (k : Nat) (hk : k < N) (n : Int) (HSk : Hid (S.getD k 0 = n)) (hn0 : 0 ≤ n) (hn1 : n ≤ 6) (hd : decide (i < 0) = false) (hi1 : i < n - 1)
    (hN8 : N ≤ 8000) (hi0 : 0 ≤ i) (s0 s1 : CN)
    (HLy : Hid (∀ X, Below w.heap.size w X → Calls Try.prog 40 #[heapV (.slice (some ⟨b, off, none⟩) N cap) h] X fun e w' => ∃ gb, e = .returned (.tuple #[layV (.slice (some ⟨b, off, none⟩) N cap) h (.slice (some ⟨gb, 0, none⟩) N N), .bool true]) ∧ Hid (ISt b off gb N ws S w') ∧ Below X.heap.size X w'))
    (HLd : Hid (∀ (X : World) (gb : Nat), ISt b off gb N ws S X → Calls Try.prog 53 #[layV (.slice (some ⟨b, off, none⟩) N cap) h (.slice (some ⟨gb, 0, none⟩) N N), .int .i64 x, .int .i64 h.to] X fun e w' => e = .returned (.bool true) ∧ Below X.heap.size X w'))
    (HNum : Hid (∀ w, Calls Try.prog 54 #[.int .i64 x] w fun e w' => e = .returned (.int .i64 (k : Int)) ∧ w = w'))
    (HOp : Hid (∀ X, Below w.heap.size w X → Calls Try.prog 48 #[heapV (.slice (some ⟨b, off, none⟩) N cap) h] X fun e w' => ∃ bc bw cap' : Nat, e = .returned (.pointer (some ⟨bc, 0, none⟩)) ∧ Col X bc bw N cap' s0.ws s0.h s0.r s0.t w' ∧ X.heap.size ≤ bc ∧ X.heap.size ≤ bw))
    (HFd : Hid (∀ (X w0 : World) (bc bw cap' : Nat), Col w0 bc bw N cap' s0.ws s0.h s0.r s0.t X → Calls Try.prog 55 #[.pointer (some ⟨bc, 0, none⟩), .int .i64 ((k : Int) + 1 + i)] X fun e w' => e = .returned (.tuple #[.int .i64 0, .bool false]) ∧ Col w0 bc bw N cap' s1.ws s1.h s1.r s1.t w')) :
    Calls Try.prog 23 #[heapV (.slice (some ⟨b, off, none⟩) N cap) h, .int .i64 x, .int .i64 i] w fun e w' => e = .returned (.tuple #[noHeap, .int .i64 0, .bool false]) ∧ Below w.heap.size w w' := by
  obtain ⟨g1, g2, g3, g4, g5, g6, g7, g8, g9⟩ := h
  unfold heapV at *
  dsimp only at *
  obtain ⟨W0, hW0, hA, hR, k2⟩ := both_new w (.slice (some ⟨b, off, none⟩) N cap) ⟨g1, g2, g3, g4, g5, g6, g7, g8, g9⟩
  dsimp only at hW0
  have HW0 := hid hW0
  have HA := hid hA
  have HR := hid hR
  have HK2 := hid k2
  clear hW0 hA hR k2
  go_enter Try.func23, Try.ntmps23
  go_wp2_with fail
  rw [HW0.out]
  refine (HLy.out _ HK2.out).mono ?_
  rintro e W1 ⟨gb, rfl, HI, hb1⟩
  unfold layV at *
  dsimp only at *
  have k1 := HK2.out.trans (hb1.mono HK2.out.size)
  have HB2 := hid (k1.alloc k1.size (.cells #[.slice (some ⟨b, off, none⟩) N cap, .int .i64 g1, .int .i64 g2, .int .i64 g3, .int .i64 g4, .int .i64 g5, .int .i64 g6, .int .i64 g7, .int .i64 g8, .int .i64 g9, .slice (some ⟨gb, 0, none⟩) N N] 59))
  have HR2 := hid ((HR.out.below hb1).below ((Below.refl _ W1).alloc (Nat.le_refl _) (.cells #[.slice (some ⟨b, off, none⟩) N cap, .int .i64 g1, .int .i64 g2, .int .i64 g3, .int .i64 g4, .int .i64 g5, .int .i64 g6, .int .i64 g7, .int .i64 g8, .int .i64 g9, .slice (some ⟨gb, 0, none⟩) N N] 59)))
  have HA2 := hid ((HA.out.below hb1).below ((Below.refl _ W1).alloc (Nat.le_refl _) (.cells #[.slice (some ⟨b, off, none⟩) N cap, .int .i64 g1, .int .i64 g2, .int .i64 g3, .int .i64 g4, .int .i64 g5, .int .i64 g6, .int .i64 g7, .int .i64 g8, .int .i64 g9, .slice (some ⟨gb, 0, none⟩) N N] 59)))
  have HI2 := hid (HI.out.kept ((Below.refl _ W1).alloc (Nat.le_refl _) (.cells #[.slice (some ⟨b, off, none⟩) N cap, .int .i64 g1, .int .i64 g2, .int .i64 g3, .int .i64 g4, .int .i64 g5, .int .i64 g6, .int .i64 g7, .int .i64 g8, .int .i64 g9, .slice (some ⟨gb, 0, none⟩) N N] 59)))
  have hLB := LayBlk.new W1 (.slice (some ⟨b, off, none⟩) N cap) ⟨g1, g2, g3, g4, g5, g6, g7, g8, g9⟩ (.slice (some ⟨gb, 0, none⟩) N N)
  dsimp only at hLB
  clear k1 hb1 HW0 HA HR HK2 HLy HI
  go_wp2_with fail
  generalize W1.alloc (.cells #[.slice (some ⟨b, off, none⟩) N cap, .int .i64 g1, .int .i64 g2, .int .i64 g3, .int .i64 g4, .int .i64 g5, .int .i64 g6, .int .i64 g7, .int .i64 g8, .int .i64 g9, .slice (some ⟨gb, 0, none⟩) N N] 59) = W2 at *
  obtain ⟨v0, v1, v2, v3, v4, v5, v6, v7, v8, v9, v10⟩ := hLB.later (B := W2.heap.size) (heap_lt hLB)
  dsimp only at v0 v1 v2 v3 v4 v5 v6 v7 v8 v9 v10
  have HLB := hid hLB
  clear hLB
  have u1 : ∀ y : Later W2.heap.size W2, y.w.cell? ⟨gb, k, none⟩ = some (.int .i64 n) := fun y => by
    have e := y.cell (p := ⟨gb, 0 + k, none⟩) HI2.out.glt (HI2.out.sizes k hk)
    rw [Nat.zero_add, HSk.out] at e
    exact e
  refine wp_region_calm W2.heap.size (by kernel_rfl) (by kernel_rfl) ?_
  repeat (go_big_quiet_step (first | (rename_i y; go_at_call 53; refine (HLd.out _ _ (HI2.out.kept y.h)).mono ?_; rintro e w5 ⟨rfl, hb5⟩; exact ⟨rfl, ⟨w5, y.h.trans (hb5.mono y.h.size)⟩, rfl⟩) | (rename_i y; go_at_call 54; refine (HNum.out _).mono ?_; rintro e w5 ⟨rfl, rfl⟩; exact ⟨rfl, y, rfl⟩)))
  refine wpQuiet_nil ?_
  rintro w6 ⟨y, rfl⟩
  have HB6 := hid (HB2.out.trans (y.h.mono HB2.out.size))
  have HR6 := hid (HR2.out.below y.h)
  have HA6 := hid (HA2.out.below y.h)
  have HI6 := hid (HI2.out.kept y.h)
  clear u1 v0 v1 v2 v3 v4 v5 v6 v7 v8 v9 v10
  generalize y.w = W6 at *
  obtain ⟨c0, c1, c2, c3, c4, c5, c6, c7, c8, c9⟩ := HA6.out.cells
  dsimp only at c0 c1 c2 c3 c4 c5 c6 c7 c8 c9
  go_wp2_with fail
  refine (HOp.out _ HB6.out).mono ?_
  rintro e W7 ⟨bc, bw, cap', rfl, hW7, hlo, hlo2⟩
  have HW7 := hid hW7
  have hlt6 := heap_lt HR6.out
  clear hW7 HOp HA6 c0 c1 c2 c3 c4 c5 c6 c7 c8 c9
  go_wp2_with fail
  refine (HNum.out _).mono ?_
  rintro e W7b ⟨rfl, rfl⟩
  go_wp2_with fail
  refine (HFd.out _ _ _ _ _ HW7.out).mono ?_
  rintro e W8 ⟨rfl, hW8⟩
  have HW8 := hid hW8
  clear hW8 HFd HW7
  have HB8 := hid (HB6.out.trans ((HW8.out.frame.below hlo hlo2).mono HB6.out.size))
  have HR8 := hid (HR6.out.below (HW8.out.frame.below hlo hlo2))
  clear HR6 HB6
  obtain ⟨c0, c1, c2, c3, c4, c5, c6, c7, c8, c9⟩ := HR8.out.cells
  dsimp only at c0 c1 c2 c3 c4 c5 c6 c7 c8 c9
  have z0 := frozen_of_heap HR8.out 0
  have z1 := frozen_of_heap HR8.out 1
  have z2 := frozen_of_heap HR8.out 2
  have z3 := frozen_of_heap HR8.out 3
  have z4 := frozen_of_heap HR8.out 4
  have z5 := frozen_of_heap HR8.out 5
  have z6 := frozen_of_heap HR8.out 6
  have z7 := frozen_of_heap HR8.out 7
  have z8 := frozen_of_heap HR8.out 8
  have z9 := frozen_of_heap HR8.out 9
  go_wp2_with fail
  refine heap_use HR8.out (.slice none 0 0) ⟨0, 0, 0, 0, 0, 0, 0, 0, 0⟩ _ ?_
  intro W7 hL hb7 _ _
  obtain ⟨y0, y1, y2, y3, y4, y5, y6, y7, y8, y9⟩ := hL.cells
  dsimp only at y0 y1 y2 y3 y4 y5 y6 y7 y8 y9
  exact bodyPost_ret (v := .tuple #[noHeap, .int .i64 0, .bool false]) (by simp [results, Try.results23, go_sem, y0, y1, y2, y3, y4, y5, y6, y7, y8, y9, noHeap, heapV]) rfl ⟨rfl, HB8.out.trans (hb7 _ (Nat.le_succ _))⟩

end Go.Proofs.Ytnoobonlmfgfhaa
