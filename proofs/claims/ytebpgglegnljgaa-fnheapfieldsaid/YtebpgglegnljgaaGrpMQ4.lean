/- The program's HeapField: what is read. -/
import Derived.Test.YtebpgglegnljgaaGrpMQ3
import Derived.Test.YtebpgglegnljgaaHeapFacts
import Derived.Test.YtebpgglegnljgaaGrpMQ0
import Derived.Test.YtebpgglegnljgaaGrpMQ1
import Derived.Test.YtebpgglegnljgaaScanStart
import Derived.Test.YtebpgglegnljgaaGrpMQ2
import Derived.Test.YtebpgglegnljgaaIntRows
import Derived.Test.YtebpgglegnljgaaSpecWkB
import Derived.Test.YtebpgglegnljgaaRows
import Derived.WalkKit
import Derived.ProofKit
import Derived.OpenShut
namespace Go.Proofs.Ytebpgglegnljgaa
open Go.RowKit

/-- A heap is told, and a field. -/
def FieldTold (N : Nat) (w : World) (ws : List Int) (h1 : HpN) (u : Int) (e : Ending) (w' : World) : Prop :=
  ∃ bw cap' : Nat, e = .returned (.tuple #[heapV (.slice (some ⟨bw, 0, none⟩) N cap') h1, .int .i64 u, .bool true]) ∧ CellRow 3 w' bw N (intCells ws) ∧ w.heap.size ≤ bw ∧ Below w.heap.size w w'

set_option maxHeartbeats 8000000 in
set_option maxRecDepth 100000 in
theorem iField_good (b off cap N : Nat) (h : HpN) (x i : Int) (w : World)
    (ws S : List Int)
    (k : Nat) (hk : k < N) (n : Int) (HSk : Hid (S.getD k 0 = n)) (hn0 : 0 ≤ n) (hn1 : n ≤ 6) (hd : decide (i < 0) = false) (hi1 : i < n - 1)
    (hN8 : N ≤ 8000) (hi0 : 0 ≤ i) (u : Int) (s0 s1 : CN) (h1 : HpN)
    (HLy : Hid (∀ X, Below w.heap.size w X → Calls Try.prog 30 #[heapV (.slice (some ⟨b, off, none⟩) N cap) h] X fun e w' => ∃ gb, e = .returned (.tuple #[layV (.slice (some ⟨b, off, none⟩) N cap) h (.slice (some ⟨gb, 0, none⟩) N N), .bool true]) ∧ Hid (ISt b off gb N ws S w') ∧ Below X.heap.size X w'))
    (HLd : Hid (∀ (X : World) (gb : Nat), ISt b off gb N ws S X → Calls Try.prog 51 #[layV (.slice (some ⟨b, off, none⟩) N cap) h (.slice (some ⟨gb, 0, none⟩) N N), .int .i64 x, .int .i64 h.to] X fun e w' => e = .returned (.bool true) ∧ Below X.heap.size X w'))
    (HNum : Hid (∀ w, Calls Try.prog 52 #[.int .i64 x] w fun e w' => e = .returned (.int .i64 (k : Int)) ∧ w = w'))
    (HOp : Hid (∀ X, Below w.heap.size w X → Calls Try.prog 42 #[heapV (.slice (some ⟨b, off, none⟩) N cap) h] X fun e w' => ∃ bc bw cap' : Nat, e = .returned (.pointer (some ⟨bc, 0, none⟩)) ∧ Col X bc bw N cap' s0.ws s0.h s0.r s0.t w' ∧ X.heap.size ≤ bc ∧ X.heap.size ≤ bw))
    (HFd : Hid (∀ (X w0 : World) (bc bw cap' : Nat), Col w0 bc bw N cap' s0.ws s0.h s0.r s0.t X → Calls Try.prog 53 #[.pointer (some ⟨bc, 0, none⟩), .int .i64 ((k : Int) + 1 + i)] X fun e w' => e = .returned (.tuple #[.int .i64 u, .bool true]) ∧ Col w0 bc bw N cap' s1.ws s1.h s1.r s1.t w'))
    (HTd : Hid (∀ (X w0 : World) (bc bw cap' : Nat), Col w0 bc bw N cap' s1.ws s1.h s1.r s1.t X → Calls Try.prog 45 #[.pointer (some ⟨bc, 0, none⟩)] X fun e w' => e = .returned (heapV (.slice (some ⟨bw, 0, none⟩) N cap') h1) ∧ Below X.heap.size X w')) :
    Calls Try.prog 21 #[heapV (.slice (some ⟨b, off, none⟩) N cap) h, .int .i64 x, .int .i64 i] w (FieldTold N w s1.ws h1 u) := by
  obtain ⟨g1, g2, g3, g4, g5, g6, g7, g8, g9⟩ := h
  unfold heapV at *
  dsimp only at *
  obtain ⟨W0, hW0, hA, hR, k2⟩ := both_new w (.slice (some ⟨b, off, none⟩) N cap) ⟨g1, g2, g3, g4, g5, g6, g7, g8, g9⟩
  dsimp only at hW0
  have HW0 := hid hW0
  have HA := hid hA
  have HR := hid hR
  have HK2 := hid k2
  clear hW0 hA hR k2
  go_enter Try.func21, Try.ntmps21
  go_wp2_with fail
  rw [HW0.out]
  refine (HLy.out _ HK2.out).mono ?_
  rintro e W1 ⟨gb, rfl, HI, hb1⟩
  unfold layV at *
  dsimp only at *
  have k1 := HK2.out.trans (hb1.mono HK2.out.size)
  have HB2 := hid (k1.alloc k1.size (.cells #[.slice (some ⟨b, off, none⟩) N cap, .int .i64 g1, .int .i64 g2, .int .i64 g3, .int .i64 g4, .int .i64 g5, .int .i64 g6, .int .i64 g7, .int .i64 g8, .int .i64 g9, .slice (some ⟨gb, 0, none⟩) N N] 58))
  have HR2 := hid ((HR.out.below hb1).below ((Below.refl _ W1).alloc (Nat.le_refl _) (.cells #[.slice (some ⟨b, off, none⟩) N cap, .int .i64 g1, .int .i64 g2, .int .i64 g3, .int .i64 g4, .int .i64 g5, .int .i64 g6, .int .i64 g7, .int .i64 g8, .int .i64 g9, .slice (some ⟨gb, 0, none⟩) N N] 58)))
  have HA2 := hid ((HA.out.below hb1).below ((Below.refl _ W1).alloc (Nat.le_refl _) (.cells #[.slice (some ⟨b, off, none⟩) N cap, .int .i64 g1, .int .i64 g2, .int .i64 g3, .int .i64 g4, .int .i64 g5, .int .i64 g6, .int .i64 g7, .int .i64 g8, .int .i64 g9, .slice (some ⟨gb, 0, none⟩) N N] 58)))
  have HI2 := hid (HI.out.kept ((Below.refl _ W1).alloc (Nat.le_refl _) (.cells #[.slice (some ⟨b, off, none⟩) N cap, .int .i64 g1, .int .i64 g2, .int .i64 g3, .int .i64 g4, .int .i64 g5, .int .i64 g6, .int .i64 g7, .int .i64 g8, .int .i64 g9, .slice (some ⟨gb, 0, none⟩) N N] 58)))
  have hLB := LayBlk.new W1 (.slice (some ⟨b, off, none⟩) N cap) ⟨g1, g2, g3, g4, g5, g6, g7, g8, g9⟩ (.slice (some ⟨gb, 0, none⟩) N N)
  dsimp only at hLB
  clear k1 hb1 HW0 HA HR HK2 HLy HI
  go_wp2_with fail
  generalize W1.alloc (.cells #[.slice (some ⟨b, off, none⟩) N cap, .int .i64 g1, .int .i64 g2, .int .i64 g3, .int .i64 g4, .int .i64 g5, .int .i64 g6, .int .i64 g7, .int .i64 g8, .int .i64 g9, .slice (some ⟨gb, 0, none⟩) N N] 58) = W2 at *
  obtain ⟨v0, v1, v2, v3, v4, v5, v6, v7, v8, v9, v10⟩ := hLB.later (B := W2.heap.size) (heap_lt hLB)
  dsimp only at v0 v1 v2 v3 v4 v5 v6 v7 v8 v9 v10
  have HLB := hid hLB
  clear hLB
  have u1 : ∀ y : Later W2.heap.size W2, y.w.cell? ⟨gb, k, none⟩ = some (.int .i64 n) := fun y => by
    have e := y.cell (p := ⟨gb, 0 + k, none⟩) HI2.out.glt (HI2.out.sizes k hk)
    rw [Nat.zero_add, HSk.out] at e
    exact e
  refine wp_region_calm W2.heap.size (by kernel_rfl) (by kernel_rfl) ?_
  repeat (go_big_quiet_step (first | (rename_i y; go_at_call 51; refine (HLd.out _ _ (HI2.out.kept y.h)).mono ?_; rintro e w5 ⟨rfl, hb5⟩; exact ⟨rfl, ⟨w5, y.h.trans (hb5.mono y.h.size)⟩, rfl⟩) | (rename_i y; go_at_call 52; refine (HNum.out _).mono ?_; rintro e w5 ⟨rfl, rfl⟩; exact ⟨rfl, y, rfl⟩)))
  refine wpQuiet_nil ?_
  rintro w6 ⟨y, rfl⟩
  have HB6 := hid (HB2.out.trans (y.h.mono HB2.out.size))
  have HR6 := hid (HR2.out.below y.h)
  have HA6 := hid (HA2.out.below y.h)
  have HI6 := hid (HI2.out.kept y.h)
  clear u1 v0 v1 v2 v3 v4 v5 v6 v7 v8 v9 v10
  generalize y.w = W6 at *
  obtain ⟨c0, c1, c2, c3, c4, c5, c6, c7, c8, c9⟩ := HA6.out.cells
  dsimp only at c0 c1 c2 c3 c4 c5 c6 c7 c8 c9
  go_wp2_with fail
  refine (HOp.out _ HB6.out).mono ?_
  rintro e W7 ⟨bc, bw, cap', rfl, hW7, hlo, hlo2⟩
  have HW7 := hid hW7
  have hlt6 := heap_lt HR6.out
  clear hW7 HOp HA6 c0 c1 c2 c3 c4 c5 c6 c7 c8 c9
  go_wp2_with fail
  refine (HNum.out _).mono ?_
  rintro e W7b ⟨rfl, rfl⟩
  go_wp2_with fail
  refine (HFd.out _ _ _ _ _ HW7.out).mono ?_
  rintro e W8 ⟨rfl, hW8⟩
  have HW8 := hid hW8
  clear hW8 HFd HW7
  obtain ⟨i1, i2, i3, i4, i5, i6, i7, i8, i9⟩ := h1
  dsimp only at HTd
  go_wp2_with fail
  refine (HTd.out _ _ _ _ _ HW8.out).mono ?_
  rintro e W9 ⟨rfl, hb9⟩
  have HW9 := hid (HW8.out.keep hb9)
  have HR9 := hid (HR6.out.below (HW9.out.frame.below hlo hlo2))
  have HB9 := hid (HB6.out.trans ((HW9.out.frame.below hlo hlo2).mono HB6.out.size))
  obtain ⟨c0, c1, c2, c3, c4, c5, c6, c7, c8, c9⟩ := HR9.out.cells
  dsimp only at c0 c1 c2 c3 c4 c5 c6 c7 c8 c9
  have z0 := frozen_of_heap HR9.out 0
  have z1 := frozen_of_heap HR9.out 1
  have z2 := frozen_of_heap HR9.out 2
  have z3 := frozen_of_heap HR9.out 3
  have z4 := frozen_of_heap HR9.out 4
  have z5 := frozen_of_heap HR9.out 5
  have z6 := frozen_of_heap HR9.out 6
  have z7 := frozen_of_heap HR9.out 7
  have z8 := frozen_of_heap HR9.out 8
  have z9 := frozen_of_heap HR9.out 9
  clear hb9 HTd HW8 HR6 HB6
  go_wp2_with fail
  refine heap_use HR9.out (.slice (some ⟨bw, 0, none⟩) N cap') ⟨i1, i2, i3, i4, i5, i6, i7, i8, i9⟩ _ ?_
  intro W10 hL hb10 _ hoth
  obtain ⟨y0, y1, y2, y3, y4, y5, y6, y7, y8, y9⟩ := hL.cells
  dsimp only at y0 y1 y2 y3 y4 y5 y6 y7 y8 y9
  exact bodyPost_ret (v := .tuple #[heapV (.slice (some ⟨bw, 0, none⟩) N cap') ⟨i1, i2, i3, i4, i5, i6, i7, i8, i9⟩, .int .i64 u, .bool true]) (by simp [results, Try.results21, go_sem, y0, y1, y2, y3, y4, y5, y6, y7, y8, y9, heapV]) rfl ⟨bw, cap', rfl, HW9.out.row.of_block (hoth _ (by omega)), by have := HB9.out.size; omega, HB9.out.trans (hb10 _ (Nat.le_succ _))⟩

set_option maxHeartbeats 8000000 in
set_option maxRecDepth 100000 in
theorem iField_full (b off cap N : Nat) (h : HpN) (x i : Int) (w : World)
    (ws S : List Int)
    (k : Nat) (hk : k < N) (n : Int) (HSk : Hid (S.getD k 0 = n)) (hn0 : 0 ≤ n) (hn1 : n ≤ 6) (hd : decide (i < 0) = false) (hi1 : i < n - 1)
    (hN8 : N ≤ 8000) (hi0 : 0 ≤ i) (s0 s1 : CN)
    (HLy : Hid (∀ X, Below w.heap.size w X → Calls Try.prog 30 #[heapV (.slice (some ⟨b, off, none⟩) N cap) h] X fun e w' => ∃ gb, e = .returned (.tuple #[layV (.slice (some ⟨b, off, none⟩) N cap) h (.slice (some ⟨gb, 0, none⟩) N N), .bool true]) ∧ Hid (ISt b off gb N ws S w') ∧ Below X.heap.size X w'))
    (HLd : Hid (∀ (X : World) (gb : Nat), ISt b off gb N ws S X → Calls Try.prog 51 #[layV (.slice (some ⟨b, off, none⟩) N cap) h (.slice (some ⟨gb, 0, none⟩) N N), .int .i64 x, .int .i64 h.to] X fun e w' => e = .returned (.bool true) ∧ Below X.heap.size X w'))
    (HNum : Hid (∀ w, Calls Try.prog 52 #[.int .i64 x] w fun e w' => e = .returned (.int .i64 (k : Int)) ∧ w = w'))
    (HOp : Hid (∀ X, Below w.heap.size w X → Calls Try.prog 42 #[heapV (.slice (some ⟨b, off, none⟩) N cap) h] X fun e w' => ∃ bc bw cap' : Nat, e = .returned (.pointer (some ⟨bc, 0, none⟩)) ∧ Col X bc bw N cap' s0.ws s0.h s0.r s0.t w' ∧ X.heap.size ≤ bc ∧ X.heap.size ≤ bw))
    (HFd : Hid (∀ (X w0 : World) (bc bw cap' : Nat), Col w0 bc bw N cap' s0.ws s0.h s0.r s0.t X → Calls Try.prog 53 #[.pointer (some ⟨bc, 0, none⟩), .int .i64 ((k : Int) + 1 + i)] X fun e w' => e = .returned (.tuple #[.int .i64 0, .bool false]) ∧ Col w0 bc bw N cap' s1.ws s1.h s1.r s1.t w')) :
    Calls Try.prog 21 #[heapV (.slice (some ⟨b, off, none⟩) N cap) h, .int .i64 x, .int .i64 i] w fun e w' => e = .returned (.tuple #[noHeap, .int .i64 0, .bool false]) ∧ Below w.heap.size w w' := by
  obtain ⟨g1, g2, g3, g4, g5, g6, g7, g8, g9⟩ := h
  unfold heapV at *
  dsimp only at *
  obtain ⟨W0, hW0, hA, hR, k2⟩ := both_new w (.slice (some ⟨b, off, none⟩) N cap) ⟨g1, g2, g3, g4, g5, g6, g7, g8, g9⟩
  dsimp only at hW0
  have HW0 := hid hW0
  have HA := hid hA
  have HR := hid hR
  have HK2 := hid k2
  clear hW0 hA hR k2
  go_enter Try.func21, Try.ntmps21
  go_wp2_with fail
  rw [HW0.out]
  refine (HLy.out _ HK2.out).mono ?_
  rintro e W1 ⟨gb, rfl, HI, hb1⟩
  unfold layV at *
  dsimp only at *
  have k1 := HK2.out.trans (hb1.mono HK2.out.size)
  have HB2 := hid (k1.alloc k1.size (.cells #[.slice (some ⟨b, off, none⟩) N cap, .int .i64 g1, .int .i64 g2, .int .i64 g3, .int .i64 g4, .int .i64 g5, .int .i64 g6, .int .i64 g7, .int .i64 g8, .int .i64 g9, .slice (some ⟨gb, 0, none⟩) N N] 58))
  have HR2 := hid ((HR.out.below hb1).below ((Below.refl _ W1).alloc (Nat.le_refl _) (.cells #[.slice (some ⟨b, off, none⟩) N cap, .int .i64 g1, .int .i64 g2, .int .i64 g3, .int .i64 g4, .int .i64 g5, .int .i64 g6, .int .i64 g7, .int .i64 g8, .int .i64 g9, .slice (some ⟨gb, 0, none⟩) N N] 58)))
  have HA2 := hid ((HA.out.below hb1).below ((Below.refl _ W1).alloc (Nat.le_refl _) (.cells #[.slice (some ⟨b, off, none⟩) N cap, .int .i64 g1, .int .i64 g2, .int .i64 g3, .int .i64 g4, .int .i64 g5, .int .i64 g6, .int .i64 g7, .int .i64 g8, .int .i64 g9, .slice (some ⟨gb, 0, none⟩) N N] 58)))
  have HI2 := hid (HI.out.kept ((Below.refl _ W1).alloc (Nat.le_refl _) (.cells #[.slice (some ⟨b, off, none⟩) N cap, .int .i64 g1, .int .i64 g2, .int .i64 g3, .int .i64 g4, .int .i64 g5, .int .i64 g6, .int .i64 g7, .int .i64 g8, .int .i64 g9, .slice (some ⟨gb, 0, none⟩) N N] 58)))
  have hLB := LayBlk.new W1 (.slice (some ⟨b, off, none⟩) N cap) ⟨g1, g2, g3, g4, g5, g6, g7, g8, g9⟩ (.slice (some ⟨gb, 0, none⟩) N N)
  dsimp only at hLB
  clear k1 hb1 HW0 HA HR HK2 HLy HI
  go_wp2_with fail
  generalize W1.alloc (.cells #[.slice (some ⟨b, off, none⟩) N cap, .int .i64 g1, .int .i64 g2, .int .i64 g3, .int .i64 g4, .int .i64 g5, .int .i64 g6, .int .i64 g7, .int .i64 g8, .int .i64 g9, .slice (some ⟨gb, 0, none⟩) N N] 58) = W2 at *
  obtain ⟨v0, v1, v2, v3, v4, v5, v6, v7, v8, v9, v10⟩ := hLB.later (B := W2.heap.size) (heap_lt hLB)
  dsimp only at v0 v1 v2 v3 v4 v5 v6 v7 v8 v9 v10
  have HLB := hid hLB
  clear hLB
  have u1 : ∀ y : Later W2.heap.size W2, y.w.cell? ⟨gb, k, none⟩ = some (.int .i64 n) := fun y => by
    have e := y.cell (p := ⟨gb, 0 + k, none⟩) HI2.out.glt (HI2.out.sizes k hk)
    rw [Nat.zero_add, HSk.out] at e
    exact e
  refine wp_region_calm W2.heap.size (by kernel_rfl) (by kernel_rfl) ?_
  repeat (go_big_quiet_step (first | (rename_i y; go_at_call 51; refine (HLd.out _ _ (HI2.out.kept y.h)).mono ?_; rintro e w5 ⟨rfl, hb5⟩; exact ⟨rfl, ⟨w5, y.h.trans (hb5.mono y.h.size)⟩, rfl⟩) | (rename_i y; go_at_call 52; refine (HNum.out _).mono ?_; rintro e w5 ⟨rfl, rfl⟩; exact ⟨rfl, y, rfl⟩)))
  refine wpQuiet_nil ?_
  rintro w6 ⟨y, rfl⟩
  have HB6 := hid (HB2.out.trans (y.h.mono HB2.out.size))
  have HR6 := hid (HR2.out.below y.h)
  have HA6 := hid (HA2.out.below y.h)
  have HI6 := hid (HI2.out.kept y.h)
  clear u1 v0 v1 v2 v3 v4 v5 v6 v7 v8 v9 v10
  generalize y.w = W6 at *
  obtain ⟨c0, c1, c2, c3, c4, c5, c6, c7, c8, c9⟩ := HA6.out.cells
  dsimp only at c0 c1 c2 c3 c4 c5 c6 c7 c8 c9
  go_wp2_with fail
  refine (HOp.out _ HB6.out).mono ?_
  rintro e W7 ⟨bc, bw, cap', rfl, hW7, hlo, hlo2⟩
  have HW7 := hid hW7
  have hlt6 := heap_lt HR6.out
  clear hW7 HOp HA6 c0 c1 c2 c3 c4 c5 c6 c7 c8 c9
  go_wp2_with fail
  refine (HNum.out _).mono ?_
  rintro e W7b ⟨rfl, rfl⟩
  go_wp2_with fail
  refine (HFd.out _ _ _ _ _ HW7.out).mono ?_
  rintro e W8 ⟨rfl, hW8⟩
  have HW8 := hid hW8
  clear hW8 HFd HW7
  have HB8 := hid (HB6.out.trans ((HW8.out.frame.below hlo hlo2).mono HB6.out.size))
  have HR8 := hid (HR6.out.below (HW8.out.frame.below hlo hlo2))
  clear HR6 HB6
  obtain ⟨c0, c1, c2, c3, c4, c5, c6, c7, c8, c9⟩ := HR8.out.cells
  dsimp only at c0 c1 c2 c3 c4 c5 c6 c7 c8 c9
  have z0 := frozen_of_heap HR8.out 0
  have z1 := frozen_of_heap HR8.out 1
  have z2 := frozen_of_heap HR8.out 2
  have z3 := frozen_of_heap HR8.out 3
  have z4 := frozen_of_heap HR8.out 4
  have z5 := frozen_of_heap HR8.out 5
  have z6 := frozen_of_heap HR8.out 6
  have z7 := frozen_of_heap HR8.out 7
  have z8 := frozen_of_heap HR8.out 8
  have z9 := frozen_of_heap HR8.out 9
  go_wp2_with fail
  refine heap_use HR8.out (.slice none 0 0) ⟨0, 0, 0, 0, 0, 0, 0, 0, 0⟩ _ ?_
  intro W7 hL hb7 _ _
  obtain ⟨y0, y1, y2, y3, y4, y5, y6, y7, y8, y9⟩ := hL.cells
  dsimp only at y0 y1 y2 y3 y4 y5 y6 y7 y8 y9
  exact bodyPost_ret (v := .tuple #[noHeap, .int .i64 0, .bool false]) (by simp [results, Try.results21, go_sem, y0, y1, y2, y3, y4, y5, y6, y7, y8, y9, noHeap, heapV]) rfl ⟨rfl, HB8.out.trans (hb7 _ (Nat.le_succ _))⟩

end Go.Proofs.Ytebpgglegnljgaa

/- The program's read of a field, told with the room of its words. -/
namespace Go.Proofs.Ytebpgglegnljgaa
open Go.RowKit

set_option maxHeartbeats 1000000 in
set_option maxRecDepth 100000 in
theorem collectorOf_cap (b off cap N : Nat) (ws : List Int) (h : HpN) (w : World) (hN0 : 0 < N) (hl : ws.length = N) (hN : N ≤ 8000) (hb : b < w.heap.size)
    (hw : ∀ k, k < N → w.cell? ⟨b, off + k, none⟩ = some (.int .i64 (ws.getD k 0))) :
    Calls Try.prog 42 #[heapV (.slice (some ⟨b, off, none⟩) N cap) h] w fun e w' => ∃ bc bw cap' : Nat, e = .returned (.pointer (some ⟨bc, 0, none⟩)) ∧ (Col w bc bw N cap' ws h 0 0 w' ∧ N ≤ cap') ∧ w.heap.size ≤ bc ∧ w.heap.size ≤ bw := by
  have HCl := hid (fun (X : World) (hX : Below w.heap.size w X) => Try.slices_Clone_int b off N cap ws X (by omega) (by omega) (fun j hj => (hX.cell (p := ⟨b, off + j, none⟩) hb).trans (hw j (by omega))))
  clear hw
  obtain ⟨g1, g2, g3, g4, g5, g6, g7, g8, g9⟩ := h
  unfold heapV
  dsimp only
  go_enter Try.func42, Try.ntmps42
  go_wp2_with fail
  refine (HCl.out _ (by first | exact (Below.refl _ _).alloc (Nat.le_refl _) _ | exact ((Below.refl _ _).alloc (Nat.le_refl _) _).drew)).mono ?_
  rintro e W1 ⟨v', rfl, how, hv0, hb1⟩
  have hH : HeapBlk W1 w.heap.size (.slice (some ⟨b, off, none⟩) N cap) ⟨g1, g2, g3, g4, g5, g6, g7, g8, g9⟩ := (hb1.block w.heap.size (by simp)).trans ((MapKept.heap_alloc w _).1)
  obtain ⟨hxl, hh | ⟨g, cp, cur, rfl, hg, hcur, hcp, -, hcs, htk⟩⟩ := how
  · exact absurd hh.1 hv0
  have hbl : Below w.heap.size w W1 := one_below hb1
  obtain ⟨c0, c1, c2, c3, c4, c5, c6, c7, c8, c9⟩ := hH.cells
  dsimp only at c0 c1 c2 c3 c4 c5 c6 c7 c8 c9
  have f0 := frozen_of_heap hH 0
  have HB := hid hbl
  have HCur := hid hcur
  have HG : Hid (w.heap.size < g) := by have := hg; simp at this; exact this
  have HH := hid hH
  clear hb1 hbl hcur hg hH HCl hv0 hxl
  go_wp2_with fail
  go_ret
  have hrow : CellRow 3 W1 g N (intCells ws) := by
    refine ⟨cp, fun i => (cur[i]?).getD undef, ⟨cur, (0, 0), HCur.out, by omega, fun i hi => ?_, Or.inl rfl⟩, hcp, fun i hi => ?_⟩
    · have e := Array.getElem?_eq_getElem (xs := cur) (i := i) (by omega)
      dsimp only
      rw [e]
      rfl
    · have e : (cur.toList.take (N * 1))[i]? = (List.map (Value.int IntKind.i64) (List.take N ws))[i]? := by rw [htk]
      rw [Nat.mul_one, List.getElem?_take_of_lt hi, List.getElem?_map, List.getElem?_take_of_lt hi, Array.getElem?_toList, List.getElem?_eq_getElem (by omega)] at e
      dsimp only
      rw [e]
      simp [intCells, List.getD, hl, hi]
  have hs : (W1.setCell ⟨w.heap.size, 0, none⟩ (.slice (some ⟨g, 0, none⟩) N cp)).heap.size = W1.heap.size := by simp [World.setCell]
  have hgl := hrow.lt
  have hsz := HB.out.size
  refine ⟨W1.heap.size, g, cp, rfl, ⟨⟨?_, ?_, hl, by omega, Frm.of_below ((HB.out.setCell (Nat.le_refl _) _).alloc (by rw [hs]; exact hsz) _)⟩, hcp⟩, hsz, Nat.le_of_lt HG.out⟩
  · have e := (MapKept.heap_alloc (W1.setCell ⟨w.heap.size, 0, none⟩ (.slice (some ⟨g, 0, none⟩) N cp)) (.cells #[.slice (some ⟨g, 0, none⟩) N cp, .int .i64 g1, .int .i64 g2, .int .i64 g3, .int .i64 g4, .int .i64 g5, .int .i64 g6, .int .i64 g7, .int .i64 g8, .int .i64 g9, .int .i64 0, .int .i64 0] 102)).1
    rw [hs] at e
    exact e
  · refine hrow.of_block ?_
    have e1 := ((Below.refl (W1.setCell ⟨w.heap.size, 0, none⟩ (.slice (some ⟨g, 0, none⟩) N cp)).heap.size _).alloc (Nat.le_refl _) (.cells #[.slice (some ⟨g, 0, none⟩) N cp, .int .i64 g1, .int .i64 g2, .int .i64 g3, .int .i64 g4, .int .i64 g5, .int .i64 g6, .int .i64 g7, .int .i64 g8, .int .i64 g9, .int .i64 0, .int .i64 0] 102)).block g (by rw [hs]; exact hgl)
    exact e1.trans (Below.heap_setCell _ _ _ _ (by have := HG.out; dsimp only; omega))

/-- A heap, its words with room, and a number are told. -/
def FieldToldC (N : Nat) (w : World) (ws : List Int) (h1 : HpN) (u : Int) (e : Ending) (w' : World) : Prop :=
  (∃ bw cap' : Nat, e = .returned (.tuple #[heapV (.slice (some ⟨bw, 0, none⟩) N cap') h1, .int .i64 u, .bool true]) ∧ CellRow 3 w' bw N (intCells ws) ∧ w.heap.size ≤ bw ∧ Below w.heap.size w w' ∧ N ≤ cap')

set_option maxHeartbeats 8000000 in
set_option maxRecDepth 100000 in
theorem iField_goodC (b off cap N : Nat) (h : HpN) (x i : Int) (w : World)
    (ws S : List Int)
    (k : Nat) (hk : k < N) (n : Int) (HSk : Hid (S.getD k 0 = n)) (hn0 : 0 ≤ n) (hn1 : n ≤ 6) (hd : decide (i < 0) = false) (hi1 : i < n - 1)
    (hN8 : N ≤ 8000) (hi0 : 0 ≤ i) (u : Int) (s0 s1 : CN) (h1 : HpN)
    (HLy : Hid (∀ X, Below w.heap.size w X → Calls Try.prog 30 #[heapV (.slice (some ⟨b, off, none⟩) N cap) h] X fun e w' => ∃ gb, e = .returned (.tuple #[layV (.slice (some ⟨b, off, none⟩) N cap) h (.slice (some ⟨gb, 0, none⟩) N N), .bool true]) ∧ Hid (ISt b off gb N ws S w') ∧ Below X.heap.size X w'))
    (HLd : Hid (∀ (X : World) (gb : Nat), ISt b off gb N ws S X → Calls Try.prog 51 #[layV (.slice (some ⟨b, off, none⟩) N cap) h (.slice (some ⟨gb, 0, none⟩) N N), .int .i64 x, .int .i64 h.to] X fun e w' => e = .returned (.bool true) ∧ Below X.heap.size X w'))
    (HNum : Hid (∀ w, Calls Try.prog 52 #[.int .i64 x] w fun e w' => e = .returned (.int .i64 (k : Int)) ∧ w = w'))
    (HOp : Hid (∀ X, Below w.heap.size w X → Calls Try.prog 42 #[heapV (.slice (some ⟨b, off, none⟩) N cap) h] X fun e w' => ∃ bc bw cap' : Nat, e = .returned (.pointer (some ⟨bc, 0, none⟩)) ∧ (Col X bc bw N cap' s0.ws s0.h s0.r s0.t w' ∧ N ≤ cap') ∧ X.heap.size ≤ bc ∧ X.heap.size ≤ bw))
    (HFd : Hid (∀ (X w0 : World) (bc bw cap' : Nat), Col w0 bc bw N cap' s0.ws s0.h s0.r s0.t X → Calls Try.prog 53 #[.pointer (some ⟨bc, 0, none⟩), .int .i64 ((k : Int) + 1 + i)] X fun e w' => e = .returned (.tuple #[.int .i64 u, .bool true]) ∧ Col w0 bc bw N cap' s1.ws s1.h s1.r s1.t w'))
    (HTd : Hid (∀ (X w0 : World) (bc bw cap' : Nat), Col w0 bc bw N cap' s1.ws s1.h s1.r s1.t X → Calls Try.prog 45 #[.pointer (some ⟨bc, 0, none⟩)] X fun e w' => e = .returned (heapV (.slice (some ⟨bw, 0, none⟩) N cap') h1) ∧ Below X.heap.size X w')) :
    Calls Try.prog 21 #[heapV (.slice (some ⟨b, off, none⟩) N cap) h, .int .i64 x, .int .i64 i] w (FieldToldC N w s1.ws h1 u) := by
  obtain ⟨g1, g2, g3, g4, g5, g6, g7, g8, g9⟩ := h
  unfold heapV at *
  dsimp only at *
  obtain ⟨W0, hW0, hA, hR, k2⟩ := both_new w (.slice (some ⟨b, off, none⟩) N cap) ⟨g1, g2, g3, g4, g5, g6, g7, g8, g9⟩
  dsimp only at hW0
  have HW0 := hid hW0
  have HA := hid hA
  have HR := hid hR
  have HK2 := hid k2
  clear hW0 hA hR k2
  go_enter Try.func21, Try.ntmps21
  go_wp2_with fail
  rw [HW0.out]
  refine (HLy.out _ HK2.out).mono ?_
  rintro e W1 ⟨gb, rfl, HI, hb1⟩
  unfold layV at *
  dsimp only at *
  have k1 := HK2.out.trans (hb1.mono HK2.out.size)
  have HB2 := hid (k1.alloc k1.size (.cells #[.slice (some ⟨b, off, none⟩) N cap, .int .i64 g1, .int .i64 g2, .int .i64 g3, .int .i64 g4, .int .i64 g5, .int .i64 g6, .int .i64 g7, .int .i64 g8, .int .i64 g9, .slice (some ⟨gb, 0, none⟩) N N] 58))
  have HR2 := hid ((HR.out.below hb1).below ((Below.refl _ W1).alloc (Nat.le_refl _) (.cells #[.slice (some ⟨b, off, none⟩) N cap, .int .i64 g1, .int .i64 g2, .int .i64 g3, .int .i64 g4, .int .i64 g5, .int .i64 g6, .int .i64 g7, .int .i64 g8, .int .i64 g9, .slice (some ⟨gb, 0, none⟩) N N] 58)))
  have HA2 := hid ((HA.out.below hb1).below ((Below.refl _ W1).alloc (Nat.le_refl _) (.cells #[.slice (some ⟨b, off, none⟩) N cap, .int .i64 g1, .int .i64 g2, .int .i64 g3, .int .i64 g4, .int .i64 g5, .int .i64 g6, .int .i64 g7, .int .i64 g8, .int .i64 g9, .slice (some ⟨gb, 0, none⟩) N N] 58)))
  have HI2 := hid (HI.out.kept ((Below.refl _ W1).alloc (Nat.le_refl _) (.cells #[.slice (some ⟨b, off, none⟩) N cap, .int .i64 g1, .int .i64 g2, .int .i64 g3, .int .i64 g4, .int .i64 g5, .int .i64 g6, .int .i64 g7, .int .i64 g8, .int .i64 g9, .slice (some ⟨gb, 0, none⟩) N N] 58)))
  have hLB := LayBlk.new W1 (.slice (some ⟨b, off, none⟩) N cap) ⟨g1, g2, g3, g4, g5, g6, g7, g8, g9⟩ (.slice (some ⟨gb, 0, none⟩) N N)
  dsimp only at hLB
  clear k1 hb1 HW0 HA HR HK2 HLy HI
  go_wp2_with fail
  generalize W1.alloc (.cells #[.slice (some ⟨b, off, none⟩) N cap, .int .i64 g1, .int .i64 g2, .int .i64 g3, .int .i64 g4, .int .i64 g5, .int .i64 g6, .int .i64 g7, .int .i64 g8, .int .i64 g9, .slice (some ⟨gb, 0, none⟩) N N] 58) = W2 at *
  obtain ⟨v0, v1, v2, v3, v4, v5, v6, v7, v8, v9, v10⟩ := hLB.later (B := W2.heap.size) (heap_lt hLB)
  dsimp only at v0 v1 v2 v3 v4 v5 v6 v7 v8 v9 v10
  have HLB := hid hLB
  clear hLB
  have u1 : ∀ y : Later W2.heap.size W2, y.w.cell? ⟨gb, k, none⟩ = some (.int .i64 n) := fun y => by
    have e := y.cell (p := ⟨gb, 0 + k, none⟩) HI2.out.glt (HI2.out.sizes k hk)
    rw [Nat.zero_add, HSk.out] at e
    exact e
  refine wp_region_calm W2.heap.size (by kernel_rfl) (by kernel_rfl) ?_
  repeat (go_big_quiet_step (first | (rename_i y; go_at_call 51; refine (HLd.out _ _ (HI2.out.kept y.h)).mono ?_; rintro e w5 ⟨rfl, hb5⟩; exact ⟨rfl, ⟨w5, y.h.trans (hb5.mono y.h.size)⟩, rfl⟩) | (rename_i y; go_at_call 52; refine (HNum.out _).mono ?_; rintro e w5 ⟨rfl, rfl⟩; exact ⟨rfl, y, rfl⟩)))
  refine wpQuiet_nil ?_
  rintro w6 ⟨y, rfl⟩
  have HB6 := hid (HB2.out.trans (y.h.mono HB2.out.size))
  have HR6 := hid (HR2.out.below y.h)
  have HA6 := hid (HA2.out.below y.h)
  have HI6 := hid (HI2.out.kept y.h)
  clear u1 v0 v1 v2 v3 v4 v5 v6 v7 v8 v9 v10
  generalize y.w = W6 at *
  obtain ⟨c0, c1, c2, c3, c4, c5, c6, c7, c8, c9⟩ := HA6.out.cells
  dsimp only at c0 c1 c2 c3 c4 c5 c6 c7 c8 c9
  go_wp2_with fail
  refine (HOp.out _ HB6.out).mono ?_
  rintro e W7 ⟨bc, bw, cap', rfl, ⟨hW7, hcp7⟩, hlo, hlo2⟩
  have HCp7 := hid hcp7
  clear hcp7
  have HW7 := hid hW7
  have hlt6 := heap_lt HR6.out
  clear hW7 HOp HA6 c0 c1 c2 c3 c4 c5 c6 c7 c8 c9
  go_wp2_with fail
  refine (HNum.out _).mono ?_
  rintro e W7b ⟨rfl, rfl⟩
  go_wp2_with fail
  refine (HFd.out _ _ _ _ _ HW7.out).mono ?_
  rintro e W8 ⟨rfl, hW8⟩
  have HW8 := hid hW8
  clear hW8 HFd HW7
  obtain ⟨i1, i2, i3, i4, i5, i6, i7, i8, i9⟩ := h1
  dsimp only at HTd
  go_wp2_with fail
  refine (HTd.out _ _ _ _ _ HW8.out).mono ?_
  rintro e W9 ⟨rfl, hb9⟩
  have HW9 := hid (HW8.out.keep hb9)
  have HR9 := hid (HR6.out.below (HW9.out.frame.below hlo hlo2))
  have HB9 := hid (HB6.out.trans ((HW9.out.frame.below hlo hlo2).mono HB6.out.size))
  obtain ⟨c0, c1, c2, c3, c4, c5, c6, c7, c8, c9⟩ := HR9.out.cells
  dsimp only at c0 c1 c2 c3 c4 c5 c6 c7 c8 c9
  have z0 := frozen_of_heap HR9.out 0
  have z1 := frozen_of_heap HR9.out 1
  have z2 := frozen_of_heap HR9.out 2
  have z3 := frozen_of_heap HR9.out 3
  have z4 := frozen_of_heap HR9.out 4
  have z5 := frozen_of_heap HR9.out 5
  have z6 := frozen_of_heap HR9.out 6
  have z7 := frozen_of_heap HR9.out 7
  have z8 := frozen_of_heap HR9.out 8
  have z9 := frozen_of_heap HR9.out 9
  clear hb9 HTd HW8 HR6 HB6
  go_wp2_with fail
  refine heap_use HR9.out (.slice (some ⟨bw, 0, none⟩) N cap') ⟨i1, i2, i3, i4, i5, i6, i7, i8, i9⟩ _ ?_
  intro W10 hL hb10 _ hoth
  obtain ⟨y0, y1, y2, y3, y4, y5, y6, y7, y8, y9⟩ := hL.cells
  dsimp only at y0 y1 y2 y3 y4 y5 y6 y7 y8 y9
  exact bodyPost_ret (v := .tuple #[heapV (.slice (some ⟨bw, 0, none⟩) N cap') ⟨i1, i2, i3, i4, i5, i6, i7, i8, i9⟩, .int .i64 u, .bool true]) (by simp [results, Try.results21, go_sem, y0, y1, y2, y3, y4, y5, y6, y7, y8, y9, heapV]) rfl ⟨bw, cap', rfl, HW9.out.row.of_block (hoth _ (by omega)), by have := HB9.out.size; omega, HB9.out.trans (hb10 _ (Nat.le_succ _)), HCp7.out⟩
end Go.Proofs.Ytebpgglegnljgaa

/- The specification's HeapField: what is read. -/
namespace Go.Proofs.Ytebpgglegnljgaa
open Go.RowKit

set_option maxHeartbeats 4000000 in
set_option maxRecDepth 100000 in
theorem sField_good (b off cap N : Nat) (h : HpN) (x i : Int) (w : World)
    (k : Nat) (hk : k < N) (hb : b < w.heap.size) (f n : Int) (HF : Hid (w.cell? ⟨b, off + k, none⟩ = some (.int .i64 f))) (hf : f / 16 = n) (hn0 : 0 ≤ n) (hn1 : n ≤ 6) (hd : decide (i < 0) = false) (hi1 : i < n - 1)
    (HOk : Hid (∀ X, Below w.heap.size w X → Calls Try.prog 35 #[heapV (.slice (some ⟨b, off, none⟩) N cap) h] X fun e w' => e = .returned (.bool true) ∧ Below X.heap.size X w'))
    (HT : Hid (∀ w, Calls Try.prog 37 #[.int .i64 x] w fun e w' => e = .returned (.int .i64 0) ∧ w = w'))
    (HRt : Hid (∀ X, Below w.heap.size w X → ∀ g, X.cell? ⟨g, 0, none⟩ = some (.int .i64 x) → Calls Try.prog 36 #[heapV (.slice (some ⟨b, off, none⟩) N cap) h, .slice (some ⟨g, 0, none⟩) 1 1] X fun e w' => e = .returned (.bool true) ∧ Below X.heap.size X w'))
    (HNum : Hid (∀ w, Calls Try.prog 54 #[.int .i64 x] w fun e w' => e = .returned (.int .i64 (k : Int)) ∧ w = w'))
    (s0 s1 : CN)
    (HOp : Hid (∀ X, Below w.heap.size w X → Calls Try.prog 46 #[heapV (.slice (some ⟨b, off, none⟩) N cap) h] X fun e w' => ∃ bm bw cap' : Nat, e = .returned (.pointer (some ⟨bm, 0, none⟩)) ∧ Wk X bm bw N cap' s0 false w' ∧ X.heap.size ≤ bm ∧ X.heap.size ≤ bw))
    (u : Int)
    (HFd : Hid (∀ (X w0 : World) (bm bw cap' : Nat), Wk w0 bm bw N cap' s0 false X → Calls Try.prog 55 #[.pointer (some ⟨bm, 0, none⟩), .int .i64 x, .int .i64 i] X fun e w' => e = .returned (.int .i64 u) ∧ Wk w0 bm bw N cap' s1 false w')) :
    Calls Try.prog 22 #[heapV (.slice (some ⟨b, off, none⟩) N cap) h, .int .i64 x, .int .i64 i] w fun e w' => ∃ bw cap' : Nat, e = .returned (.tuple #[heapV (.slice (some ⟨bw, 0, none⟩) N cap') { s1.h with touched := touchZ s1 }, .int .i64 u, .bool true]) ∧ CellRow 3 w' bw N (intCells s1.ws) ∧ w.heap.size ≤ bw ∧ Below w.heap.size w w' := by
  obtain ⟨g1, g2, g3, g4, g5, g6, g7, g8, g9⟩ := h
  unfold heapV at *
  dsimp only at *
  obtain ⟨W0, hW0, hA, hR, k2⟩ := both_new w (.slice (some ⟨b, off, none⟩) N cap) ⟨g1, g2, g3, g4, g5, g6, g7, g8, g9⟩
  dsimp only at hW0
  have HW0 := hid hW0
  clear hW0
  go_enter Try.func22, Try.ntmps22
  go_wp2_with fail
  rw [HW0.out]
  have hlt := heap_lt hA
  obtain ⟨v0, v1, v2, v3, v4, v5, v6, v7, v8, v9⟩ := hA.later (B := W0.heap.size) hlt
  dsimp only at v0 v1 v2 v3 v4 v5 v6 v7 v8 v9
  have HA := hid hA
  have HR := hid hR
  have HK2 := hid k2
  clear hA hR k2 HW0
  have KB : Hid (∀ X : Later W0.heap.size W0, Below w.heap.size w X.w ∧ w.heap.size ≤ X.w.heap.size) := fun X => by
    have k := HK2.out.trans (X.h.mono HK2.out.size)
    exact ⟨k, k.size⟩
  refine stage_begin (S := fun w' => ∃ x : Later W0.heap.size W0, w' = x.w) (by kernel_rfl) ?_
  refine stage_walk (by kernel_rfl) 11 0 _ _ (by kernel_rfl) ⟨⟨W0.drew, (Below.refl _ _).drew⟩, rfl⟩ ?_
  simp only [List.drop_zero, List.take_succ_cons, List.take_zero]
  repeat (go_big_quiet_step (first | (rename_i x; go_at_call 35; refine (HOk.out _ (KB.out x).1).mono ?_; rintro e w5 ⟨rfl, hb5⟩; exact ⟨rfl, ⟨w5, x.h.trans (hb5.mono x.h.size)⟩, rfl⟩) | (rename_i x; go_at_call 37; refine (HT.out _).mono ?_; rintro e w5 ⟨rfl, rfl⟩; exact ⟨rfl, x, rfl⟩)))
  refine wpQuiet_nil ?_
  rintro w5 ⟨x1, rfl⟩
  refine stage_make (k := 11) (v := .slice (some ⟨x1.w.heap.size, 0, none⟩) 1 1) (w1 := x1.w.alloc (.cells #[.int .i64 x] 3)) rfl (by kernel_rfl) rfl (by simp [go_sem]) ⟨⟨_, x1.h.alloc x1.h.size _⟩, rfl⟩ (by simp [go_sem]; exact rfl) ?_
  have hN0 : (x1.w.alloc (.cells #[.int .i64 x] 3)).heap[x1.w.heap.size]? = some (.cells #[.int .i64 x] 3) := (MapKept.heap_alloc x1.w _).1
  have hL1 := x1.h.alloc x1.h.size (.cells #[.int .i64 x] 3)
  generalize x1.w.alloc (.cells #[.int .i64 x] 3) = W1 at *
  refine stage_class (S' := fun w' => ∃ y : Later W1.heap.size W1, w' = y.w) (fun w' ⟨y, hy⟩ => ⟨⟨w', hL1.trans ((hy ▸ y.h).mono hL1.size)⟩, rfl⟩) ?_
  have HC1 : Hid (∀ y : Later W1.heap.size W1, y.w.cell? ⟨x1.w.heap.size, 0, none⟩ = some (.int .i64 x)) := fun y => y.cell (heap_lt hN0) (by rw [cell_of_heap hN0]; rfl)
  have KB1 : Hid (∀ y : Later W1.heap.size W1, Below w.heap.size w y.w) := fun y => (KB.out ⟨W1, hL1⟩).1.trans (y.h.mono (KB.out ⟨W1, hL1⟩).2)
  have TL : Hid (∀ y : Later W1.heap.size W1, Below W0.heap.size W0 y.w) := fun y => hL1.trans (y.h.mono hL1.size)
  have u0 : ∀ y : Later W1.heap.size W1, y.w.cell? ⟨w.heap.size, 0, none⟩ = some (.slice (some ⟨b, off, none⟩) N cap) := fun y => v0 ⟨y.w, TL.out y⟩
  have u1 : ∀ y : Later W1.heap.size W1, y.w.cell? ⟨b, off + k, none⟩ = some (.int .i64 f) := fun y => ((KB1.out y).cell (p := ⟨b, off + k, none⟩) hb).trans HF.out
  clear v0 v1 v2 v3 v4 v5 v6 v7 v8 v9 hN0
  refine stage_walk (by kernel_rfl) 19 12 _ _ (by kernel_rfl) ⟨⟨W1, Below.refl _ _⟩, rfl⟩ ?_
  simp only [List.drop_zero, List.drop_succ_cons, List.take_succ_cons, List.take_zero]
  repeat (go_big_quiet_step (first | (rename_i y; go_at_call 36; refine (HRt.out _ (KB1.out y) _ (HC1.out y)).mono ?_; rintro e w5 ⟨rfl, hb5⟩; exact ⟨rfl, ⟨w5, y.h.trans (hb5.mono y.h.size)⟩, rfl⟩) | (rename_i y; go_at_call 54; refine (HNum.out _).mono ?_; rintro e w5 ⟨rfl, rfl⟩; exact ⟨rfl, y, rfl⟩)))
  refine wpQuiet_nil ?_
  rintro w6 ⟨y, rfl⟩
  refine stage_end (by kernel_rfl) ?_
  have HB6 := hid (KB1.out y)
  have HR6 := hid (HR.out.below (TL.out y))
  have HA6 := hid (HA.out.below (TL.out y))
  clear u0 u1 HC1 KB1 TL hL1
  generalize y.w = W6 at *
  obtain ⟨c0, c1, c2, c3, c4, c5, c6, c7, c8, c9⟩ := HA6.out.cells
  dsimp only at c0 c1 c2 c3 c4 c5 c6 c7 c8 c9
  go_wp2_with fail
  refine (HOp.out _ HB6.out).mono ?_
  rintro e W7 ⟨bm, bw, cap', rfl, hW7, hlo, hlo2⟩
  have HW7 := hid hW7
  have HB7 := hid (HB6.out.trans ((hW7.frame.below hlo hlo2).mono HB6.out.size))
  have hlt6 := heap_lt HR6.out
  clear hW7 HOp HA6 c0 c1 c2 c3 c4 c5 c6 c7 c8 c9
  go_wp2_with fail
  refine (HFd.out _ _ _ _ _ HW7.out).mono ?_
  rintro e W8 ⟨rfl, hW8⟩
  have HW8 := hid hW8
  have HR8 := hid (HR6.out.below (HW8.out.frame.below hlo hlo2))
  have HB8 := hid (HB6.out.trans ((HW8.out.frame.below hlo hlo2).mono HB6.out.size))
  obtain ⟨d0, d1, d2, d3, d4, d5, d6, d7, d8, d9, d10⟩ := HW8.out.blk.cells
  obtain ⟨tau, htau⟩ : ∃ tau, touchZ s1 = tau := ⟨_, rfl⟩
  rw [htau] at d9
  have HTau := hid htau
  clear htau
  obtain ⟨c0, c1, c2, c3, c4, c5, c6, c7, c8, c9⟩ := HR8.out.cells
  dsimp only at c0 c1 c2 c3 c4 c5 c6 c7 c8 c9
  have z0 := frozen_of_heap HR8.out 0
  have z1 := frozen_of_heap HR8.out 1
  have z2 := frozen_of_heap HR8.out 2
  have z3 := frozen_of_heap HR8.out 3
  have z4 := frozen_of_heap HR8.out 4
  have z5 := frozen_of_heap HR8.out 5
  have z6 := frozen_of_heap HR8.out 6
  have z7 := frozen_of_heap HR8.out 7
  have z8 := frozen_of_heap HR8.out 8
  have z9 := frozen_of_heap HR8.out 9
  clear hW8 HFd HW7 HB7 HR6 HB6
  go_wp2_with fail
  refine heap_use HR8.out (.slice (some ⟨bw, 0, none⟩) N cap') ⟨s1.h.size, s1.h.to, s1.h.bottom, s1.h.top, s1.h.scan, s1.h.fb, s1.h.ft, s1.h.flips, tau⟩ _ ?_
  intro W9 hL hb9 _ hoth
  obtain ⟨y0, y1, y2, y3, y4, y5, y6, y7, y8, y9⟩ := hL.cells
  dsimp only at y0 y1 y2 y3 y4 y5 y6 y7 y8 y9
  exact bodyPost_ret (v := .tuple #[heapV (.slice (some ⟨bw, 0, none⟩) N cap') ⟨s1.h.size, s1.h.to, s1.h.bottom, s1.h.top, s1.h.scan, s1.h.fb, s1.h.ft, s1.h.flips, tau⟩, .int .i64 u, .bool true]) (by simp [results, Try.results22, go_sem, y0, y1, y2, y3, y4, y5, y6, y7, y8, y9, heapV]) rfl ⟨bw, cap', by rw [HTau.out]; rfl, HW8.out.row.of_block (hoth _ (by omega)), by have := HB8.out.size; omega, HB8.out.trans (hb9 _ (Nat.le_succ _))⟩

set_option maxHeartbeats 4000000 in
set_option maxRecDepth 100000 in
theorem sField_full (b off cap N : Nat) (h : HpN) (x i : Int) (w : World)
    (k : Nat) (hk : k < N) (hb : b < w.heap.size) (f n : Int) (HF : Hid (w.cell? ⟨b, off + k, none⟩ = some (.int .i64 f))) (hf : f / 16 = n) (hn0 : 0 ≤ n) (hn1 : n ≤ 6) (hd : decide (i < 0) = false) (hi1 : i < n - 1)
    (HOk : Hid (∀ X, Below w.heap.size w X → Calls Try.prog 35 #[heapV (.slice (some ⟨b, off, none⟩) N cap) h] X fun e w' => e = .returned (.bool true) ∧ Below X.heap.size X w'))
    (HT : Hid (∀ w, Calls Try.prog 37 #[.int .i64 x] w fun e w' => e = .returned (.int .i64 0) ∧ w = w'))
    (HRt : Hid (∀ X, Below w.heap.size w X → ∀ g, X.cell? ⟨g, 0, none⟩ = some (.int .i64 x) → Calls Try.prog 36 #[heapV (.slice (some ⟨b, off, none⟩) N cap) h, .slice (some ⟨g, 0, none⟩) 1 1] X fun e w' => e = .returned (.bool true) ∧ Below X.heap.size X w'))
    (HNum : Hid (∀ w, Calls Try.prog 54 #[.int .i64 x] w fun e w' => e = .returned (.int .i64 (k : Int)) ∧ w = w'))
    (s0 s1 : CN)
    (HOp : Hid (∀ X, Below w.heap.size w X → Calls Try.prog 46 #[heapV (.slice (some ⟨b, off, none⟩) N cap) h] X fun e w' => ∃ bm bw cap' : Nat, e = .returned (.pointer (some ⟨bm, 0, none⟩)) ∧ Wk X bm bw N cap' s0 false w' ∧ X.heap.size ≤ bm ∧ X.heap.size ≤ bw))
    (HFd : Hid (∀ (X w0 : World) (bm bw cap' : Nat), Wk w0 bm bw N cap' s0 false X → Calls Try.prog 55 #[.pointer (some ⟨bm, 0, none⟩), .int .i64 x, .int .i64 i] X fun e w' => (∃ z : Int, e = .returned (.int .i64 z)) ∧ Wk w0 bm bw N cap' s1 true w')) :
    Calls Try.prog 22 #[heapV (.slice (some ⟨b, off, none⟩) N cap) h, .int .i64 x, .int .i64 i] w fun e w' => e = .returned (.tuple #[noHeap, .int .i64 0, .bool false]) ∧ Below w.heap.size w w' := by
  obtain ⟨g1, g2, g3, g4, g5, g6, g7, g8, g9⟩ := h
  unfold heapV at *
  dsimp only at *
  obtain ⟨W0, hW0, hA, hR, k2⟩ := both_new w (.slice (some ⟨b, off, none⟩) N cap) ⟨g1, g2, g3, g4, g5, g6, g7, g8, g9⟩
  dsimp only at hW0
  have HW0 := hid hW0
  clear hW0
  go_enter Try.func22, Try.ntmps22
  go_wp2_with fail
  rw [HW0.out]
  have hlt := heap_lt hA
  obtain ⟨v0, v1, v2, v3, v4, v5, v6, v7, v8, v9⟩ := hA.later (B := W0.heap.size) hlt
  dsimp only at v0 v1 v2 v3 v4 v5 v6 v7 v8 v9
  have HA := hid hA
  have HR := hid hR
  have HK2 := hid k2
  clear hA hR k2 HW0
  have KB : Hid (∀ X : Later W0.heap.size W0, Below w.heap.size w X.w ∧ w.heap.size ≤ X.w.heap.size) := fun X => by
    have k := HK2.out.trans (X.h.mono HK2.out.size)
    exact ⟨k, k.size⟩
  refine stage_begin (S := fun w' => ∃ x : Later W0.heap.size W0, w' = x.w) (by kernel_rfl) ?_
  refine stage_walk (by kernel_rfl) 11 0 _ _ (by kernel_rfl) ⟨⟨W0.drew, (Below.refl _ _).drew⟩, rfl⟩ ?_
  simp only [List.drop_zero, List.take_succ_cons, List.take_zero]
  repeat (go_big_quiet_step (first | (rename_i x; go_at_call 35; refine (HOk.out _ (KB.out x).1).mono ?_; rintro e w5 ⟨rfl, hb5⟩; exact ⟨rfl, ⟨w5, x.h.trans (hb5.mono x.h.size)⟩, rfl⟩) | (rename_i x; go_at_call 37; refine (HT.out _).mono ?_; rintro e w5 ⟨rfl, rfl⟩; exact ⟨rfl, x, rfl⟩)))
  refine wpQuiet_nil ?_
  rintro w5 ⟨x1, rfl⟩
  refine stage_make (k := 11) (v := .slice (some ⟨x1.w.heap.size, 0, none⟩) 1 1) (w1 := x1.w.alloc (.cells #[.int .i64 x] 3)) rfl (by kernel_rfl) rfl (by simp [go_sem]) ⟨⟨_, x1.h.alloc x1.h.size _⟩, rfl⟩ (by simp [go_sem]; exact rfl) ?_
  have hN0 : (x1.w.alloc (.cells #[.int .i64 x] 3)).heap[x1.w.heap.size]? = some (.cells #[.int .i64 x] 3) := (MapKept.heap_alloc x1.w _).1
  have hL1 := x1.h.alloc x1.h.size (.cells #[.int .i64 x] 3)
  generalize x1.w.alloc (.cells #[.int .i64 x] 3) = W1 at *
  refine stage_class (S' := fun w' => ∃ y : Later W1.heap.size W1, w' = y.w) (fun w' ⟨y, hy⟩ => ⟨⟨w', hL1.trans ((hy ▸ y.h).mono hL1.size)⟩, rfl⟩) ?_
  have HC1 : Hid (∀ y : Later W1.heap.size W1, y.w.cell? ⟨x1.w.heap.size, 0, none⟩ = some (.int .i64 x)) := fun y => y.cell (heap_lt hN0) (by rw [cell_of_heap hN0]; rfl)
  have KB1 : Hid (∀ y : Later W1.heap.size W1, Below w.heap.size w y.w) := fun y => (KB.out ⟨W1, hL1⟩).1.trans (y.h.mono (KB.out ⟨W1, hL1⟩).2)
  have TL : Hid (∀ y : Later W1.heap.size W1, Below W0.heap.size W0 y.w) := fun y => hL1.trans (y.h.mono hL1.size)
  have u0 : ∀ y : Later W1.heap.size W1, y.w.cell? ⟨w.heap.size, 0, none⟩ = some (.slice (some ⟨b, off, none⟩) N cap) := fun y => v0 ⟨y.w, TL.out y⟩
  have u1 : ∀ y : Later W1.heap.size W1, y.w.cell? ⟨b, off + k, none⟩ = some (.int .i64 f) := fun y => ((KB1.out y).cell (p := ⟨b, off + k, none⟩) hb).trans HF.out
  clear v0 v1 v2 v3 v4 v5 v6 v7 v8 v9 hN0
  refine stage_walk (by kernel_rfl) 19 12 _ _ (by kernel_rfl) ⟨⟨W1, Below.refl _ _⟩, rfl⟩ ?_
  simp only [List.drop_zero, List.drop_succ_cons, List.take_succ_cons, List.take_zero]
  repeat (go_big_quiet_step (first | (rename_i y; go_at_call 36; refine (HRt.out _ (KB1.out y) _ (HC1.out y)).mono ?_; rintro e w5 ⟨rfl, hb5⟩; exact ⟨rfl, ⟨w5, y.h.trans (hb5.mono y.h.size)⟩, rfl⟩) | (rename_i y; go_at_call 54; refine (HNum.out _).mono ?_; rintro e w5 ⟨rfl, rfl⟩; exact ⟨rfl, y, rfl⟩)))
  refine wpQuiet_nil ?_
  rintro w6 ⟨y, rfl⟩
  refine stage_end (by kernel_rfl) ?_
  have HB6 := hid (KB1.out y)
  have HR6 := hid (HR.out.below (TL.out y))
  have HA6 := hid (HA.out.below (TL.out y))
  clear u0 u1 HC1 KB1 TL hL1
  generalize y.w = W6 at *
  obtain ⟨c0, c1, c2, c3, c4, c5, c6, c7, c8, c9⟩ := HA6.out.cells
  dsimp only at c0 c1 c2 c3 c4 c5 c6 c7 c8 c9
  go_wp2_with fail
  refine (HOp.out _ HB6.out).mono ?_
  rintro e W7 ⟨bm, bw, cap', rfl, hW7, hlo, hlo2⟩
  have HW7 := hid hW7
  have HB7 := hid (HB6.out.trans ((hW7.frame.below hlo hlo2).mono HB6.out.size))
  have hlt6 := heap_lt HR6.out
  clear hW7 HOp HA6 c0 c1 c2 c3 c4 c5 c6 c7 c8 c9
  go_wp2_with fail
  refine (HFd.out _ _ _ _ _ HW7.out).mono ?_
  rintro e W8 ⟨⟨z, rfl⟩, hW8⟩
  have HW8 := hid hW8
  have HR8 := hid (HR6.out.below (HW8.out.frame.below hlo hlo2))
  have HB8 := hid (HB6.out.trans ((HW8.out.frame.below hlo hlo2).mono HB6.out.size))
  obtain ⟨d0, d1, d2, d3, d4, d5, d6, d7, d8, d9, d10⟩ := HW8.out.blk.cells
  obtain ⟨tau, htau⟩ : ∃ tau, touchZ s1 = tau := ⟨_, rfl⟩
  rw [htau] at d9
  have HTau := hid htau
  clear htau
  obtain ⟨c0, c1, c2, c3, c4, c5, c6, c7, c8, c9⟩ := HR8.out.cells
  dsimp only at c0 c1 c2 c3 c4 c5 c6 c7 c8 c9
  have z0 := frozen_of_heap HR8.out 0
  have z1 := frozen_of_heap HR8.out 1
  have z2 := frozen_of_heap HR8.out 2
  have z3 := frozen_of_heap HR8.out 3
  have z4 := frozen_of_heap HR8.out 4
  have z5 := frozen_of_heap HR8.out 5
  have z6 := frozen_of_heap HR8.out 6
  have z7 := frozen_of_heap HR8.out 7
  have z8 := frozen_of_heap HR8.out 8
  have z9 := frozen_of_heap HR8.out 9
  clear hW8 HFd HW7 HB7 HR6 HB6
  go_wp2_with fail
  refine heap_use HR8.out (.slice none 0 0) ⟨0, 0, 0, 0, 0, 0, 0, 0, 0⟩ _ ?_
  intro W9 hL hb9 _ hoth
  obtain ⟨y0, y1, y2, y3, y4, y5, y6, y7, y8, y9⟩ := hL.cells
  dsimp only at y0 y1 y2 y3 y4 y5 y6 y7 y8 y9
  exact bodyPost_ret (v := .tuple #[noHeap, .int .i64 0, .bool false]) (by simp [results, Try.results22, go_sem, y0, y1, y2, y3, y4, y5, y6, y7, y8, y9, noHeap, heapV]) rfl ⟨rfl, HB8.out.trans (hb9 _ (Nat.le_succ _))⟩

end Go.Proofs.Ytebpgglegnljgaa

/- HeapField: both sides answer the same, whatever they are given. -/
namespace Go.Proofs.Ytebpgglegnljgaa
open Go.RowKit

/-- A heap, a number and a bool are told; the heap's words are new. -/
def Told3 (W : World) (ans : List Int) (H : HpN) (u : Int) (ok : Bool) (e : Ending) (w' : World) : Prop :=
  (∃ v, e = .returned (.tuple #[heapV v H, .int .i64 u, .bool ok]) ∧ SliceR 3 1 W.heap.size w' v ans.length (intCells ans)) ∧ Below W.heap.size W w'

theorem told_none {W w' : World} {e : Ending} (h : e = .returned (.tuple #[noHeap, .int .i64 0, .bool false]) ∧ Below W.heap.size W w') : Told3 W [] ⟨0, 0, 0, 0, 0, 0, 0, 0, 0⟩ 0 false e w' :=
  ⟨⟨_, h.1, none, 0, rfl, Or.inl rfl⟩, h.2⟩

theorem told_some {N : Nat} {W w' : World} {ws : List Int} {H : HpN} {u : Int} {e : Ending} (hl : ws.length = N) (h : FieldTold N W ws H u e w') : Told3 W ws H u true e w' := by
  obtain ⟨bw, cap, rfl, hr, hlow, hb⟩ := h
  subst hl
  exact ⟨⟨_, rfl, some ⟨bw, 0, none⟩, cap, rfl, Or.inr ⟨bw, rfl, hlow, by rw [Nat.mul_one]; exact hr⟩⟩, hb⟩

/-- Words in a row of their own, at a later world. -/
theorem row_words {B g N : Nat} {bs : List Int} {W X : World} (h0 : N ≠ 0) (hs : SliceR 3 1 B W (.slice (some ⟨g, 0, none⟩) N N) N (intCells bs)) (hX : Below W.heap.size W X) :
    g < X.heap.size ∧ ∀ k, k < N → X.cell? ⟨g, 0 + k, none⟩ = some (.int .i64 (bs.getD k 0)) := by
  obtain ⟨ad, cap, e, hh⟩ := hs
  obtain ⟨g', e2, hB, hr⟩ := hh.resolve_left h0
  cases e
  cases e2
  rw [Nat.mul_one] at hr
  exact ⟨Nat.lt_of_lt_of_le hr.lt hX.size, fun k hk => by rw [Nat.zero_add]; exact (hX.cell (p := ⟨g, k, none⟩) hr.lt).trans (hr.cell hk)⟩

theorem moveZ_len (s : CN) (x : Int) : (moveZ s x).2.ws.length = s.ws.length := by
  unfold moveZ
  split
  · rfl
  · split
    · rfl
    · split
      · simp only [List.length_set, copyW_length]
      · rfl

theorem fieldZ_len (s : CN) (q : Nat) : (fieldZ s q).2.ws.length = s.ws.length := by
  unfold fieldZ
  split
  · rfl
  · have e := moveZ_len { s with r := s.r + 1 } (s.ws.getD q 0)
    generalize moveZ { s with r := s.r + 1 } (s.ws.getD q 0) = m at e
    obtain ⟨o, s2⟩ := m
    cases o with
    | some y => simpa using e
    | none => exact e

theorem told_touch (t r q : Int) : wrap64 (wrap64 (t + r) + q) = wrap64 (t + (r + q)) := by
  unfold wrap64
  omega

theorem field_both (bs : List Int) (h : HpN) (ht : h.touched < 9223372036854775808) (hm : bs.length ≤ 1048576) (x i : Int) : ∃ ans H u ok, ans.length ≤ 1048576 ∧
    (∀ B g W, SliceR 3 1 B W (.slice (some ⟨g, 0, none⟩) bs.length bs.length) bs.length (intCells bs) → Calls Try.prog 22 #[heapV (.slice (some ⟨g, 0, none⟩) bs.length bs.length) h, .int .i64 x, .int .i64 i] W (Told3 W ans H u ok)) ∧
    (∀ B g W, SliceR 3 1 B W (.slice (some ⟨g, 0, none⟩) bs.length bs.length) bs.length (intCells bs) → Calls Try.prog 21 #[heapV (.slice (some ⟨g, 0, none⟩) bs.length bs.length) h, .int .i64 x, .int .i64 i] W (Told3 W ans H u ok)) := by
  by_cases ho : Ordered h bs.length
  case neg =>
    refine ⟨[], _, _, _, by simp, fun B g W _ => (sField_notOk g 0 bs.length bs.length h x i W (fun X _ => specOk_bad _ _ _ h X hm ho)).mono (fun _ _ => told_none), fun B g W _ => (iField_notOk g 0 bs.length bs.length h x i W (fun X _ => layOut_bad _ _ _ h X ho)).mono (fun _ _ => told_none)⟩
  have hN0 : bs.length ≠ 0 := by obtain ⟨o1, o2, o3, _⟩ := ho; omega
  have hN8 : bs.length ≤ 8000 := by obtain ⟨o1, o2, o3, _⟩ := ho; omega
  -- the specification's and the program's own looks
  have SOk : ∀ B g W, SliceR 3 1 B W (.slice (some ⟨g, 0, none⟩) bs.length bs.length) bs.length (intCells bs) → ∀ X, Below W.heap.size W X → Calls Try.prog 35 #[heapV (.slice (some ⟨g, 0, none⟩) bs.length bs.length) h] X fun e w' => e = .returned (.bool (specOk bs h)) ∧ Below X.heap.size X w' := fun B g W hs X hX =>
    specOk_calls g 0 bs.length bs.length bs h X rfl ho (row_words hN0 hs hX).1 (row_words hN0 hs hX).2
  have ILy : ∀ B g W, SliceR 3 1 B W (.slice (some ⟨g, 0, none⟩) bs.length bs.length) bs.length (intCells bs) → ∀ X, Below W.heap.size W X → Calls Try.prog 30 #[heapV (.slice (some ⟨g, 0, none⟩) bs.length bs.length) h] X (LayTold g 0 bs.length bs.length bs h X) := fun B g W hs X hX =>
    layOut_calls g 0 bs.length bs.length bs h X rfl ho (Nat.le_refl _) (row_words hN0 hs hX).1 (row_words hN0 hs hX).2
  cases hk : specOk bs h with
  | false =>
    have hki : implOk bs h = false := by rw [← ok_same ho]; exact hk
    rw [hk] at SOk
    refine ⟨[], _, _, _, by simp, fun B g W hs => (sField_notOk g 0 bs.length bs.length h x i W (SOk B g W hs)).mono (fun _ _ => told_none), fun B g W hs => (iField_notOk g 0 bs.length bs.length h x i W (fun X hX => (ILy B g W hs X hX).mono ?_)).mono (fun _ _ => told_none)⟩
    rintro e w' ⟨hres, hb'⟩
    rcases hres with ⟨_, e1⟩ | ⟨S, gb, _, e2, _⟩
    · exact ⟨e1, hb'⟩
    · rw [hki] at e2
      cases e2
  | true =>
    have hki : implOk bs h = true := by rw [← ok_same ho]; exact hk
    rw [hk] at SOk
    obtain ⟨S, ok⟩ := ok_facts ho hk
    have ILg : ∀ B g W, SliceR 3 1 B W (.slice (some ⟨g, 0, none⟩) bs.length bs.length) bs.length (intCells bs) → ∀ X, Below W.heap.size W X → Calls Try.prog 30 #[heapV (.slice (some ⟨g, 0, none⟩) bs.length bs.length) h] X fun e w' => ∃ gb, e = .returned (.tuple #[layV (.slice (some ⟨g, 0, none⟩) bs.length bs.length) h (.slice (some ⟨gb, 0, none⟩) bs.length bs.length), .bool true]) ∧ Hid (ISt g 0 gb bs.length bs S w') ∧ Below X.heap.size X w' := fun B g W hs X hX => (ILy B g W hs X hX).mono (by
      rintro e w' ⟨hres, hb'⟩
      rcases hres with ⟨e1, _⟩ | ⟨S', gb, e1, _, e2, _, e3⟩
      · rw [hki] at e1
        cases e1
      · rw [ok.impl] at e1
        cases e1
        exact ⟨gb, e2, e3, hb'⟩)
    have ILd : ∀ g, ∀ (X : World) (gb : Nat), ISt g 0 gb bs.length bs S X → Calls Try.prog 51 #[layV (.slice (some ⟨g, 0, none⟩) bs.length bs.length) h (.slice (some ⟨gb, 0, none⟩) bs.length bs.length), .int .i64 x, .int .i64 h.to] X fun e w' => e = .returned (.bool (leadsZ S h.size x h.to)) ∧ Below X.heap.size X w' := fun g X gb hI => leads_st hI _ h ho x h.to (Or.inl rfl)
    have STg := fun w => specTag_calls x w
    unfold tagZ at STg
    by_cases hx : x % 8 = 0
    case neg =>
      have hl : leadsZ S h.size x h.to = false := by unfold leadsZ; rw [decide_eq_false hx]; rfl
      rw [hl] at ILd
      exact ⟨[], _, _, _, by simp, fun B g W hs => (sField_noPtr g 0 bs.length bs.length h x i W (x % 8) (by simpa using hx) (SOk B g W hs) STg).mono (fun _ _ => told_none), fun B g W hs => (iField_noRoot g 0 bs.length bs.length h x i W bs S (ILg B g W hs) (ILd g)).mono (fun _ _ => told_none)⟩
    rw [hx] at STg
    have SRt : ∀ B g W, SliceR 3 1 B W (.slice (some ⟨g, 0, none⟩) bs.length bs.length) bs.length (intCells bs) → ∀ X, Below W.heap.size W X → ∀ g', X.cell? ⟨g', 0, none⟩ = some (.int .i64 x) → Calls Try.prog 36 #[heapV (.slice (some ⟨g, 0, none⟩) bs.length bs.length) h, .slice (some ⟨g', 0, none⟩) 1 1] X fun e w' => e = .returned (.bool (specLeads bs S h x false)) ∧ Below X.heap.size X w' := fun B g W hs X hX g' hg' => by
      have e := specRoots_calls g 0 bs.length bs.length bs S h (.slice (some ⟨g', 0, none⟩) 1 1) [x] X rfl ho ok.spec (row_words hN0 hs hX).1 (row_words hN0 hs hX).2 ⟨_, 1, rfl, Or.inr ⟨g', 0, rfl, block_in hg', fun k hk => by
        obtain rfl : k = 0 := by simpa using hk
        exact hg'⟩⟩ (by simp)
      have e2 : specRoots bs S h [x] = specLeads bs S h x false := by simp [specRoots]
      rw [e2] at e
      exact e
    have hsame : leadsZ S h.size x h.to = specLeads bs S h x false := by
      rw [← used_same ok x]
      unfold wordOkZ
      rw [if_pos hx]
    rw [hsame] at ILd
    cases hl : specLeads bs S h x false with
    | false =>
      rw [hl] at SRt ILd
      exact ⟨[], _, _, _, by simp, fun B g W hs => (sField_noRoot g 0 bs.length bs.length h x i W (SOk B g W hs) STg (SRt B g W hs)).mono (fun _ _ => told_none), fun B g W hs => (iField_noRoot g 0 bs.length bs.length h x i W bs S (ILg B g W hs) (ILd g)).mono (fun _ _ => told_none)⟩
    | true =>
      rw [hl] at SRt ILd
      by_cases hi : i < 0
      · exact ⟨[], _, _, _, by simp, fun B g W hs => (sField_below g 0 bs.length bs.length h x i W hi (SOk B g W hs) STg (SRt B g W hs)).mono (fun _ _ => told_none), fun B g W hs => (iField_below g 0 bs.length bs.length h x i W bs S hi (ILg B g W hs) (ILd g)).mono (fun _ _ => told_none)⟩
      obtain ⟨l1, l2, l3, l4⟩ := specLeads_at hx hl
      have hin : inZ h (x / 8) = true := by
        rcases l4 with ⟨e, _⟩ | ⟨_, e⟩
        · exact e
        · cases e
      obtain ⟨k, hkx⟩ := Int.eq_ofNat_of_zero_le l1
      rw [hkx, Int.toNat_natCast] at l3
      rw [hkx] at l2 hin
      obtain ⟨hd3, hdl, hdh⟩ := (heads_noted ok.noted).2 k l3
      have hst := used_stays ok l3 hin
      have hd : decide (i < 0) = false := decide_eq_false hi
      have SNum := fun w => specNum_calls x w
      have INum := fun w => implNum_calls x w
      unfold numZ at SNum INum
      rw [hkx] at SNum INum
      have hkN : k < bs.length := by omega
      have HF : ∀ B g W, SliceR 3 1 B W (.slice (some ⟨g, 0, none⟩) bs.length bs.length) bs.length (intCells bs) → W.cell? ⟨g, 0 + k, none⟩ = some (.int .i64 (bs.getD k 0)) := fun B g W hs => (row_words hN0 hs (Below.refl _ _)).2 k hkN
      have HG : ∀ B g W, SliceR 3 1 B W (.slice (some ⟨g, 0, none⟩) bs.length bs.length) bs.length (intCells bs) → g < W.heap.size := fun B g W hs => (row_words hN0 hs (Below.refl _ _)).1
      by_cases hp : S.getD k 0 - 1 ≤ i
      · exact ⟨[], _, _, _, by simp, fun B g W hs => (sField_past g 0 bs.length bs.length h x i W k hkN (HG B g W hs) (bs.getD k 0) (S.getD k 0) (HF B g W hs) hdh (by omega) (by omega) hd hp (SOk B g W hs) STg (SRt B g W hs) SNum).mono (fun _ _ => told_none), fun B g W hs => (iField_past g 0 bs.length bs.length h x i W bs S k hkN (S.getD k 0) rfl (by omega) (by omega) hd hp (ILg B g W hs) (ILd g) INum).mono (fun _ _ => told_none)⟩
      -- a field that is there
      obtain ⟨j, rfl⟩ := Int.eq_ofNat_of_zero_le (show 0 ≤ i by omega)
      obtain ⟨o1, o2, o3, o4, o5, o6, o7, o8, o9, o10, o11, o12, o13⟩ := id ho
      have hq : k + 1 + j < bs.length := by omega
      have hgood := field_good ok l3 hst (i := j) (by omega)
      have hmv := good_move (h := h) (heads_noted ok.noted) hgood
      have hhe := good_here ho hgood
      have SOp : ∀ B g W, SliceR 3 1 B W (.slice (some ⟨g, 0, none⟩) bs.length bs.length) bs.length (intCells bs) → ∀ X, Below W.heap.size W X → Calls Try.prog 46 #[heapV (.slice (some ⟨g, 0, none⟩) bs.length bs.length) h] X fun e w' => ∃ bm bw cap' : Nat, e = .returned (.pointer (some ⟨bm, 0, none⟩)) ∧ Wk X bm bw bs.length cap' ⟨bs, h, 0, 0⟩ false w' ∧ X.heap.size ≤ bm ∧ X.heap.size ≤ bw := fun B g W hs X hX => open_calls g 0 bs.length bs.length bs h X (by omega) rfl hN8 (row_words hN0 hs hX).1 (row_words hN0 hs hX).2 o6 ht
      have IOp : ∀ B g W, SliceR 3 1 B W (.slice (some ⟨g, 0, none⟩) bs.length bs.length) bs.length (intCells bs) → ∀ X, Below W.heap.size W X → Calls Try.prog 42 #[heapV (.slice (some ⟨g, 0, none⟩) bs.length bs.length) h] X fun e w' => ∃ bc bw cap' : Nat, e = .returned (.pointer (some ⟨bc, 0, none⟩)) ∧ Col X bc bw bs.length cap' bs h 0 0 w' ∧ X.heap.size ≤ bc ∧ X.heap.size ≤ bw := fun B g W hs X hX => collectorOf_calls g 0 bs.length bs.length bs h X (by omega) rfl hN8 (row_words hN0 hs hX).1 (row_words hN0 hs hX).2
      have SFd : ∀ (X w0 : World) (bm bw cap' : Nat), Wk w0 bm bw bs.length cap' ⟨bs, h, 0, 0⟩ false X → Calls Try.prog 55 #[.pointer (some ⟨bm, 0, none⟩), .int .i64 x, .int .i64 (j : Int)] X fun e w' => (∃ z : Int, e = .returned (.int .i64 z) ∧ ∀ u, (fieldZ ⟨bs, h, 0, 0⟩ (k + 1 + j)).1 = some u → z = u) ∧ Wk w0 bm bw bs.length cap' (fieldZ ⟨bs, h, 0, 0⟩ (k + 1 + j)).2 (fieldZ ⟨bs, h, 0, 0⟩ (k + 1 + j)).1.isNone w' := fun X w0 bm bw cap' hX => sfield_calls hX x j (k + 1 + j) hq (by omega) (by omega) (by omega) (by omega) (by omega) (show 0 ≤ h.to by omega) (show h.to ≤ h.size by omega) o2 (show 0 ≤ h.bottom by omega) o9 (show h.top ≤ (bs.length : Int) by omega) hN8 hmv hhe
      have IFd : ∀ (X w0 : World) (bc bw cap' : Nat), Col w0 bc bw bs.length cap' bs h 0 0 X → Calls Try.prog 53 #[.pointer (some ⟨bc, 0, none⟩), .int .i64 ((k : Int) + 1 + (j : Int))] X fun e w' => e = .returned (moveV (fieldZ ⟨bs, h, 0, 0⟩ (k + 1 + j)).1) ∧ Col w0 bc bw bs.length cap' (fieldZ ⟨bs, h, 0, 0⟩ (k + 1 + j)).2.ws (fieldZ ⟨bs, h, 0, 0⟩ (k + 1 + j)).2.h (fieldZ ⟨bs, h, 0, 0⟩ (k + 1 + j)).2.r (fieldZ ⟨bs, h, 0, 0⟩ (k + 1 + j)).2.t w' := fun X w0 bc bw cap' hX => by
        have e := field_calls ⟨bs, h, 0, 0⟩ hX (k + 1 + j) hq (show 0 ≤ h.to by omega) (show h.to ≤ h.size by omega) o2 (show 0 ≤ h.bottom by omega) o9 (show h.top ≤ (bs.length : Int) by omega) hN8 (show (0 : Int) ≤ 0 by omega) (show (0 : Int) ≤ 60000 by omega) (show (0 : Int) ≤ 0 by omega) (show (0 : Int) ≤ 60000 by omega) hmv
        rw [show ((k + 1 + j : Nat) : Int) = (k : Int) + 1 + (j : Int) from rfl] at e
        exact e
      have hlen := fieldZ_len ⟨bs, h, 0, 0⟩ (k + 1 + j)
      generalize fieldZ ⟨bs, h, 0, 0⟩ (k + 1 + j) = R at *
      obtain ⟨o, s1⟩ := R
      dsimp only at hlen SFd IFd
      cases o with
      | none =>
        exact ⟨[], _, _, _, by simp, fun B g W hs => (sField_full g 0 bs.length bs.length h x j W k hkN (HG B g W hs) (bs.getD k 0) (S.getD k 0) (HF B g W hs) hdh (by omega) (by omega) hd (by omega) (SOk B g W hs) STg (SRt B g W hs) SNum ⟨bs, h, 0, 0⟩ s1 (SOp B g W hs) (fun X w0 bm bw cap' hX => (SFd X w0 bm bw cap' hX).mono (by rintro e w' ⟨⟨z, hz, -⟩, hW⟩; exact ⟨⟨z, hz⟩, hW⟩))).mono (fun _ _ => told_none), fun B g W hs => (iField_full g 0 bs.length bs.length h x j W bs S k hkN (S.getD k 0) rfl (by omega) (by omega) hd (by omega) hN8 (by omega) ⟨bs, h, 0, 0⟩ s1 (ILg B g W hs) (ILd g) INum (IOp B g W hs) IFd).mono (fun _ _ => told_none)⟩
      | some u =>
        refine ⟨s1.ws, { s1.h with touched := touchZ s1 }, u, true, by omega, fun B g W hs => (sField_good g 0 bs.length bs.length h x j W k hkN (HG B g W hs) (bs.getD k 0) (S.getD k 0) (HF B g W hs) hdh (by omega) (by omega) hd (by omega) (SOk B g W hs) STg (SRt B g W hs) SNum ⟨bs, h, 0, 0⟩ s1 (SOp B g W hs) u (fun X w0 bm bw cap' hX => (SFd X w0 bm bw cap' hX).mono (by rintro e w' ⟨⟨z, hz, hu⟩, hW⟩; rw [hu u rfl] at hz; exact ⟨hz, hW⟩))).mono (fun _ _ h => told_some hlen h), fun B g W hs => (iField_good g 0 bs.length bs.length h x j W bs S k hkN (S.getD k 0) rfl (by omega) (by omega) hd (by omega) hN8 (by omega) u ⟨bs, h, 0, 0⟩ s1 { s1.h with touched := touchZ s1 } (ILg B g W hs) (ILd g) INum (IOp B g W hs) IFd (fun X w0 bc bw cap' hX => ?_)).mono (fun _ _ h => told_some hlen h)⟩
        have e := told_calls hX
        rw [told_touch] at e
        exact e
end Go.Proofs.Ytebpgglegnljgaa

/- The specification's HeapScan. -/
namespace Go.Proofs.Ytebpgglegnljgaa
open Go.RowKit

/-- A heap is told. -/
def HeapTold (N : Nat) (w : World) (ws : List Int) (h1 : HpN) (e : Ending) (w' : World) : Prop :=
  ∃ bw cap' : Nat, e = .returned (.tuple #[heapV (.slice (some ⟨bw, 0, none⟩) N cap') h1, .bool true]) ∧ CellRow 3 w' bw N (intCells ws) ∧ w.heap.size ≤ bw ∧ Below w.heap.size w w'

/-- What looking through so many objects of a heap comes to. -/
def ScanTold (N : Nat) (w : World) (o : Option CN) (e : Ending) (w' : World) : Prop :=
  match o with
  | some s => HeapTold N w s.ws { s.h with touched := touchZ s } e w'
  | none => e = .returned (.tuple #[noHeap, .bool false]) ∧ Below w.heap.size w w'

set_option maxHeartbeats 8000000 in
set_option maxRecDepth 100000 in
theorem sScan_notOk (b off cap N : Nat) (h : HpN) (x : Int) (w : World)
    (HOk : Hid (∀ X, Below w.heap.size w X → Calls Try.prog 35 #[heapV (.slice (some ⟨b, off, none⟩) N cap) h] X fun e w' => e = .returned (.bool false) ∧ Below X.heap.size X w')) :
    Calls Try.prog 25 #[heapV (.slice (some ⟨b, off, none⟩) N cap) h, .int .i64 x] w fun e w' => e = .returned (.tuple #[noHeap, .bool false]) ∧ Below w.heap.size w w' := by
  obtain ⟨g1, g2, g3, g4, g5, g6, g7, g8, g9⟩ := h
  unfold heapV at *
  dsimp only at *
  obtain ⟨W0, hW0, hA, hR, k2⟩ := both_new w (.slice (some ⟨b, off, none⟩) N cap) ⟨g1, g2, g3, g4, g5, g6, g7, g8, g9⟩
  dsimp only at hW0
  have HW0 := hid hW0
  clear hW0
  go_enter Try.func25, Try.ntmps25
  go_wp2_with fail
  rw [HW0.out]
  have hlt := heap_lt hA
  obtain ⟨v0, v1, v2, v3, v4, v5, v6, v7, v8, v9⟩ := hA.later (B := W0.heap.size) hlt
  dsimp only at v0 v1 v2 v3 v4 v5 v6 v7 v8 v9
  have HA := hid hA
  have HR := hid hR
  have HK2 := hid k2
  clear hA hR k2 HW0
  have KB : Hid (∀ X : Later W0.heap.size W0, Below w.heap.size w X.w ∧ w.heap.size ≤ X.w.heap.size) := fun X => by
    have k := HK2.out.trans (X.h.mono HK2.out.size)
    exact ⟨k, k.size⟩
  clear v0 v1 v2 v3 v4 v5 v6 v7 v8 v9
  refine (HOk.out _ HK2.out).mono ?_
  rintro e W6 ⟨rfl, hb6⟩
  have HB6 := hid (HK2.out.trans (hb6.mono HK2.out.size))
  have HR6 := hid (HR.out.below hb6)
  have HA6 := hid (HA.out.below hb6)
  clear hb6
  obtain ⟨c0, c1, c2, c3, c4, c5, c6, c7, c8, c9⟩ := HR6.out.cells
  dsimp only at c0 c1 c2 c3 c4 c5 c6 c7 c8 c9
  have z0 := frozen_of_heap HR6.out 0
  have z1 := frozen_of_heap HR6.out 1
  have z2 := frozen_of_heap HR6.out 2
  have z3 := frozen_of_heap HR6.out 3
  have z4 := frozen_of_heap HR6.out 4
  have z5 := frozen_of_heap HR6.out 5
  have z6 := frozen_of_heap HR6.out 6
  have z7 := frozen_of_heap HR6.out 7
  have z8 := frozen_of_heap HR6.out 8
  have z9 := frozen_of_heap HR6.out 9
  go_wp2_with fail
  refine heap_use HR6.out (.slice none 0 0) ⟨0, 0, 0, 0, 0, 0, 0, 0, 0⟩ _ ?_
  intro W7 hL hb7 _ _
  obtain ⟨y0, y1, y2, y3, y4, y5, y6, y7, y8, y9⟩ := hL.cells
  dsimp only at y0 y1 y2 y3 y4 y5 y6 y7 y8 y9
  exact bodyPost_ret (v := .tuple #[noHeap, .bool false]) (by simp [results, Try.results25, go_sem, y0, y1, y2, y3, y4, y5, y6, y7, y8, y9, noHeap, heapV]) rfl ⟨rfl, HB6.out.trans (hb7 _ (Nat.le_succ _))⟩

set_option maxHeartbeats 8000000 in
set_option maxRecDepth 100000 in
theorem sScan_below (b off cap N : Nat) (h : HpN) (x : Int) (w : World)
    (hx : x < 0)
    (HOk : Hid (∀ X, Below w.heap.size w X → Calls Try.prog 35 #[heapV (.slice (some ⟨b, off, none⟩) N cap) h] X fun e w' => e = .returned (.bool true) ∧ Below X.heap.size X w')) :
    Calls Try.prog 25 #[heapV (.slice (some ⟨b, off, none⟩) N cap) h, .int .i64 x] w fun e w' => e = .returned (.tuple #[noHeap, .bool false]) ∧ Below w.heap.size w w' := by
  obtain ⟨g1, g2, g3, g4, g5, g6, g7, g8, g9⟩ := h
  unfold heapV at *
  dsimp only at *
  obtain ⟨W0, hW0, hA, hR, k2⟩ := both_new w (.slice (some ⟨b, off, none⟩) N cap) ⟨g1, g2, g3, g4, g5, g6, g7, g8, g9⟩
  dsimp only at hW0
  have HW0 := hid hW0
  clear hW0
  go_enter Try.func25, Try.ntmps25
  go_wp2_with fail
  rw [HW0.out]
  have hlt := heap_lt hA
  obtain ⟨v0, v1, v2, v3, v4, v5, v6, v7, v8, v9⟩ := hA.later (B := W0.heap.size) hlt
  dsimp only at v0 v1 v2 v3 v4 v5 v6 v7 v8 v9
  have HA := hid hA
  have HR := hid hR
  have HK2 := hid k2
  clear hA hR k2 HW0
  have KB : Hid (∀ X : Later W0.heap.size W0, Below w.heap.size w X.w ∧ w.heap.size ≤ X.w.heap.size) := fun X => by
    have k := HK2.out.trans (X.h.mono HK2.out.size)
    exact ⟨k, k.size⟩
  clear v0 v1 v2 v3 v4 v5 v6 v7 v8 v9
  refine (HOk.out _ HK2.out).mono ?_
  rintro e W6 ⟨rfl, hb6⟩
  have HB6 := hid (HK2.out.trans (hb6.mono HK2.out.size))
  have HR6 := hid (HR.out.below hb6)
  have HA6 := hid (HA.out.below hb6)
  clear hb6
  obtain ⟨c0, c1, c2, c3, c4, c5, c6, c7, c8, c9⟩ := HR6.out.cells
  dsimp only at c0 c1 c2 c3 c4 c5 c6 c7 c8 c9
  have z0 := frozen_of_heap HR6.out 0
  have z1 := frozen_of_heap HR6.out 1
  have z2 := frozen_of_heap HR6.out 2
  have z3 := frozen_of_heap HR6.out 3
  have z4 := frozen_of_heap HR6.out 4
  have z5 := frozen_of_heap HR6.out 5
  have z6 := frozen_of_heap HR6.out 6
  have z7 := frozen_of_heap HR6.out 7
  have z8 := frozen_of_heap HR6.out 8
  have z9 := frozen_of_heap HR6.out 9
  go_wp2_with fail
  refine heap_use HR6.out (.slice none 0 0) ⟨0, 0, 0, 0, 0, 0, 0, 0, 0⟩ _ ?_
  intro W7 hL hb7 _ _
  obtain ⟨y0, y1, y2, y3, y4, y5, y6, y7, y8, y9⟩ := hL.cells
  dsimp only at y0 y1 y2 y3 y4 y5 y6 y7 y8 y9
  exact bodyPost_ret (v := .tuple #[noHeap, .bool false]) (by simp [results, Try.results25, go_sem, y0, y1, y2, y3, y4, y5, y6, y7, y8, y9, noHeap, heapV]) rfl ⟨rfl, HB6.out.trans (hb7 _ (Nat.le_succ _))⟩

set_option maxHeartbeats 8000000 in
set_option maxRecDepth 100000 in
theorem sScan_above (b off cap N : Nat) (h : HpN) (x : Int) (w : World)
    (hx : 4000 < x) (hd : decide (x < 0) = false)
    (HOk : Hid (∀ X, Below w.heap.size w X → Calls Try.prog 35 #[heapV (.slice (some ⟨b, off, none⟩) N cap) h] X fun e w' => e = .returned (.bool true) ∧ Below X.heap.size X w')) :
    Calls Try.prog 25 #[heapV (.slice (some ⟨b, off, none⟩) N cap) h, .int .i64 x] w fun e w' => e = .returned (.tuple #[noHeap, .bool false]) ∧ Below w.heap.size w w' := by
  obtain ⟨g1, g2, g3, g4, g5, g6, g7, g8, g9⟩ := h
  unfold heapV at *
  dsimp only at *
  obtain ⟨W0, hW0, hA, hR, k2⟩ := both_new w (.slice (some ⟨b, off, none⟩) N cap) ⟨g1, g2, g3, g4, g5, g6, g7, g8, g9⟩
  dsimp only at hW0
  have HW0 := hid hW0
  clear hW0
  go_enter Try.func25, Try.ntmps25
  go_wp2_with fail
  rw [HW0.out]
  have hlt := heap_lt hA
  obtain ⟨v0, v1, v2, v3, v4, v5, v6, v7, v8, v9⟩ := hA.later (B := W0.heap.size) hlt
  dsimp only at v0 v1 v2 v3 v4 v5 v6 v7 v8 v9
  have HA := hid hA
  have HR := hid hR
  have HK2 := hid k2
  clear hA hR k2 HW0
  have KB : Hid (∀ X : Later W0.heap.size W0, Below w.heap.size w X.w ∧ w.heap.size ≤ X.w.heap.size) := fun X => by
    have k := HK2.out.trans (X.h.mono HK2.out.size)
    exact ⟨k, k.size⟩
  clear v0 v1 v2 v3 v4 v5 v6 v7 v8 v9
  refine (HOk.out _ HK2.out).mono ?_
  rintro e W6 ⟨rfl, hb6⟩
  have HB6 := hid (HK2.out.trans (hb6.mono HK2.out.size))
  have HR6 := hid (HR.out.below hb6)
  have HA6 := hid (HA.out.below hb6)
  clear hb6
  obtain ⟨c0, c1, c2, c3, c4, c5, c6, c7, c8, c9⟩ := HR6.out.cells
  dsimp only at c0 c1 c2 c3 c4 c5 c6 c7 c8 c9
  have z0 := frozen_of_heap HR6.out 0
  have z1 := frozen_of_heap HR6.out 1
  have z2 := frozen_of_heap HR6.out 2
  have z3 := frozen_of_heap HR6.out 3
  have z4 := frozen_of_heap HR6.out 4
  have z5 := frozen_of_heap HR6.out 5
  have z6 := frozen_of_heap HR6.out 6
  have z7 := frozen_of_heap HR6.out 7
  have z8 := frozen_of_heap HR6.out 8
  have z9 := frozen_of_heap HR6.out 9
  go_wp2_with fail
  refine heap_use HR6.out (.slice none 0 0) ⟨0, 0, 0, 0, 0, 0, 0, 0, 0⟩ _ ?_
  intro W7 hL hb7 _ _
  obtain ⟨y0, y1, y2, y3, y4, y5, y6, y7, y8, y9⟩ := hL.cells
  dsimp only at y0 y1 y2 y3 y4 y5 y6 y7 y8 y9
  exact bodyPost_ret (v := .tuple #[noHeap, .bool false]) (by simp [results, Try.results25, go_sem, y0, y1, y2, y3, y4, y5, y6, y7, y8, y9, noHeap, heapV]) rfl ⟨rfl, HB6.out.trans (hb7 _ (Nat.le_succ _))⟩

set_option maxHeartbeats 8000000 in
set_option maxRecDepth 100000 in
theorem sScan_good (b off cap N : Nat) (h : HpN) (x : Int) (w : World)
    (n : Nat) (hn : x = n) (hn4 : n ≤ 4000) (hd : decide (x < 0) = false) (hd2 : decide (4000 < x) = false) (s0 : CN)
    (HOk : Hid (∀ X, Below w.heap.size w X → Calls Try.prog 35 #[heapV (.slice (some ⟨b, off, none⟩) N cap) h] X fun e w' => e = .returned (.bool true) ∧ Below X.heap.size X w'))
    (HOp : Hid (∀ X, Below w.heap.size w X → Calls Try.prog 46 #[heapV (.slice (some ⟨b, off, none⟩) N cap) h] X fun e w' => ∃ bm bw cap' : Nat, e = .returned (.pointer (some ⟨bm, 0, none⟩)) ∧ Wk X bm bw N cap' s0 false w' ∧ X.heap.size ≤ bm ∧ X.heap.size ≤ bw))
    (HSn : Hid (∀ (q : Nat) (s' : CN) (X w0 : World) (bm bw cap' : Nat), scanRun q s0 = some s' → Wk w0 bm bw N cap' s' false X → Calls Try.prog 56 #[.pointer (some ⟨bm, 0, none⟩)] X (ScanPost w0 bm bw N cap' (scanOne s')))) :
    Calls Try.prog 25 #[heapV (.slice (some ⟨b, off, none⟩) N cap) h, .int .i64 x] w (ScanTold N w (scanRun n s0)) := by
  obtain ⟨R, hR⟩ : ∃ R, scanRun n s0 = R := ⟨_, rfl⟩
  rw [hR]
  have HR0 := hid hR
  have HN := hid hn
  have HN4 := hid hn4
  clear hR hn hn4
  obtain ⟨g1, g2, g3, g4, g5, g6, g7, g8, g9⟩ := h
  unfold heapV at *
  dsimp only at *
  obtain ⟨W0, hW0, hA, hR, k2⟩ := both_new w (.slice (some ⟨b, off, none⟩) N cap) ⟨g1, g2, g3, g4, g5, g6, g7, g8, g9⟩
  dsimp only at hW0
  have HW0 := hid hW0
  clear hW0
  go_enter Try.func25, Try.ntmps25
  go_wp2_with fail
  rw [HW0.out]
  have hlt := heap_lt hA
  obtain ⟨v0, v1, v2, v3, v4, v5, v6, v7, v8, v9⟩ := hA.later (B := W0.heap.size) hlt
  dsimp only at v0 v1 v2 v3 v4 v5 v6 v7 v8 v9
  have HA := hid hA
  have HR := hid hR
  have HK2 := hid k2
  clear hA hR k2 HW0
  have KB : Hid (∀ X : Later W0.heap.size W0, Below w.heap.size w X.w ∧ w.heap.size ≤ X.w.heap.size) := fun X => by
    have k := HK2.out.trans (X.h.mono HK2.out.size)
    exact ⟨k, k.size⟩
  clear v0 v1 v2 v3 v4 v5 v6 v7 v8 v9
  refine (HOk.out _ HK2.out).mono ?_
  rintro e W6 ⟨rfl, hb6⟩
  have HB6 := hid (HK2.out.trans (hb6.mono HK2.out.size))
  have HR6 := hid (HR.out.below hb6)
  have HA6 := hid (HA.out.below hb6)
  clear hb6
  obtain ⟨c0, c1, c2, c3, c4, c5, c6, c7, c8, c9⟩ := HA6.out.cells
  dsimp only at c0 c1 c2 c3 c4 c5 c6 c7 c8 c9
  go_wp2_with fail
  refine (HOp.out _ HB6.out).mono ?_
  rintro e W7 ⟨bm, bw, cap', rfl, hW7, hlo, hlo2⟩
  have HW7 := hid hW7
  have hlt6 := heap_lt HR6.out
  clear hW7 HOp HA6 c0 c1 c2 c3 c4 c5 c6 c7 c8 c9
  go_wp2_with fail
  go_loopw [7] (fun i wr => ∃ (ii : Int) (q : Nat), i = .int .i64 ii ∧ Hid (ii = (q : Int) ∧ q ≤ n) ∧ ((∃ s', Hid (scanRun q s0 = some s') ∧ Hid (Wk W6 bm bw N cap' s' false wr)) ∨ (Hid (scanRun q s0 = none) ∧ ∃ s', Hid (Wk W6 bm bw N cap' s' true wr)))) (fun i _ => n - (intOf i).toNat)
  case atStart => exact ⟨0, 0, rfl, ⟨rfl, by omega⟩, Or.inl ⟨_, rfl, HW7.out⟩⟩
  case round =>
    obtain ⟨ii, q, rfl, HQ, hcase⟩ := hrel
    clear HW7
    by_cases hlt : ii < x
    · have hqn : q < n := by have := HQ.out; have := HN.out; omega
      have hs : n - (intOf (.int .i64 (ii + 1))).toNat < n - (intOf (.int .i64 ii)).toNat := by have := HQ.out; simp only [intOf]; omega
      have hw : Hid (wrap64 (ii + 1) = ii + 1) := by have := HQ.out; have := HN4.out; show _ = _; unfold wrap64; omega
      rcases hcase with ⟨s', HK, HI⟩ | ⟨HK, s', HI⟩
      · have HSc := hid (HSn.out q s' wr W6 bm bw cap' HK.out HI.out)
        obtain ⟨o, ho⟩ : ∃ o, scanOne s' = o := ⟨_, rfl⟩
        rw [ho] at HSc
        have HNx : Hid (scanRun (q + 1) s0 = o) := by show _ = _; unfold scanRun; rw [HK.out]; exact ho
        clear ho HI
        go_wp2_with fail
        refine HSc.out.mono ?_
        rintro e W8 ⟨rfl, hC8⟩
        have HC8 := hid hC8
        clear hC8 HSc
        go_wp2_with fail
        try rw [hw.out]
        cases o with
        | some s2 => exact ⟨⟨ii + 1, q + 1, rfl, ⟨by have := HQ.out; push_cast; omega, by omega⟩, Or.inl ⟨s2, HNx.out, HC8.out⟩⟩, hs⟩
        | none => exact ⟨⟨ii + 1, q + 1, rfl, ⟨by have := HQ.out; push_cast; omega, by omega⟩, Or.inr ⟨HNx.out, HC8.out⟩⟩, hs⟩
      · have HSc := hid (sscan_full HI.out)
        have HNx : Hid (scanRun (q + 1) s0 = none) := scanRun_none HK.out 1
        clear HI
        go_wp2_with fail
        refine HSc.out.mono ?_
        rintro e W8 ⟨rfl, hC8⟩
        have HC8 := hid hC8
        clear hC8 HSc
        go_wp2_with fail
        try rw [hw.out]
        exact ⟨⟨ii + 1, q + 1, rfl, ⟨by have := HQ.out; push_cast; omega, by omega⟩, Or.inr ⟨HNx.out, s', HC8.out⟩⟩, hs⟩
    · have hqn : q = n := by have := HQ.out; have := HN.out; omega
      rcases hcase with ⟨s', HK, HI⟩ | ⟨HK, s', HI⟩
      · have HF : Hid (R = some s') := by have h := HK.out; rw [hqn, HR0.out] at h; exact h
        have HR8 := hid (HR6.out.below (HI.out.frame.below hlo hlo2))
        have HB8 := hid (HB6.out.trans ((HI.out.frame.below hlo hlo2).mono HB6.out.size))
        obtain ⟨d0, d1, d2, d3, d4, d5, d6, d7, d8, d9, d10⟩ := HI.out.blk.cells
        obtain ⟨tau, htau⟩ : ∃ tau, touchZ s' = tau := ⟨_, rfl⟩
        rw [htau] at d9
        have HTau := hid htau
        clear htau
        obtain ⟨c0, c1, c2, c3, c4, c5, c6, c7, c8, c9⟩ := HR8.out.cells
        dsimp only at c0 c1 c2 c3 c4 c5 c6 c7 c8 c9
        have z0 := frozen_of_heap HR8.out 0
        have z1 := frozen_of_heap HR8.out 1
        have z2 := frozen_of_heap HR8.out 2
        have z3 := frozen_of_heap HR8.out 3
        have z4 := frozen_of_heap HR8.out 4
        have z5 := frozen_of_heap HR8.out 5
        have z6 := frozen_of_heap HR8.out 6
        have z7 := frozen_of_heap HR8.out 7
        have z8 := frozen_of_heap HR8.out 8
        have z9 := frozen_of_heap HR8.out 9
        clear HR6 HB6
        go_wp2_with fail
        refine heap_use HR8.out (.slice (some ⟨bw, 0, none⟩) N cap') ⟨s'.h.size, s'.h.to, s'.h.bottom, s'.h.top, s'.h.scan, s'.h.fb, s'.h.ft, s'.h.flips, tau⟩ _ ?_
        intro W9 hL hb9 _ hoth
        obtain ⟨y0, y1, y2, y3, y4, y5, y6, y7, y8, y9⟩ := hL.cells
        dsimp only at y0 y1 y2 y3 y4 y5 y6 y7 y8 y9
        refine bodyPost_ret (v := .tuple #[heapV (.slice (some ⟨bw, 0, none⟩) N cap') ⟨s'.h.size, s'.h.to, s'.h.bottom, s'.h.top, s'.h.scan, s'.h.fb, s'.h.ft, s'.h.flips, tau⟩, .bool true]) (by simp [results, Try.results25, go_sem, y0, y1, y2, y3, y4, y5, y6, y7, y8, y9, heapV]) rfl ?_
        rw [HF.out]
        exact ⟨bw, cap', by rw [HTau.out], HI.out.row.of_block (hoth _ (by omega)), by have := HB8.out.size; omega, HB8.out.trans (hb9 _ (Nat.le_succ _))⟩
      · have HF : Hid (R = none) := by have h := HK.out; rw [hqn, HR0.out] at h; exact h
        have HR8 := hid (HR6.out.below (HI.out.frame.below hlo hlo2))
        have HB8 := hid (HB6.out.trans ((HI.out.frame.below hlo hlo2).mono HB6.out.size))
        have d10 := HI.out.blk.cells.2.2.2.2.2.2.2.2.2.2
        obtain ⟨c0, c1, c2, c3, c4, c5, c6, c7, c8, c9⟩ := HR8.out.cells
        dsimp only at c0 c1 c2 c3 c4 c5 c6 c7 c8 c9
        have z0 := frozen_of_heap HR8.out 0
        have z1 := frozen_of_heap HR8.out 1
        have z2 := frozen_of_heap HR8.out 2
        have z3 := frozen_of_heap HR8.out 3
        have z4 := frozen_of_heap HR8.out 4
        have z5 := frozen_of_heap HR8.out 5
        have z6 := frozen_of_heap HR8.out 6
        have z7 := frozen_of_heap HR8.out 7
        have z8 := frozen_of_heap HR8.out 8
        have z9 := frozen_of_heap HR8.out 9
        clear HR6 HB6
        go_wp2_with fail
        refine heap_use HR8.out (.slice none 0 0) ⟨0, 0, 0, 0, 0, 0, 0, 0, 0⟩ _ ?_
        intro W9 hL hb9 _ _
        obtain ⟨y0, y1, y2, y3, y4, y5, y6, y7, y8, y9⟩ := hL.cells
        dsimp only at y0 y1 y2 y3 y4 y5 y6 y7 y8 y9
        refine bodyPost_ret (v := .tuple #[noHeap, .bool false]) (by simp [results, Try.results25, go_sem, y0, y1, y2, y3, y4, y5, y6, y7, y8, y9, noHeap, heapV]) rfl ?_
        rw [HF.out]
        exact ⟨rfl, HB8.out.trans (hb9 _ (Nat.le_succ _))⟩

end Go.Proofs.Ytebpgglegnljgaa

/- The program's HeapScan. -/
namespace Go.Proofs.Ytebpgglegnljgaa
open Go.RowKit

set_option maxRecDepth 100000 in
theorem iOk_calls {v : Value} {h : HpN} {W : World} {R : Bool} (H : ∀ w, Below W.heap.size W w → Calls Try.prog 30 #[heapV v h] w fun e w' => (∃ (a a' : Option Addr) (n c n' c' : Nat) (h' : HpN), e = .returned (.tuple #[layV (.slice a n c) h' (.slice a' n' c'), .bool R])) ∧ Below w.heap.size w w') :
    Calls Try.prog 15 #[heapV v h] W fun e w' => e = .returned (.bool R) ∧ Below W.heap.size W w' := by
  have HH := hid H
  clear H
  obtain ⟨g1, g2, g3, g4, g5, g6, g7, g8, g9⟩ := h
  unfold heapV at *
  dsimp only at *
  go_enter Try.func15, Try.ntmps15
  go_wp2_with fail
  have k0 := (Below.refl W.heap.size W).alloc (Nat.le_refl _) (.cells #[v, .int .i64 g1, .int .i64 g2, .int .i64 g3, .int .i64 g4, .int .i64 g5, .int .i64 g6, .int .i64 g7, .int .i64 g8, .int .i64 g9] 25)
  refine (HH.out _ k0).mono ?_
  rintro e W1 ⟨⟨a, a', n, c, n', c', ⟨i1, i2, i3, i4, i5, i6, i7, i8, i9⟩, rfl⟩, hb⟩
  unfold layV
  dsimp only
  have HB := hid (k0.trans (hb.mono k0.size))
  clear hb k0 HH
  go_wp2_with fail
  go_ret
  exact ⟨rfl, HB.out.alloc HB.out.size _⟩

set_option maxHeartbeats 8000000 in
set_option maxRecDepth 100000 in
theorem iScan_below (b off cap N : Nat) (h : HpN) (x : Int) (w : World)
    (hx : x < 0) :
    Calls Try.prog 19 #[heapV (.slice (some ⟨b, off, none⟩) N cap) h, .int .i64 x] w fun e w' => e = .returned (.tuple #[noHeap, .bool false]) ∧ Below w.heap.size w w' := by
  obtain ⟨g1, g2, g3, g4, g5, g6, g7, g8, g9⟩ := h
  unfold heapV at *
  dsimp only at *
  obtain ⟨W0, hW0, hA, hR, k2⟩ := both_new w (.slice (some ⟨b, off, none⟩) N cap) ⟨g1, g2, g3, g4, g5, g6, g7, g8, g9⟩
  dsimp only at hW0
  have HB6 := hid k2
  have HR6 := hid hR
  clear hA hR k2
  obtain ⟨c0, c1, c2, c3, c4, c5, c6, c7, c8, c9⟩ := HR6.out.cells
  dsimp only at c0 c1 c2 c3 c4 c5 c6 c7 c8 c9
  have z0 := frozen_of_heap HR6.out 0
  have z1 := frozen_of_heap HR6.out 1
  have z2 := frozen_of_heap HR6.out 2
  have z3 := frozen_of_heap HR6.out 3
  have z4 := frozen_of_heap HR6.out 4
  have z5 := frozen_of_heap HR6.out 5
  have z6 := frozen_of_heap HR6.out 6
  have z7 := frozen_of_heap HR6.out 7
  have z8 := frozen_of_heap HR6.out 8
  have z9 := frozen_of_heap HR6.out 9
  go_enter Try.func19, Try.ntmps19
  go_wp2_with fail
  refine heap_use HR6.out (.slice none 0 0) ⟨0, 0, 0, 0, 0, 0, 0, 0, 0⟩ _ ?_
  intro W7 hL hb7 _ _
  obtain ⟨y0, y1, y2, y3, y4, y5, y6, y7, y8, y9⟩ := hL.cells
  dsimp only at y0 y1 y2 y3 y4 y5 y6 y7 y8 y9
  exact bodyPost_ret (v := .tuple #[noHeap, .bool false]) (by simp [results, Try.results19, go_sem, y0, y1, y2, y3, y4, y5, y6, y7, y8, y9, noHeap, heapV]) rfl ⟨rfl, HB6.out.trans (hb7 _ (Nat.le_succ _))⟩

set_option maxHeartbeats 8000000 in
set_option maxRecDepth 100000 in
theorem iScan_above (b off cap N : Nat) (h : HpN) (x : Int) (w : World)
    (hx : 4000 < x) (hd : decide (x < 0) = false) :
    Calls Try.prog 19 #[heapV (.slice (some ⟨b, off, none⟩) N cap) h, .int .i64 x] w fun e w' => e = .returned (.tuple #[noHeap, .bool false]) ∧ Below w.heap.size w w' := by
  obtain ⟨g1, g2, g3, g4, g5, g6, g7, g8, g9⟩ := h
  unfold heapV at *
  dsimp only at *
  obtain ⟨W0, hW0, hA, hR, k2⟩ := both_new w (.slice (some ⟨b, off, none⟩) N cap) ⟨g1, g2, g3, g4, g5, g6, g7, g8, g9⟩
  dsimp only at hW0
  have HB6 := hid k2
  have HR6 := hid hR
  clear hA hR k2
  obtain ⟨c0, c1, c2, c3, c4, c5, c6, c7, c8, c9⟩ := HR6.out.cells
  dsimp only at c0 c1 c2 c3 c4 c5 c6 c7 c8 c9
  have z0 := frozen_of_heap HR6.out 0
  have z1 := frozen_of_heap HR6.out 1
  have z2 := frozen_of_heap HR6.out 2
  have z3 := frozen_of_heap HR6.out 3
  have z4 := frozen_of_heap HR6.out 4
  have z5 := frozen_of_heap HR6.out 5
  have z6 := frozen_of_heap HR6.out 6
  have z7 := frozen_of_heap HR6.out 7
  have z8 := frozen_of_heap HR6.out 8
  have z9 := frozen_of_heap HR6.out 9
  go_enter Try.func19, Try.ntmps19
  go_wp2_with fail
  refine heap_use HR6.out (.slice none 0 0) ⟨0, 0, 0, 0, 0, 0, 0, 0, 0⟩ _ ?_
  intro W7 hL hb7 _ _
  obtain ⟨y0, y1, y2, y3, y4, y5, y6, y7, y8, y9⟩ := hL.cells
  dsimp only at y0 y1 y2 y3 y4 y5 y6 y7 y8 y9
  exact bodyPost_ret (v := .tuple #[noHeap, .bool false]) (by simp [results, Try.results19, go_sem, y0, y1, y2, y3, y4, y5, y6, y7, y8, y9, noHeap, heapV]) rfl ⟨rfl, HB6.out.trans (hb7 _ (Nat.le_succ _))⟩

set_option maxHeartbeats 8000000 in
set_option maxRecDepth 100000 in
theorem iScan_notOk (b off cap N : Nat) (h : HpN) (x : Int) (w : World)
    (hd : decide (x < 0) = false) (hd2 : decide (4000 < x) = false)
    (HOk : Hid (∀ X, Below w.heap.size w X → Calls Try.prog 15 #[heapV (.slice (some ⟨b, off, none⟩) N cap) h] X fun e w' => e = .returned (.bool false) ∧ Below X.heap.size X w')) :
    Calls Try.prog 19 #[heapV (.slice (some ⟨b, off, none⟩) N cap) h, .int .i64 x] w fun e w' => e = .returned (.tuple #[noHeap, .bool false]) ∧ Below w.heap.size w w' := by
  obtain ⟨g1, g2, g3, g4, g5, g6, g7, g8, g9⟩ := h
  unfold heapV at *
  dsimp only at *
  obtain ⟨W0, hW0, hA, hR, k2⟩ := both_new w (.slice (some ⟨b, off, none⟩) N cap) ⟨g1, g2, g3, g4, g5, g6, g7, g8, g9⟩
  dsimp only at hW0
  have HW0 := hid hW0
  clear hW0
  go_enter Try.func19, Try.ntmps19
  go_wp2_with fail
  rw [HW0.out]
  have hlt := heap_lt hA
  obtain ⟨v0, v1, v2, v3, v4, v5, v6, v7, v8, v9⟩ := hA.later (B := W0.heap.size) hlt
  dsimp only at v0 v1 v2 v3 v4 v5 v6 v7 v8 v9
  have HA := hid hA
  have HR := hid hR
  have HK2 := hid k2
  clear hA hR k2 HW0
  have KB : Hid (∀ X : Later W0.heap.size W0, Below w.heap.size w X.w ∧ w.heap.size ≤ X.w.heap.size) := fun X => by
    have k := HK2.out.trans (X.h.mono HK2.out.size)
    exact ⟨k, k.size⟩
  clear v0 v1 v2 v3 v4 v5 v6 v7 v8 v9
  refine (HOk.out _ HK2.out).mono ?_
  rintro e W6 ⟨rfl, hb6⟩
  have HB6 := hid (HK2.out.trans (hb6.mono HK2.out.size))
  have HR6 := hid (HR.out.below hb6)
  have HA6 := hid (HA.out.below hb6)
  clear hb6
  obtain ⟨c0, c1, c2, c3, c4, c5, c6, c7, c8, c9⟩ := HR6.out.cells
  dsimp only at c0 c1 c2 c3 c4 c5 c6 c7 c8 c9
  have z0 := frozen_of_heap HR6.out 0
  have z1 := frozen_of_heap HR6.out 1
  have z2 := frozen_of_heap HR6.out 2
  have z3 := frozen_of_heap HR6.out 3
  have z4 := frozen_of_heap HR6.out 4
  have z5 := frozen_of_heap HR6.out 5
  have z6 := frozen_of_heap HR6.out 6
  have z7 := frozen_of_heap HR6.out 7
  have z8 := frozen_of_heap HR6.out 8
  have z9 := frozen_of_heap HR6.out 9
  go_wp2_with fail
  refine heap_use HR6.out (.slice none 0 0) ⟨0, 0, 0, 0, 0, 0, 0, 0, 0⟩ _ ?_
  intro W7 hL hb7 _ _
  obtain ⟨y0, y1, y2, y3, y4, y5, y6, y7, y8, y9⟩ := hL.cells
  dsimp only at y0 y1 y2 y3 y4 y5 y6 y7 y8 y9
  exact bodyPost_ret (v := .tuple #[noHeap, .bool false]) (by simp [results, Try.results19, go_sem, y0, y1, y2, y3, y4, y5, y6, y7, y8, y9, noHeap, heapV]) rfl ⟨rfl, HB6.out.trans (hb7 _ (Nat.le_succ _))⟩

set_option maxHeartbeats 8000000 in
set_option maxRecDepth 100000 in
theorem iScan_good (b off cap N : Nat) (h : HpN) (x : Int) (w : World)
    (hd : decide (x < 0) = false) (hd2 : decide (4000 < x) = false) (s0 : CN) (o : Option CN)
    (HOk : Hid (∀ X, Below w.heap.size w X → Calls Try.prog 15 #[heapV (.slice (some ⟨b, off, none⟩) N cap) h] X fun e w' => e = .returned (.bool true) ∧ Below X.heap.size X w'))
    (HOp : Hid (∀ X, Below w.heap.size w X → Calls Try.prog 42 #[heapV (.slice (some ⟨b, off, none⟩) N cap) h] X fun e w' => ∃ bc bw cap' : Nat, e = .returned (.pointer (some ⟨bc, 0, none⟩)) ∧ ColAt X bc bw N cap' s0 w' ∧ X.heap.size ≤ bc ∧ X.heap.size ≤ bw))
    (HLk : Hid (∀ (X w0 : World) (bc bw cap' : Nat), ColAt w0 bc bw N cap' s0 X → Calls Try.prog 50 #[.pointer (some ⟨bc, 0, none⟩), .int .i64 x] X (LookPost w0 bc bw N cap' o)))
    (HTd : Hid (∀ (s1 : CN) (X w0 : World) (bc bw cap' : Nat), o = some s1 → ColAt w0 bc bw N cap' s1 X → Calls Try.prog 45 #[.pointer (some ⟨bc, 0, none⟩)] X fun e w' => e = .returned (heapV (.slice (some ⟨bw, 0, none⟩) N cap') { s1.h with touched := touchZ s1 }) ∧ Below X.heap.size X w')) :
    Calls Try.prog 19 #[heapV (.slice (some ⟨b, off, none⟩) N cap) h, .int .i64 x] w (ScanTold N w o) := by
  obtain ⟨g1, g2, g3, g4, g5, g6, g7, g8, g9⟩ := h
  unfold heapV at *
  dsimp only at *
  obtain ⟨W0, hW0, hA, hR, k2⟩ := both_new w (.slice (some ⟨b, off, none⟩) N cap) ⟨g1, g2, g3, g4, g5, g6, g7, g8, g9⟩
  dsimp only at hW0
  have HW0 := hid hW0
  clear hW0
  go_enter Try.func19, Try.ntmps19
  go_wp2_with fail
  rw [HW0.out]
  have hlt := heap_lt hA
  obtain ⟨v0, v1, v2, v3, v4, v5, v6, v7, v8, v9⟩ := hA.later (B := W0.heap.size) hlt
  dsimp only at v0 v1 v2 v3 v4 v5 v6 v7 v8 v9
  have HA := hid hA
  have HR := hid hR
  have HK2 := hid k2
  clear hA hR k2 HW0
  have KB : Hid (∀ X : Later W0.heap.size W0, Below w.heap.size w X.w ∧ w.heap.size ≤ X.w.heap.size) := fun X => by
    have k := HK2.out.trans (X.h.mono HK2.out.size)
    exact ⟨k, k.size⟩
  clear v0 v1 v2 v3 v4 v5 v6 v7 v8 v9
  refine (HOk.out _ HK2.out).mono ?_
  rintro e W6 ⟨rfl, hb6⟩
  have HB6 := hid (HK2.out.trans (hb6.mono HK2.out.size))
  have HR6 := hid (HR.out.below hb6)
  have HA6 := hid (HA.out.below hb6)
  clear hb6
  obtain ⟨c0, c1, c2, c3, c4, c5, c6, c7, c8, c9⟩ := HA6.out.cells
  dsimp only at c0 c1 c2 c3 c4 c5 c6 c7 c8 c9
  go_wp2_with fail
  refine (HOp.out _ HB6.out).mono ?_
  rintro e W7 ⟨bc, bw, cap', rfl, hW7, hlo, hlo2⟩
  have HW7 := hid hW7
  have hlt6 := heap_lt HR6.out
  clear hW7 HOp HA6 c0 c1 c2 c3 c4 c5 c6 c7 c8 c9
  have HLk' := hid (HLk.out _ _ _ _ _ HW7.out)
  clear HLk HW7
  go_wp2_with fail
  cases o with
  | none =>
    refine HLk'.out.mono ?_
    rintro e W8 ⟨rfl, s1, hC8⟩
    have HB8 := hid (HB6.out.trans ((Col.frame hC8).below hlo hlo2 |>.mono HB6.out.size))
    have HR8 := hid (HR6.out.below ((Col.frame hC8).below hlo hlo2))
    clear hC8 HR6 HB6 HTd HLk'
    obtain ⟨c0, c1, c2, c3, c4, c5, c6, c7, c8, c9⟩ := HR8.out.cells
    dsimp only at c0 c1 c2 c3 c4 c5 c6 c7 c8 c9
    have z0 := frozen_of_heap HR8.out 0
    have z1 := frozen_of_heap HR8.out 1
    have z2 := frozen_of_heap HR8.out 2
    have z3 := frozen_of_heap HR8.out 3
    have z4 := frozen_of_heap HR8.out 4
    have z5 := frozen_of_heap HR8.out 5
    have z6 := frozen_of_heap HR8.out 6
    have z7 := frozen_of_heap HR8.out 7
    have z8 := frozen_of_heap HR8.out 8
    have z9 := frozen_of_heap HR8.out 9
    go_wp2_with fail
    refine heap_use HR8.out (.slice none 0 0) ⟨0, 0, 0, 0, 0, 0, 0, 0, 0⟩ _ ?_
    intro W7 hL hb7 _ _
    obtain ⟨y0, y1, y2, y3, y4, y5, y6, y7, y8, y9⟩ := hL.cells
    dsimp only at y0 y1 y2 y3 y4 y5 y6 y7 y8 y9
    exact bodyPost_ret (v := .tuple #[noHeap, .bool false]) (by simp [results, Try.results19, go_sem, y0, y1, y2, y3, y4, y5, y6, y7, y8, y9, noHeap, heapV]) rfl ⟨rfl, HB8.out.trans (hb7 _ (Nat.le_succ _))⟩
  | some s1 =>
    refine HLk'.out.mono ?_
    rintro e W8 ⟨rfl, hC8⟩
    have HW8 := hid hC8
    have HTd' := hid (HTd.out s1 W8 W6 bc bw cap' rfl HW8.out)
    clear hC8 HLk' HTd
    obtain ⟨i9, hi9⟩ : ∃ i9, touchZ s1 = i9 := ⟨_, rfl⟩
    have HI9 := hid hi9
    rw [hi9] at HTd'
    clear hi9
    go_wp2_with fail
    refine HTd'.out.mono ?_
    rintro e W9 ⟨rfl, hb9⟩
    have HW9 := hid (Col.keep HW8.out hb9)
    have HR9 := hid (HR6.out.below (HW9.out.frame.below hlo hlo2))
    have HB9 := hid (HB6.out.trans ((HW9.out.frame.below hlo hlo2).mono HB6.out.size))
    obtain ⟨c0, c1, c2, c3, c4, c5, c6, c7, c8, c9⟩ := HR9.out.cells
    dsimp only at c0 c1 c2 c3 c4 c5 c6 c7 c8 c9
    have z0 := frozen_of_heap HR9.out 0
    have z1 := frozen_of_heap HR9.out 1
    have z2 := frozen_of_heap HR9.out 2
    have z3 := frozen_of_heap HR9.out 3
    have z4 := frozen_of_heap HR9.out 4
    have z5 := frozen_of_heap HR9.out 5
    have z6 := frozen_of_heap HR9.out 6
    have z7 := frozen_of_heap HR9.out 7
    have z8 := frozen_of_heap HR9.out 8
    have z9 := frozen_of_heap HR9.out 9
    clear hb9 HTd' HW8 HR6 HB6
    go_wp2_with fail
    refine heap_use HR9.out (.slice (some ⟨bw, 0, none⟩) N cap') ⟨s1.h.size, s1.h.to, s1.h.bottom, s1.h.top, s1.h.scan, s1.h.fb, s1.h.ft, s1.h.flips, i9⟩ _ ?_
    intro W10 hL hb10 _ hoth
    obtain ⟨y0, y1, y2, y3, y4, y5, y6, y7, y8, y9⟩ := hL.cells
    dsimp only at y0 y1 y2 y3 y4 y5 y6 y7 y8 y9
    refine bodyPost_ret (v := .tuple #[heapV (.slice (some ⟨bw, 0, none⟩) N cap') ⟨s1.h.size, s1.h.to, s1.h.bottom, s1.h.top, s1.h.scan, s1.h.fb, s1.h.ft, s1.h.flips, i9⟩, .bool true]) (by simp [results, Try.results19, go_sem, y0, y1, y2, y3, y4, y5, y6, y7, y8, y9, heapV]) rfl ?_
    exact ⟨bw, cap', by rw [HI9.out], HW9.out.row.of_block (hoth _ (by omega)), by have := HB9.out.size; omega, HB9.out.trans (hb10 _ (Nat.le_succ _))⟩

end Go.Proofs.Ytebpgglegnljgaa

/- HeapScan: both sides answer the same, whatever they are given. -/
namespace Go.Proofs.Ytebpgglegnljgaa
open Go.RowKit

/-- A heap and a bool are told; the heap's words are new. -/
def Told2 (W : World) (ans : List Int) (H : HpN) (ok : Bool) (e : Ending) (w' : World) : Prop :=
  (∃ v, e = .returned (.tuple #[heapV v H, .bool ok]) ∧ SliceR 3 1 W.heap.size w' v ans.length (intCells ans)) ∧ Below W.heap.size W w'

theorem told2_none {W w' : World} {e : Ending} (h : e = .returned (.tuple #[noHeap, .bool false]) ∧ Below W.heap.size W w') : Told2 W [] ⟨0, 0, 0, 0, 0, 0, 0, 0, 0⟩ false e w' :=
  ⟨⟨_, h.1, none, 0, rfl, Or.inl rfl⟩, h.2⟩

theorem told2_some {N : Nat} {W w' : World} {ws : List Int} {H : HpN} {e : Ending} (hl : ws.length = N) (h : HeapTold N W ws H e w') : Told2 W ws H true e w' := by
  obtain ⟨bw, cap, rfl, hr, hlow, hb⟩ := h
  subst hl
  exact ⟨⟨_, rfl, some ⟨bw, 0, none⟩, cap, rfl, Or.inr ⟨bw, rfl, hlow, by rw [Nat.mul_one]; exact hr⟩⟩, hb⟩

/-- Words in a row of their own, at a later world. -/
theorem row_at {B g N : Nat} {bs : List Int} {W X : World} (h0 : N ≠ 0) (hs : SliceR 3 1 B W (.slice (some ⟨g, 0, none⟩) N N) N (intCells bs)) (hX : Below W.heap.size W X) :
    g < X.heap.size ∧ ∀ k, k < N → X.cell? ⟨g, 0 + k, none⟩ = some (.int .i64 (bs.getD k 0)) := by
  obtain ⟨ad, cap, e, hh⟩ := hs
  obtain ⟨g', e2, hB, hr⟩ := hh.resolve_left h0
  cases e
  cases e2
  rw [Nat.mul_one] at hr
  exact ⟨Nat.lt_of_lt_of_le hr.lt hX.size, fun k hk => by rw [Nat.zero_add]; exact (hX.cell (p := ⟨g, k, none⟩) hr.lt).trans (hr.cell hk)⟩

theorem told_same (t r q : Int) : wrap64 (wrap64 (t + r) + q) = wrap64 (t + (r + q)) := by
  unfold wrap64
  omega

theorem scan_both (bs : List Int) (h : HpN) (ht : h.touched < 9223372036854775808) (hm : bs.length ≤ 1048576) (x : Int) : ∃ ans H ok, ans.length ≤ 1048576 ∧
    (∀ B g W, SliceR 3 1 B W (.slice (some ⟨g, 0, none⟩) bs.length bs.length) bs.length (intCells bs) → Calls Try.prog 25 #[heapV (.slice (some ⟨g, 0, none⟩) bs.length bs.length) h, .int .i64 x] W (Told2 W ans H ok)) ∧
    (∀ B g W, SliceR 3 1 B W (.slice (some ⟨g, 0, none⟩) bs.length bs.length) bs.length (intCells bs) → Calls Try.prog 19 #[heapV (.slice (some ⟨g, 0, none⟩) bs.length bs.length) h, .int .i64 x] W (Told2 W ans H ok)) := by
  have IOk : ∀ B g W, SliceR 3 1 B W (.slice (some ⟨g, 0, none⟩) bs.length bs.length) bs.length (intCells bs) → ∀ X, Below W.heap.size W X → Calls Try.prog 15 #[heapV (.slice (some ⟨g, 0, none⟩) bs.length bs.length) h] X fun e w' => e = .returned (.bool (if Ordered h bs.length then implOk bs h else false)) ∧ Below X.heap.size X w' := fun B g W hs X hX => by
    refine iOk_calls (fun w hb => ?_)
    have hXw := hX.trans (hb.mono hX.size)
    by_cases ho : Ordered h bs.length
    · rw [if_pos ho]
      have h0 : bs.length ≠ 0 := by obtain ⟨o1, o2, o3, _⟩ := ho; omega
      refine (layOut_calls g 0 bs.length bs.length bs h w rfl ho (Nat.le_refl _) (row_at h0 hs hXw).1 (row_at h0 hs hXw).2).mono ?_
      rintro e w' ⟨hres, hb'⟩
      refine ⟨?_, hb'⟩
      rcases hres with ⟨e1, rfl⟩ | ⟨S, gb, _, e1, rfl, _⟩
      · rw [e1]
        exact ⟨_, _, _, _, _, _, _, rfl⟩
      · rw [e1]
        exact ⟨_, _, _, _, _, _, _, rfl⟩
    · rw [if_neg ho]
      refine (layOut_bad _ _ _ h w ho).mono ?_
      rintro e w' ⟨rfl, hb'⟩
      exact ⟨⟨_, _, _, _, _, _, _, rfl⟩, hb'⟩
  have SOk : ∀ B g W, SliceR 3 1 B W (.slice (some ⟨g, 0, none⟩) bs.length bs.length) bs.length (intCells bs) → ∀ X, Below W.heap.size W X → Calls Try.prog 35 #[heapV (.slice (some ⟨g, 0, none⟩) bs.length bs.length) h] X fun e w' => e = .returned (.bool (if Ordered h bs.length then implOk bs h else false)) ∧ Below X.heap.size X w' := fun B g W hs X hX => by
    by_cases ho : Ordered h bs.length
    · rw [if_pos ho, ← ok_same ho]
      have h0 : bs.length ≠ 0 := by obtain ⟨o1, o2, o3, _⟩ := ho; omega
      exact specOk_calls g 0 bs.length bs.length bs h X rfl ho (row_at h0 hs hX).1 (row_at h0 hs hX).2
    · rw [if_neg ho]
      exact specOk_bad _ _ _ h X hm ho
  by_cases hx0 : x < 0
  · cases hk : (if Ordered h bs.length then implOk bs h else false) with
    | false =>
      rw [hk] at SOk
      exact ⟨[], _, _, by simp, fun B g W hs => (sScan_notOk g 0 bs.length bs.length h x W (SOk B g W hs)).mono (fun _ _ => told2_none), fun B g W hs => (iScan_below g 0 bs.length bs.length h x W hx0).mono (fun _ _ => told2_none)⟩
    | true =>
      rw [hk] at SOk
      exact ⟨[], _, _, by simp, fun B g W hs => (sScan_below g 0 bs.length bs.length h x W hx0 (SOk B g W hs)).mono (fun _ _ => told2_none), fun B g W hs => (iScan_below g 0 bs.length bs.length h x W hx0).mono (fun _ _ => told2_none)⟩
  have hd : decide (x < 0) = false := decide_eq_false hx0
  by_cases hx4 : 4000 < x
  · cases hk : (if Ordered h bs.length then implOk bs h else false) with
    | false =>
      rw [hk] at SOk
      exact ⟨[], _, _, by simp, fun B g W hs => (sScan_notOk g 0 bs.length bs.length h x W (SOk B g W hs)).mono (fun _ _ => told2_none), fun B g W hs => (iScan_above g 0 bs.length bs.length h x W hx4 hd).mono (fun _ _ => told2_none)⟩
    | true =>
      rw [hk] at SOk
      exact ⟨[], _, _, by simp, fun B g W hs => (sScan_above g 0 bs.length bs.length h x W hx4 hd (SOk B g W hs)).mono (fun _ _ => told2_none), fun B g W hs => (iScan_above g 0 bs.length bs.length h x W hx4 hd).mono (fun _ _ => told2_none)⟩
  have hd2 : decide (4000 < x) = false := decide_eq_false hx4
  cases hk : (if Ordered h bs.length then implOk bs h else false) with
  | false =>
    rw [hk] at SOk IOk
    exact ⟨[], _, _, by simp, fun B g W hs => (sScan_notOk g 0 bs.length bs.length h x W (SOk B g W hs)).mono (fun _ _ => told2_none), fun B g W hs => (iScan_notOk g 0 bs.length bs.length h x W hd hd2 (IOk B g W hs)).mono (fun _ _ => told2_none)⟩
  | true =>
    rw [hk] at SOk IOk
    have ho : Ordered h bs.length := by
      by_cases ho : Ordered h bs.length
      · exact ho
      · rw [if_neg ho] at hk
        cases hk
    rw [if_pos ho] at hk
    obtain ⟨S, ok⟩ := ok_facts ho (by rw [ok_same ho]; exact hk)
    have hstart := scn_start ok
    obtain ⟨o1, o2, o3, o4, o5, o6, o7, o8, o9, o10, o11, o12, o13⟩ := id ho
    have hN0 : bs.length ≠ 0 := by omega
    have hN8 : bs.length ≤ 8000 := by omega
    obtain ⟨n, hn⟩ := Int.eq_ofNat_of_zero_le (show 0 ≤ x by omega)
    have SOp : ∀ B g W, SliceR 3 1 B W (.slice (some ⟨g, 0, none⟩) bs.length bs.length) bs.length (intCells bs) → ∀ X, Below W.heap.size W X → Calls Try.prog 46 #[heapV (.slice (some ⟨g, 0, none⟩) bs.length bs.length) h] X fun e w' => ∃ bm bw cap' : Nat, e = .returned (.pointer (some ⟨bm, 0, none⟩)) ∧ Wk X bm bw bs.length cap' ⟨bs, h, 0, 0⟩ false w' ∧ X.heap.size ≤ bm ∧ X.heap.size ≤ bw := fun B g W hs X hX => open_calls g 0 bs.length bs.length bs h X (by omega) rfl hN8 (row_at hN0 hs hX).1 (row_at hN0 hs hX).2 o6 ht
    have IOp : ∀ B g W, SliceR 3 1 B W (.slice (some ⟨g, 0, none⟩) bs.length bs.length) bs.length (intCells bs) → ∀ X, Below W.heap.size W X → Calls Try.prog 42 #[heapV (.slice (some ⟨g, 0, none⟩) bs.length bs.length) h] X fun e w' => ∃ bc bw cap' : Nat, e = .returned (.pointer (some ⟨bc, 0, none⟩)) ∧ ColAt X bc bw bs.length cap' ⟨bs, h, 0, 0⟩ w' ∧ X.heap.size ≤ bc ∧ X.heap.size ≤ bw := fun B g W hs X hX => collectorOf_calls g 0 bs.length bs.length bs h X (by omega) rfl hN8 (row_at hN0 hs hX).1 (row_at hN0 hs hX).2
    have sS := fun B g W hs => sScan_good g 0 bs.length bs.length h x W n hn (by omega) hd hd2 ⟨bs, h, 0, 0⟩ (SOk B g W hs) (SOp B g W hs) (fun q s' X w0 bm bw cap' hq hX => sscan_calls hX (scanRun_scn hstart q s' hq))
    have sI := fun B g W hs => iScan_good g 0 bs.length bs.length h x W hd hd2 ⟨bs, h, 0, 0⟩ (scanRun n ⟨bs, h, 0, 0⟩) (IOk B g W hs) (IOp B g W hs) (fun X w0 bc bw cap' hX => by rw [hn]; exact look_calls ⟨bs, h, 0, 0⟩ hX hstart n (by omega)) (fun s1 X w0 bc bw cap' _ hX => by
      have e := told_calls hX
      rw [told_same] at e
      exact e)
    cases hr : scanRun n ⟨bs, h, 0, 0⟩ with
    | none =>
      rw [hr] at sS sI
      exact ⟨[], _, _, by simp, fun B g W hs => (sS B g W hs).mono (fun _ _ => told2_none), fun B g W hs => (sI B g W hs).mono (fun _ _ => told2_none)⟩
    | some s1 =>
      rw [hr] at sS sI
      have hl := (scanRun_scn hstart n s1 hr).len
      exact ⟨s1.ws, _, _, by omega, fun B g W hs => (sS B g W hs).mono (fun _ _ h => told2_some hl h), fun B g W hs => (sI B g W hs).mono (fun _ _ h => told2_some hl h)⟩
end Go.Proofs.Ytebpgglegnljgaa

/- HeapScan: what both sides answer, whatever they are given. -/
namespace Go.Proofs.Ytebpgglegnljgaa
open Go.RowKit

/-- The words and the numbers that are answered. -/
def ansW : Option CN → List Int
  | none => []
  | some s => s.ws
def ansH : Option CN → HpN
  | none => ⟨0, 0, 0, 0, 0, 0, 0, 0, 0⟩
  | some s => { s.h with touched := touchZ s }

/-- Looking through, as it is asked for. -/
def scanA (bs : List Int) (h : HpN) (x : Int) : Option CN := if 0 ≤ x ∧ x ≤ 4000 ∧ Ordered h bs.length ∧ specOk bs h = true then scanRun x.toNat ⟨bs, h, 0, 0⟩ else none

/-- Words in a row of their own, with room or without, at a later world. -/
theorem row_atC {B g N cp : Nat} {bs : List Int} {W X : World} (h0 : N ≠ 0) (hs : SliceR 3 1 B W (.slice (some ⟨g, 0, none⟩) N cp) N (intCells bs)) (hX : Below W.heap.size W X) :
    g < X.heap.size ∧ ∀ k, k < N → X.cell? ⟨g, 0 + k, none⟩ = some (.int .i64 (bs.getD k 0)) := by
  obtain ⟨ad, cap, e, hh⟩ := hs
  obtain ⟨g', e2, hB, hr⟩ := hh.resolve_left h0
  cases e
  cases e2
  rw [Nat.mul_one] at hr
  exact ⟨Nat.lt_of_lt_of_le hr.lt hX.size, fun k hk => by rw [Nat.zero_add]; exact (hX.cell (p := ⟨g, k, none⟩) hr.lt).trans (hr.cell hk)⟩

theorem scan_told (bs : List Int) (h : HpN) (ht : h.touched < 9223372036854775808) (hm : bs.length ≤ 1048576) (x : Int) :
    (∀ B g cp W, bs.length ≤ cp → SliceR 3 1 B W (.slice (some ⟨g, 0, none⟩) bs.length cp) bs.length (intCells bs) → Calls Try.prog 25 #[heapV (.slice (some ⟨g, 0, none⟩) bs.length cp) h, .int .i64 x] W (Told2 W (ansW (scanA bs h x)) (ansH (scanA bs h x)) (scanA bs h x).isSome)) ∧
    (∀ B g cp W, bs.length ≤ cp → SliceR 3 1 B W (.slice (some ⟨g, 0, none⟩) bs.length cp) bs.length (intCells bs) → Calls Try.prog 19 #[heapV (.slice (some ⟨g, 0, none⟩) bs.length cp) h, .int .i64 x] W (Told2 W (ansW (scanA bs h x)) (ansH (scanA bs h x)) (scanA bs h x).isSome)) := by
  have IOk : ∀ B g cp W, bs.length ≤ cp → SliceR 3 1 B W (.slice (some ⟨g, 0, none⟩) bs.length cp) bs.length (intCells bs) → ∀ X, Below W.heap.size W X → Calls Try.prog 15 #[heapV (.slice (some ⟨g, 0, none⟩) bs.length cp) h] X fun e w' => e = .returned (.bool (if Ordered h bs.length then implOk bs h else false)) ∧ Below X.heap.size X w' := fun B g cp W hcp hs X hX => by
    refine iOk_calls (fun w hb => ?_)
    have hXw := hX.trans (hb.mono hX.size)
    by_cases ho : Ordered h bs.length
    · rw [if_pos ho]
      have h0 : bs.length ≠ 0 := by obtain ⟨o1, o2, o3, _⟩ := ho; omega
      refine (layOut_calls g 0 cp bs.length bs h w rfl ho hcp (row_atC h0 hs hXw).1 (row_atC h0 hs hXw).2).mono ?_
      rintro e w' ⟨hres, hb'⟩
      refine ⟨?_, hb'⟩
      rcases hres with ⟨e1, rfl⟩ | ⟨S, gb, _, e1, rfl, _⟩
      · rw [e1]
        exact ⟨_, _, _, _, _, _, _, rfl⟩
      · rw [e1]
        exact ⟨_, _, _, _, _, _, _, rfl⟩
    · rw [if_neg ho]
      refine (layOut_bad _ _ _ h w ho).mono ?_
      rintro e w' ⟨rfl, hb'⟩
      exact ⟨⟨_, _, _, _, _, _, _, rfl⟩, hb'⟩
  have SOk : ∀ B g cp W, bs.length ≤ cp → SliceR 3 1 B W (.slice (some ⟨g, 0, none⟩) bs.length cp) bs.length (intCells bs) → ∀ X, Below W.heap.size W X → Calls Try.prog 35 #[heapV (.slice (some ⟨g, 0, none⟩) bs.length cp) h] X fun e w' => e = .returned (.bool (if Ordered h bs.length then implOk bs h else false)) ∧ Below X.heap.size X w' := fun B g cp W hcp hs X hX => by
    by_cases ho : Ordered h bs.length
    · rw [if_pos ho, ← ok_same ho]
      have h0 : bs.length ≠ 0 := by obtain ⟨o1, o2, o3, _⟩ := ho; omega
      exact specOk_calls g 0 cp bs.length bs h X rfl ho (row_atC h0 hs hX).1 (row_atC h0 hs hX).2
    · rw [if_neg ho]
      exact specOk_bad _ _ _ h X hm ho
  by_cases hx0 : x < 0
  · cases hk : (if Ordered h bs.length then implOk bs h else false) with
    | false =>
      rw [hk] at SOk
      have eN : scanA bs h x = none := by
        unfold scanA
        rw [if_neg]
        rintro ⟨a1, a2, a3, a4⟩
        first
        | omega
        | (rw [if_pos a3, ← ok_same a3, a4] at hk; cases hk)
      rw [eN]
      exact ⟨fun B g cp W hcp hs => (sScan_notOk g 0 cp bs.length h x W (SOk B g cp W hcp hs)).mono (fun _ _ => told2_none), fun B g cp W hcp hs => (iScan_below g 0 cp bs.length h x W hx0).mono (fun _ _ => told2_none)⟩
    | true =>
      rw [hk] at SOk
      have eN : scanA bs h x = none := by
        unfold scanA
        rw [if_neg]
        rintro ⟨a1, a2, a3, a4⟩
        first
        | omega
        | (rw [if_pos a3, ← ok_same a3, a4] at hk; cases hk)
      rw [eN]
      exact ⟨fun B g cp W hcp hs => (sScan_below g 0 cp bs.length h x W hx0 (SOk B g cp W hcp hs)).mono (fun _ _ => told2_none), fun B g cp W hcp hs => (iScan_below g 0 cp bs.length h x W hx0).mono (fun _ _ => told2_none)⟩
  have hd : decide (x < 0) = false := decide_eq_false hx0
  by_cases hx4 : 4000 < x
  · cases hk : (if Ordered h bs.length then implOk bs h else false) with
    | false =>
      rw [hk] at SOk
      have eN : scanA bs h x = none := by
        unfold scanA
        rw [if_neg]
        rintro ⟨a1, a2, a3, a4⟩
        first
        | omega
        | (rw [if_pos a3, ← ok_same a3, a4] at hk; cases hk)
      rw [eN]
      exact ⟨fun B g cp W hcp hs => (sScan_notOk g 0 cp bs.length h x W (SOk B g cp W hcp hs)).mono (fun _ _ => told2_none), fun B g cp W hcp hs => (iScan_above g 0 cp bs.length h x W hx4 hd).mono (fun _ _ => told2_none)⟩
    | true =>
      rw [hk] at SOk
      have eN : scanA bs h x = none := by
        unfold scanA
        rw [if_neg]
        rintro ⟨a1, a2, a3, a4⟩
        first
        | omega
        | (rw [if_pos a3, ← ok_same a3, a4] at hk; cases hk)
      rw [eN]
      exact ⟨fun B g cp W hcp hs => (sScan_above g 0 cp bs.length h x W hx4 hd (SOk B g cp W hcp hs)).mono (fun _ _ => told2_none), fun B g cp W hcp hs => (iScan_above g 0 cp bs.length h x W hx4 hd).mono (fun _ _ => told2_none)⟩
  have hd2 : decide (4000 < x) = false := decide_eq_false hx4
  cases hk : (if Ordered h bs.length then implOk bs h else false) with
  | false =>
    rw [hk] at SOk IOk
    have eN : scanA bs h x = none := by
      unfold scanA
      rw [if_neg]
      rintro ⟨a1, a2, a3, a4⟩
      first
      | omega
      | (rw [if_pos a3, ← ok_same a3, a4] at hk; cases hk)
    rw [eN]
    exact ⟨fun B g cp W hcp hs => (sScan_notOk g 0 cp bs.length h x W (SOk B g cp W hcp hs)).mono (fun _ _ => told2_none), fun B g cp W hcp hs => (iScan_notOk g 0 cp bs.length h x W hd hd2 (IOk B g cp W hcp hs)).mono (fun _ _ => told2_none)⟩
  | true =>
    rw [hk] at SOk IOk
    have ho : Ordered h bs.length := by
      by_cases ho : Ordered h bs.length
      · exact ho
      · rw [if_neg ho] at hk
        cases hk
    rw [if_pos ho] at hk
    obtain ⟨S, ok⟩ := ok_facts ho (by rw [ok_same ho]; exact hk)
    have hstart := scn_start ok
    obtain ⟨o1, o2, o3, o4, o5, o6, o7, o8, o9, o10, o11, o12, o13⟩ := id ho
    have hN0 : bs.length ≠ 0 := by omega
    have hN8 : bs.length ≤ 8000 := by omega
    obtain ⟨n, hn⟩ := Int.eq_ofNat_of_zero_le (show 0 ≤ x by omega)
    have SOp : ∀ B g cp W, bs.length ≤ cp → SliceR 3 1 B W (.slice (some ⟨g, 0, none⟩) bs.length cp) bs.length (intCells bs) → ∀ X, Below W.heap.size W X → Calls Try.prog 46 #[heapV (.slice (some ⟨g, 0, none⟩) bs.length cp) h] X fun e w' => ∃ bm bw cap' : Nat, e = .returned (.pointer (some ⟨bm, 0, none⟩)) ∧ Wk X bm bw bs.length cap' ⟨bs, h, 0, 0⟩ false w' ∧ X.heap.size ≤ bm ∧ X.heap.size ≤ bw := fun B g cp W hcp hs X hX => open_calls g 0 cp bs.length bs h X (by omega) rfl hN8 (row_atC hN0 hs hX).1 (row_atC hN0 hs hX).2 o6 ht
    have IOp : ∀ B g cp W, bs.length ≤ cp → SliceR 3 1 B W (.slice (some ⟨g, 0, none⟩) bs.length cp) bs.length (intCells bs) → ∀ X, Below W.heap.size W X → Calls Try.prog 42 #[heapV (.slice (some ⟨g, 0, none⟩) bs.length cp) h] X fun e w' => ∃ bc bw cap' : Nat, e = .returned (.pointer (some ⟨bc, 0, none⟩)) ∧ ColAt X bc bw bs.length cap' ⟨bs, h, 0, 0⟩ w' ∧ X.heap.size ≤ bc ∧ X.heap.size ≤ bw := fun B g cp W hcp hs X hX => collectorOf_calls g 0 cp bs.length bs h X (by omega) rfl hN8 (row_atC hN0 hs hX).1 (row_atC hN0 hs hX).2
    have sS := fun B g cp W hcp hs => sScan_good g 0 cp bs.length h x W n hn (by omega) hd hd2 ⟨bs, h, 0, 0⟩ (SOk B g cp W hcp hs) (SOp B g cp W hcp hs) (fun q s' X w0 bm bw cap' hq hX => sscan_calls hX (scanRun_scn hstart q s' hq))
    have sI := fun B g cp W hcp hs => iScan_good g 0 cp bs.length h x W hd hd2 ⟨bs, h, 0, 0⟩ (scanRun n ⟨bs, h, 0, 0⟩) (IOk B g cp W hcp hs) (IOp B g cp W hcp hs) (fun X w0 bc bw cap' hX => by rw [hn]; exact look_calls ⟨bs, h, 0, 0⟩ hX hstart n (by omega)) (fun s1 X w0 bc bw cap' _ hX => by
      have e := told_calls hX
      rw [told_same] at e
      exact e)
    cases hr : scanRun n ⟨bs, h, 0, 0⟩ with
    | none =>
      rw [hr] at sS sI
      have eN : scanA bs h x = none := by
        unfold scanA
        rw [if_pos ⟨by omega, by omega, ho, by rw [ok_same ho]; exact hk⟩, hn, Int.toNat_natCast]
        exact hr
      rw [eN]
      exact ⟨fun B g cp W hcp hs => (sS B g cp W hcp hs).mono (fun _ _ => told2_none), fun B g cp W hcp hs => (sI B g cp W hcp hs).mono (fun _ _ => told2_none)⟩
    | some s1 =>
      rw [hr] at sS sI
      have hl := (scanRun_scn hstart n s1 hr).len
      have eN : scanA bs h x = some s1 := by
        unfold scanA
        rw [if_pos ⟨by omega, by omega, ho, by rw [ok_same ho]; exact hk⟩, hn, Int.toNat_natCast]
        exact hr
      rw [eN]
      exact ⟨fun B g cp W hcp hs => (sS B g cp W hcp hs).mono (fun _ _ h => told2_some hl h), fun B g cp W hcp hs => (sI B g cp W hcp hs).mono (fun _ _ h => told2_some hl h)⟩
end Go.Proofs.Ytebpgglegnljgaa

/- HeapField: what both sides answer, whatever they are given. -/
namespace Go.Proofs.Ytebpgglegnljgaa
open Go.RowKit

open Classical in
/-- A field is read, as it is asked for. -/
noncomputable def fieldA (bs : List Int) (h : HpN) (x i : Int) : Option (Int × CN) :=
  if ∃ S, OkHeap bs S h ∧ x % 8 = 0 ∧ wordOkZ S h x = true ∧ 0 ≤ i ∧ i < S.getD (x / 8).toNat 0 - 1 then
    match fieldZ ⟨bs, h, 0, 0⟩ ((x / 8).toNat + 1 + i.toNat) with
    | (some u, s) => some (u, s)
    | (none, _) => none
  else none

def fW : Option (Int × CN) → List Int
  | none => []
  | some p => p.2.ws
def fH : Option (Int × CN) → HpN
  | none => ⟨0, 0, 0, 0, 0, 0, 0, 0, 0⟩
  | some p => { p.2.h with touched := touchZ p.2 }
def fU : Option (Int × CN) → Int
  | none => 0
  | some p => p.1

theorem ok_spec {ws S : List Int} {h : HpN} (ok : OkHeap ws S h) : specOk ws h = true := by
  unfold specOk
  rw [ok.spec]
  dsimp only
  rw [ok.objs, Bool.and_true]
  by_cases hb : h.scan < h.bottom
  · have := ok.scan hb
    rw [decide_eq_true hb, Bool.true_and]
    simpa using this
  · rw [decide_eq_false hb]
    rfl

/-- A heap, a number and a bool are told; the heap's words are new, and have room. -/
def Told3C (W : World) (ans : List Int) (H : HpN) (u : Int) (ok : Bool) (e : Ending) (w' : World) : Prop :=
  (∃ ad cp, e = .returned (.tuple #[heapV (.slice ad ans.length cp) H, .int .i64 u, .bool ok]) ∧ SliceR 3 1 W.heap.size w' (.slice ad ans.length cp) ans.length (intCells ans) ∧ ans.length ≤ cp) ∧ Below W.heap.size W w'

theorem told_noneC {W w' : World} {e : Ending} (h : e = .returned (.tuple #[noHeap, .int .i64 0, .bool false]) ∧ Below W.heap.size W w') : Told3C W [] ⟨0, 0, 0, 0, 0, 0, 0, 0, 0⟩ 0 false e w' :=
  ⟨⟨none, 0, h.1, ⟨none, 0, rfl, Or.inl rfl⟩, Nat.le_refl _⟩, h.2⟩

theorem told_someC {N : Nat} {W w' : World} {ws : List Int} {H : HpN} {u : Int} {e : Ending} (hl : ws.length = N) (h : FieldToldC N W ws H u e w') : Told3C W ws H u true e w' := by
  obtain ⟨bw, cap, rfl, hr, hlow, hb, hc⟩ := h
  subst hl
  exact ⟨⟨some ⟨bw, 0, none⟩, cap, rfl, ⟨_, _, rfl, Or.inr ⟨bw, rfl, hlow, by rw [Nat.mul_one]; exact hr⟩⟩, hc⟩, hb⟩

theorem field_told (bs : List Int) (h : HpN) (ht : h.touched < 9223372036854775808) (hm : bs.length ≤ 1048576) (x i : Int) :
    (∀ B g cp W, bs.length ≤ cp → SliceR 3 1 B W (.slice (some ⟨g, 0, none⟩) bs.length cp) bs.length (intCells bs) → Calls Try.prog 22 #[heapV (.slice (some ⟨g, 0, none⟩) bs.length cp) h, .int .i64 x, .int .i64 i] W (Told3 W (fW (fieldA bs h x i)) (fH (fieldA bs h x i)) (fU (fieldA bs h x i)) (fieldA bs h x i).isSome)) ∧
    (∀ B g cp W, bs.length ≤ cp → SliceR 3 1 B W (.slice (some ⟨g, 0, none⟩) bs.length cp) bs.length (intCells bs) → Calls Try.prog 21 #[heapV (.slice (some ⟨g, 0, none⟩) bs.length cp) h, .int .i64 x, .int .i64 i] W (Told3C W (fW (fieldA bs h x i)) (fH (fieldA bs h x i)) (fU (fieldA bs h x i)) (fieldA bs h x i).isSome)) := by
  by_cases ho : Ordered h bs.length
  case neg =>
    have eN : fieldA bs h x i = none := by
      unfold fieldA
      rw [if_neg]
      rintro ⟨S', ok', a1, a2, a3, a4⟩
      first
      | exact ho ok'.ord
      | (rw [ok_spec ok'] at hk; cases hk; done)
      | exact hx a1
      | (obtain rfl : S' = S := Option.some.inj (ok'.spec.symm.trans ok.spec); rw [used_same ok', hl] at a2; cases a2; done)
      | (omega)
      | (obtain rfl : S' = S := Option.some.inj (ok'.spec.symm.trans ok.spec); rw [hkx, Int.toNat_natCast] at a4; omega)
    rw [eN]
    refine ⟨fun B g cp W _ _ => (sField_notOk g 0 cp bs.length h x i W (fun X _ => specOk_bad _ _ _ h X hm ho)).mono (fun _ _ => told_none), fun B g cp W _ _ => (iField_notOk g 0 cp bs.length h x i W (fun X _ => layOut_bad _ _ _ h X ho)).mono (fun _ _ => told_noneC)⟩
  have hN0 : bs.length ≠ 0 := by obtain ⟨o1, o2, o3, _⟩ := ho; omega
  have hN8 : bs.length ≤ 8000 := by obtain ⟨o1, o2, o3, _⟩ := ho; omega
  -- the specification's and the program's own looks
  have SOk : ∀ B g cp W, bs.length ≤ cp → SliceR 3 1 B W (.slice (some ⟨g, 0, none⟩) bs.length cp) bs.length (intCells bs) → ∀ X, Below W.heap.size W X → Calls Try.prog 35 #[heapV (.slice (some ⟨g, 0, none⟩) bs.length cp) h] X fun e w' => e = .returned (.bool (specOk bs h)) ∧ Below X.heap.size X w' := fun B g cp W hcp hs X hX =>
    specOk_calls g 0 cp bs.length bs h X rfl ho (row_atC hN0 hs hX).1 (row_atC hN0 hs hX).2
  have ILy : ∀ B g cp W, bs.length ≤ cp → SliceR 3 1 B W (.slice (some ⟨g, 0, none⟩) bs.length cp) bs.length (intCells bs) → ∀ X, Below W.heap.size W X → Calls Try.prog 30 #[heapV (.slice (some ⟨g, 0, none⟩) bs.length cp) h] X (LayTold g 0 cp bs.length bs h X) := fun B g cp W hcp hs X hX =>
    layOut_calls g 0 cp bs.length bs h X rfl ho hcp (row_atC hN0 hs hX).1 (row_atC hN0 hs hX).2
  cases hk : specOk bs h with
  | false =>
    have hki : implOk bs h = false := by rw [← ok_same ho]; exact hk
    rw [hk] at SOk
    have eN : fieldA bs h x i = none := by
      unfold fieldA
      rw [if_neg]
      rintro ⟨S', ok', a1, a2, a3, a4⟩
      first
      | exact ho ok'.ord
      | (rw [ok_spec ok'] at hk; cases hk; done)
      | exact hx a1
      | (obtain rfl : S' = S := Option.some.inj (ok'.spec.symm.trans ok.spec); rw [used_same ok', hl] at a2; cases a2; done)
      | (omega)
      | (obtain rfl : S' = S := Option.some.inj (ok'.spec.symm.trans ok.spec); rw [hkx, Int.toNat_natCast] at a4; omega)
    rw [eN]
    refine ⟨fun B g cp W hcp hs => (sField_notOk g 0 cp bs.length h x i W (SOk B g cp W hcp hs)).mono (fun _ _ => told_none), fun B g cp W hcp hs => (iField_notOk g 0 cp bs.length h x i W (fun X hX => (ILy B g cp W hcp hs X hX).mono ?_)).mono (fun _ _ => told_noneC)⟩
    rintro e w' ⟨hres, hb'⟩
    rcases hres with ⟨_, e1⟩ | ⟨S, gb, _, e2, _⟩
    · exact ⟨e1, hb'⟩
    · rw [hki] at e2
      cases e2
  | true =>
    have hki : implOk bs h = true := by rw [← ok_same ho]; exact hk
    rw [hk] at SOk
    obtain ⟨S, ok⟩ := ok_facts ho hk
    have ILg : ∀ B g cp W, bs.length ≤ cp → SliceR 3 1 B W (.slice (some ⟨g, 0, none⟩) bs.length cp) bs.length (intCells bs) → ∀ X, Below W.heap.size W X → Calls Try.prog 30 #[heapV (.slice (some ⟨g, 0, none⟩) bs.length cp) h] X fun e w' => ∃ gb, e = .returned (.tuple #[layV (.slice (some ⟨g, 0, none⟩) bs.length cp) h (.slice (some ⟨gb, 0, none⟩) bs.length bs.length), .bool true]) ∧ Hid (ISt g 0 gb bs.length bs S w') ∧ Below X.heap.size X w' := fun B g cp W hcp hs X hX => (ILy B g cp W hcp hs X hX).mono (by
      rintro e w' ⟨hres, hb'⟩
      rcases hres with ⟨e1, _⟩ | ⟨S', gb, e1, _, e2, _, e3⟩
      · rw [hki] at e1
        cases e1
      · rw [ok.impl] at e1
        cases e1
        exact ⟨gb, e2, e3, hb'⟩)
    have ILd : ∀ (g cp : Nat), ∀ (X : World) (gb : Nat), ISt g 0 gb bs.length bs S X → Calls Try.prog 51 #[layV (.slice (some ⟨g, 0, none⟩) bs.length cp) h (.slice (some ⟨gb, 0, none⟩) bs.length bs.length), .int .i64 x, .int .i64 h.to] X fun e w' => e = .returned (.bool (leadsZ S h.size x h.to)) ∧ Below X.heap.size X w' := fun g cp X gb hI => leads_st hI _ h ho x h.to (Or.inl rfl)
    have STg := fun w => specTag_calls x w
    unfold tagZ at STg
    by_cases hx : x % 8 = 0
    case neg =>
      have hl : leadsZ S h.size x h.to = false := by unfold leadsZ; rw [decide_eq_false hx]; rfl
      rw [hl] at ILd
      have eN : fieldA bs h x i = none := by
        unfold fieldA
        rw [if_neg]
        rintro ⟨S', ok', a1, a2, a3, a4⟩
        first
        | exact ho ok'.ord
        | (rw [ok_spec ok'] at hk; cases hk; done)
        | exact hx a1
        | (obtain rfl : S' = S := Option.some.inj (ok'.spec.symm.trans ok.spec); rw [used_same ok', hl] at a2; cases a2; done)
        | (omega)
        | (obtain rfl : S' = S := Option.some.inj (ok'.spec.symm.trans ok.spec); rw [hkx, Int.toNat_natCast] at a4; omega)
      rw [eN]
      exact ⟨fun B g cp W hcp hs => (sField_noPtr g 0 cp bs.length h x i W (x % 8) (by simpa using hx) (SOk B g cp W hcp hs) STg).mono (fun _ _ => told_none), fun B g cp W hcp hs => (iField_noRoot g 0 cp bs.length h x i W bs S (ILg B g cp W hcp hs) (ILd g cp)).mono (fun _ _ => told_noneC)⟩
    rw [hx] at STg
    have SRt : ∀ B g cp W, bs.length ≤ cp → SliceR 3 1 B W (.slice (some ⟨g, 0, none⟩) bs.length cp) bs.length (intCells bs) → ∀ X, Below W.heap.size W X → ∀ g', X.cell? ⟨g', 0, none⟩ = some (.int .i64 x) → Calls Try.prog 36 #[heapV (.slice (some ⟨g, 0, none⟩) bs.length cp) h, .slice (some ⟨g', 0, none⟩) 1 1] X fun e w' => e = .returned (.bool (specLeads bs S h x false)) ∧ Below X.heap.size X w' := fun B g cp W hcp hs X hX g' hg' => by
      have e := specRoots_calls g 0 cp bs.length bs S h (.slice (some ⟨g', 0, none⟩) 1 1) [x] X rfl ho ok.spec (row_atC hN0 hs hX).1 (row_atC hN0 hs hX).2 ⟨_, 1, rfl, Or.inr ⟨g', 0, rfl, block_in hg', fun k hk => by
        obtain rfl : k = 0 := by simpa using hk
        exact hg'⟩⟩ (by simp)
      have e2 : specRoots bs S h [x] = specLeads bs S h x false := by simp [specRoots]
      rw [e2] at e
      exact e
    have hsame : leadsZ S h.size x h.to = specLeads bs S h x false := by
      rw [← used_same ok x]
      unfold wordOkZ
      rw [if_pos hx]
    rw [hsame] at ILd
    cases hl : specLeads bs S h x false with
    | false =>
      rw [hl] at SRt ILd
      have eN : fieldA bs h x i = none := by
        unfold fieldA
        rw [if_neg]
        rintro ⟨S', ok', a1, a2, a3, a4⟩
        first
        | exact ho ok'.ord
        | (rw [ok_spec ok'] at hk; cases hk; done)
        | exact hx a1
        | (obtain rfl : S' = S := Option.some.inj (ok'.spec.symm.trans ok.spec); rw [used_same ok', hl] at a2; cases a2; done)
        | (omega)
        | (obtain rfl : S' = S := Option.some.inj (ok'.spec.symm.trans ok.spec); rw [hkx, Int.toNat_natCast] at a4; omega)
      rw [eN]
      exact ⟨fun B g cp W hcp hs => (sField_noRoot g 0 cp bs.length h x i W (SOk B g cp W hcp hs) STg (SRt B g cp W hcp hs)).mono (fun _ _ => told_none), fun B g cp W hcp hs => (iField_noRoot g 0 cp bs.length h x i W bs S (ILg B g cp W hcp hs) (ILd g cp)).mono (fun _ _ => told_noneC)⟩
    | true =>
      rw [hl] at SRt ILd
      by_cases hi : i < 0
      · have eN : fieldA bs h x i = none := by
          unfold fieldA
          rw [if_neg]
          rintro ⟨S', ok', a1, a2, a3, a4⟩
          first
          | exact ho ok'.ord
          | (rw [ok_spec ok'] at hk; cases hk; done)
          | exact hx a1
          | (obtain rfl : S' = S := Option.some.inj (ok'.spec.symm.trans ok.spec); rw [used_same ok', hl] at a2; cases a2; done)
          | (omega)
          | (obtain rfl : S' = S := Option.some.inj (ok'.spec.symm.trans ok.spec); rw [hkx, Int.toNat_natCast] at a4; omega)
        rw [eN]
        exact ⟨fun B g cp W hcp hs => (sField_below g 0 cp bs.length h x i W hi (SOk B g cp W hcp hs) STg (SRt B g cp W hcp hs)).mono (fun _ _ => told_none), fun B g cp W hcp hs => (iField_below g 0 cp bs.length h x i W bs S hi (ILg B g cp W hcp hs) (ILd g cp)).mono (fun _ _ => told_noneC)⟩
      obtain ⟨l1, l2, l3, l4⟩ := specLeads_at hx hl
      have hin : inZ h (x / 8) = true := by
        rcases l4 with ⟨e, _⟩ | ⟨_, e⟩
        · exact e
        · cases e
      obtain ⟨k, hkx⟩ := Int.eq_ofNat_of_zero_le l1
      rw [hkx, Int.toNat_natCast] at l3
      rw [hkx] at l2 hin
      obtain ⟨hd3, hdl, hdh⟩ := (heads_noted ok.noted).2 k l3
      have hst := used_stays ok l3 hin
      have hd : decide (i < 0) = false := decide_eq_false hi
      have SNum := fun w => specNum_calls x w
      have INum := fun w => implNum_calls x w
      unfold numZ at SNum INum
      rw [hkx] at SNum INum
      have hkN : k < bs.length := by omega
      have HF : ∀ B g cp W, bs.length ≤ cp → SliceR 3 1 B W (.slice (some ⟨g, 0, none⟩) bs.length cp) bs.length (intCells bs) → W.cell? ⟨g, 0 + k, none⟩ = some (.int .i64 (bs.getD k 0)) := fun B g cp W hcp hs => (row_atC hN0 hs (Below.refl _ _)).2 k hkN
      have HG : ∀ B g cp W, bs.length ≤ cp → SliceR 3 1 B W (.slice (some ⟨g, 0, none⟩) bs.length cp) bs.length (intCells bs) → g < W.heap.size := fun B g cp W hcp hs => (row_atC hN0 hs (Below.refl _ _)).1
      by_cases hp : S.getD k 0 - 1 ≤ i
      · have eN : fieldA bs h x i = none := by
          unfold fieldA
          rw [if_neg]
          rintro ⟨S', ok', a1, a2, a3, a4⟩
          first
          | exact ho ok'.ord
          | (rw [ok_spec ok'] at hk; cases hk; done)
          | exact hx a1
          | (obtain rfl : S' = S := Option.some.inj (ok'.spec.symm.trans ok.spec); rw [used_same ok', hl] at a2; cases a2; done)
          | (omega)
          | (obtain rfl : S' = S := Option.some.inj (ok'.spec.symm.trans ok.spec); rw [hkx, Int.toNat_natCast] at a4; omega)
        rw [eN]
        exact ⟨fun B g cp W hcp hs => (sField_past g 0 cp bs.length h x i W k hkN (HG B g cp W hcp hs) (bs.getD k 0) (S.getD k 0) (HF B g cp W hcp hs) hdh (by omega) (by omega) hd hp (SOk B g cp W hcp hs) STg (SRt B g cp W hcp hs) SNum).mono (fun _ _ => told_none), fun B g cp W hcp hs => (iField_past g 0 cp bs.length h x i W bs S k hkN (S.getD k 0) rfl (by omega) (by omega) hd hp (ILg B g cp W hcp hs) (ILd g cp) INum).mono (fun _ _ => told_noneC)⟩
      -- a field that is there
      obtain ⟨j, rfl⟩ := Int.eq_ofNat_of_zero_le (show 0 ≤ i by omega)
      obtain ⟨o1, o2, o3, o4, o5, o6, o7, o8, o9, o10, o11, o12, o13⟩ := id ho
      have hq : k + 1 + j < bs.length := by omega
      have hgood := field_good ok l3 hst (i := j) (by omega)
      have hmv := good_move (h := h) (heads_noted ok.noted) hgood
      have hhe := good_here ho hgood
      have SOp : ∀ B g cp W, bs.length ≤ cp → SliceR 3 1 B W (.slice (some ⟨g, 0, none⟩) bs.length cp) bs.length (intCells bs) → ∀ X, Below W.heap.size W X → Calls Try.prog 46 #[heapV (.slice (some ⟨g, 0, none⟩) bs.length cp) h] X fun e w' => ∃ bm bw cap' : Nat, e = .returned (.pointer (some ⟨bm, 0, none⟩)) ∧ Wk X bm bw bs.length cap' ⟨bs, h, 0, 0⟩ false w' ∧ X.heap.size ≤ bm ∧ X.heap.size ≤ bw := fun B g cp W hcp hs X hX => open_calls g 0 cp bs.length bs h X (by omega) rfl hN8 (row_atC hN0 hs hX).1 (row_atC hN0 hs hX).2 o6 ht
      have IOp : ∀ B g cp W, bs.length ≤ cp → SliceR 3 1 B W (.slice (some ⟨g, 0, none⟩) bs.length cp) bs.length (intCells bs) → ∀ X, Below W.heap.size W X → Calls Try.prog 42 #[heapV (.slice (some ⟨g, 0, none⟩) bs.length cp) h] X fun e w' => ∃ bc bw cap' : Nat, e = .returned (.pointer (some ⟨bc, 0, none⟩)) ∧ (Col X bc bw bs.length cap' bs h 0 0 w' ∧ bs.length ≤ cap') ∧ X.heap.size ≤ bc ∧ X.heap.size ≤ bw := fun B g cp W hcp hs X hX => collectorOf_cap g 0 cp bs.length bs h X (by omega) rfl hN8 (row_atC hN0 hs hX).1 (row_atC hN0 hs hX).2
      have SFd : ∀ (X w0 : World) (bm bw cap' : Nat), Wk w0 bm bw bs.length cap' ⟨bs, h, 0, 0⟩ false X → Calls Try.prog 55 #[.pointer (some ⟨bm, 0, none⟩), .int .i64 x, .int .i64 (j : Int)] X fun e w' => (∃ z : Int, e = .returned (.int .i64 z) ∧ ∀ u, (fieldZ ⟨bs, h, 0, 0⟩ (k + 1 + j)).1 = some u → z = u) ∧ Wk w0 bm bw bs.length cap' (fieldZ ⟨bs, h, 0, 0⟩ (k + 1 + j)).2 (fieldZ ⟨bs, h, 0, 0⟩ (k + 1 + j)).1.isNone w' := fun X w0 bm bw cap' hX => sfield_calls hX x j (k + 1 + j) hq (by omega) (by omega) (by omega) (by omega) (by omega) (show 0 ≤ h.to by omega) (show h.to ≤ h.size by omega) o2 (show 0 ≤ h.bottom by omega) o9 (show h.top ≤ (bs.length : Int) by omega) hN8 hmv hhe
      have IFd : ∀ (X w0 : World) (bc bw cap' : Nat), Col w0 bc bw bs.length cap' bs h 0 0 X → Calls Try.prog 53 #[.pointer (some ⟨bc, 0, none⟩), .int .i64 ((k : Int) + 1 + (j : Int))] X fun e w' => e = .returned (moveV (fieldZ ⟨bs, h, 0, 0⟩ (k + 1 + j)).1) ∧ Col w0 bc bw bs.length cap' (fieldZ ⟨bs, h, 0, 0⟩ (k + 1 + j)).2.ws (fieldZ ⟨bs, h, 0, 0⟩ (k + 1 + j)).2.h (fieldZ ⟨bs, h, 0, 0⟩ (k + 1 + j)).2.r (fieldZ ⟨bs, h, 0, 0⟩ (k + 1 + j)).2.t w' := fun X w0 bc bw cap' hX => by
        have e := field_calls ⟨bs, h, 0, 0⟩ hX (k + 1 + j) hq (show 0 ≤ h.to by omega) (show h.to ≤ h.size by omega) o2 (show 0 ≤ h.bottom by omega) o9 (show h.top ≤ (bs.length : Int) by omega) hN8 (show (0 : Int) ≤ 0 by omega) (show (0 : Int) ≤ 60000 by omega) (show (0 : Int) ≤ 0 by omega) (show (0 : Int) ≤ 60000 by omega) hmv
        rw [show ((k + 1 + j : Nat) : Int) = (k : Int) + 1 + (j : Int) from rfl] at e
        exact e
      have hlen := fieldZ_len ⟨bs, h, 0, 0⟩ (k + 1 + j)
      generalize hR : fieldZ ⟨bs, h, 0, 0⟩ (k + 1 + j) = R at *
      obtain ⟨o, s1⟩ := R
      dsimp only at hlen SFd IFd
      cases o with
      | none =>
        have eN : fieldA bs h x (j : Int) = none := by
          unfold fieldA
          rw [if_pos ⟨S, ok, hx, by rw [used_same ok]; exact hl, by omega, by rw [hkx, Int.toNat_natCast]; omega⟩, hkx, Int.toNat_natCast, Int.toNat_natCast, hR]
        rw [eN]
        exact ⟨fun B g cp W hcp hs => (sField_full g 0 cp bs.length h x j W k hkN (HG B g cp W hcp hs) (bs.getD k 0) (S.getD k 0) (HF B g cp W hcp hs) hdh (by omega) (by omega) hd (by omega) (SOk B g cp W hcp hs) STg (SRt B g cp W hcp hs) SNum ⟨bs, h, 0, 0⟩ s1 (SOp B g cp W hcp hs) (fun X w0 bm bw cap' hX => (SFd X w0 bm bw cap' hX).mono (by rintro e w' ⟨⟨z, hz, -⟩, hW⟩; exact ⟨⟨z, hz⟩, hW⟩))).mono (fun _ _ => told_none), fun B g cp W hcp hs => (iField_full g 0 cp bs.length h x j W bs S k hkN (S.getD k 0) rfl (by omega) (by omega) hd (by omega) hN8 (by omega) ⟨bs, h, 0, 0⟩ s1 (ILg B g cp W hcp hs) (ILd g cp) INum (fun X hX => (IOp B g cp W hcp hs X hX).mono (by rintro e w' ⟨bc, bw, c', e1, e2, e3⟩; exact ⟨bc, bw, c', e1, e2.1, e3⟩)) IFd).mono (fun _ _ => told_noneC)⟩
      | some u =>
        have eN : fieldA bs h x (j : Int) = some (u, s1) := by
          unfold fieldA
          rw [if_pos ⟨S, ok, hx, by rw [used_same ok]; exact hl, by omega, by rw [hkx, Int.toNat_natCast]; omega⟩, hkx, Int.toNat_natCast, Int.toNat_natCast, hR]
        rw [eN]
        refine ⟨fun B g cp W hcp hs => (sField_good g 0 cp bs.length h x j W k hkN (HG B g cp W hcp hs) (bs.getD k 0) (S.getD k 0) (HF B g cp W hcp hs) hdh (by omega) (by omega) hd (by omega) (SOk B g cp W hcp hs) STg (SRt B g cp W hcp hs) SNum ⟨bs, h, 0, 0⟩ s1 (SOp B g cp W hcp hs) u (fun X w0 bm bw cap' hX => (SFd X w0 bm bw cap' hX).mono (by rintro e w' ⟨⟨z, hz, hu⟩, hW⟩; rw [hu u rfl] at hz; exact ⟨hz, hW⟩))).mono (fun _ _ h => told_some hlen h), fun B g cp W hcp hs => (iField_goodC g 0 cp bs.length h x j W bs S k hkN (S.getD k 0) rfl (by omega) (by omega) hd (by omega) hN8 (by omega) u ⟨bs, h, 0, 0⟩ s1 { s1.h with touched := touchZ s1 } (ILg B g cp W hcp hs) (ILd g cp) INum (IOp B g cp W hcp hs) IFd (fun X w0 bc bw cap' hX => ?_)).mono (fun _ _ h => told_someC hlen h)⟩
        have e := told_calls hX
        rw [told_touch] at e
        exact e
end Go.Proofs.Ytebpgglegnljgaa

/- HeapGraph and HeapOk of the program, at a heap that may be. -/
namespace Go.Proofs.Ytebpgglegnljgaa
open Go.RowKit

/-- What roots lead to, told. -/
structure GraphG (bs xs : List Int) (h : HpN) (K : Nat) : Prop where
  ends : Ends bs xs K
  ylen : (tellsRun bs xs xs.length []).2.length = xs.length
  olen : (graphRun bs K (tellsRun bs xs xs.length []).1).2.length ≤ 8000
  flen : ∀ i, i < (graphRun bs K (tellsRun bs xs xs.length []).1).2.length → (fieldsOf (graphRun bs K (tellsRun bs xs xs.length []).1).2 i).length ≤ 5
  calls : ∀ B g cp B2 rg rc W, bs.length ≤ cp → SliceR 3 1 B W (.slice (some ⟨g, 0, none⟩) bs.length cp) bs.length (intCells bs) → SliceR 3 1 B2 W (.slice (some ⟨rg, 0, none⟩) xs.length rc) xs.length (intCells xs) → Calls Try.prog 8 #[heapV (.slice (some ⟨g, 0, none⟩) bs.length cp) h, .slice (some ⟨rg, 0, none⟩) xs.length rc] W (ToldGI W (graphRun bs K (tellsRun bs xs xs.length []).1).2 (tellsRun bs xs xs.length []).2 true)

theorem graph_good {bs S xs : List Int} {h : HpN} (ok : OkHeap bs S h) (hro : ∀ i, i < xs.length → wordOkZ S h (xs.getD i 0) = true) (hn : xs.length ≤ 20) : ∃ K, GraphG bs xs h K := by
  have ho := ok.ord
  obtain ⟨o1, o2, o3, o4, o5, o6, o7, o8, o9, o10, o11, o12, o13⟩ := id ho
  have hN0 : bs.length ≠ 0 := by omega
  have hN8 : bs.length ≤ 8000 := by omega
  have hki : implOk bs h = true := by rw [← ok_same ho]; exact ok_spec ok
  have hrr : implRoots S h xs = true := by
    unfold implRoots
    rw [List.all_eq_true]
    exact fun k hk => hro k (List.mem_range.1 hk)
  have ILg : ∀ B g cp W, bs.length ≤ cp → SliceR 3 1 B W (.slice (some ⟨g, 0, none⟩) bs.length cp) bs.length (intCells bs) → ∀ X, Below W.heap.size W X → Calls Try.prog 30 #[heapV (.slice (some ⟨g, 0, none⟩) bs.length cp) h] X fun e w' => ∃ gb, e = .returned (.tuple #[layV (.slice (some ⟨g, 0, none⟩) bs.length cp) h (.slice (some ⟨gb, 0, none⟩) bs.length bs.length), .bool true]) ∧ Hid (ISt g 0 gb bs.length bs S w') ∧ Below X.heap.size X w' := fun B g cp W hcp hs X hX => (layOut_calls g 0 cp bs.length bs h X rfl ho hcp (row_atC hN0 hs hX).1 (row_atC hN0 hs hX).2).mono (by
    rintro e w' ⟨hres, hb'⟩
    rcases hres with ⟨e1, _⟩ | ⟨S', gb, e1, _, e2, _, e3⟩
    · rw [hki] at e1
      cases e1
    · rw [ok.impl] at e1
      cases e1
      exact ⟨gb, e2, e3, hb'⟩)
  have IRt : ∀ g cp B2 rg rc W, SliceR 3 1 B2 W (.slice (some ⟨rg, 0, none⟩) xs.length rc) xs.length (intCells xs) → ∀ (X : World) (gb : Nat), Below W.heap.size W X → ISt g 0 gb bs.length bs S X → Calls Try.prog 31 #[layV (.slice (some ⟨g, 0, none⟩) bs.length cp) h (.slice (some ⟨gb, 0, none⟩) bs.length bs.length), .slice (some ⟨rg, 0, none⟩) xs.length rc] X fun e w' => e = .returned (.bool true) ∧ Below X.heap.size X w' := fun g cp B2 rg rc W hr X gb hX hI => by
    have e := rootsOk_calls (some ⟨rg, 0, none⟩) rc g 0 cp gb bs.length bs S h xs X ho hI (hr.below hX).intSlice (by omega)
    rw [hrr, decide_eq_true hn] at e
    exact e
  have hle : ∀ i, i < xs.length → Leads bs S (xs.getD i 0) := fun i hi => leads_of (by have := hro i hi; rw [used_same ok] at this; exact this)
  obtain ⟨K, hK⟩ := ends_some ok hle
  have ht := Met.tells ok (met := []) ⟨List.nodup_nil, fun a ha => by cases ha⟩ hle xs.length (Nat.le_refl _)
  have hyl := ht.2.2
  have hg := ht.1.graph ok K hK.1
  have hKN : (graphRun bs K (tellsRun bs xs xs.length []).1).2.length ≤ 8000 := by
    rw [hg.2.2]
    by_cases h0 : K = 0
    · omega
    · have h1 := hK.1 (K - 1) (by omega)
      have h2 := (ht.1.graph ok (K - 1) (fun j hj => hK.1 j (by omega))).1.short ok
      omega
  refine ⟨K, hK, hyl, hKN, fun i hi => graph_small ok ht.1 K hK.1 i (by rw [hg.2.2] at hi; exact hi), fun B g cp B2 rg rc W hcp hs hr => ?_⟩
  have HW : Wds g 0 bs.length bs W := ⟨rfl, (row_atC hN0 hs (Below.refl _ _)).1, (row_atC hN0 hs (Below.refl _ _)).2⟩
  have HLs : ListAt rg 0 xs W := ⟨fun h0 => (row_atC (by omega) hr (Below.refl _ _)).1, fun k hk => (row_atC (by omega) hr (Below.refl _ _)).2 k hk⟩
  exact (iGraph_good g 0 cp bs.length h rg xs.length rc W bs S xs ok HW hN8 hcp HLs rfl hn hle (ILg B g cp W hcp hs) (IRt g cp B2 rg rc W hr)).mono (fun _ _ => toldGI_some hK hyl)

theorem ok_good {bs S : List Int} {h : HpN} (ok : OkHeap bs S h) (B g cp : Nat) (W : World) (hcp : bs.length ≤ cp) (hs : SliceR 3 1 B W (.slice (some ⟨g, 0, none⟩) bs.length cp) bs.length (intCells bs)) : Calls Try.prog 15 #[heapV (.slice (some ⟨g, 0, none⟩) bs.length cp) h] W fun e w' => e = .returned (.bool true) ∧ Below W.heap.size W w' := by
  refine iOk_calls (fun w hb => ?_)
  have ho := ok.ord
  have h0 : bs.length ≠ 0 := by obtain ⟨o1, o2, o3, _⟩ := ho; omega
  have hki : implOk bs h = true := by rw [← ok_same ho]; exact ok_spec ok
  refine (layOut_calls g 0 cp bs.length bs h w rfl ho hcp (row_atC h0 hs hb).1 (row_atC h0 hs hb).2).mono ?_
  rintro e w' ⟨hres, hb'⟩
  refine ⟨?_, hb'⟩
  rcases hres with ⟨e1, rfl⟩ | ⟨S, gb, _, e1, rfl, _⟩
  · rw [hki] at e1
    cases e1
  · exact ⟨_, _, _, _, _, _, _, rfl⟩
end Go.Proofs.Ytebpgglegnljgaa

/- A field is read as what it is: behind it the heap is the same but for places. -/
namespace Go.Proofs.Ytebpgglegnljgaa
open Go.RowKit

/-- What the read of a field leaves, as the law asks for it. -/
structure FieldL (ws : List Int) (h : HpN) (x i u : Int) (s1 : CN) (K : Nat) : Prop where
  a : GraphG ws [x] h K
  b : GraphG s1.ws [x] { s1.h with touched := touchZ s1 } K
  sameY : (tellsRun s1.ws [x] 1 []).2 = (tellsRun ws [x] 1 []).2
  sameO : (graphRun s1.ws K (tellsRun s1.ws [x] 1 []).1).2 = (graphRun ws K (tellsRun ws [x] 1 []).1).2
  len : s1.ws.length = ws.length
  again : ∃ s2, fieldA s1.ws { s1.h with touched := touchZ s1 } x i = some (u, s2) ∧ s2.h.bottom = s1.h.bottom
  ok : ∃ S, OkHeap s1.ws S { s1.h with touched := touchZ s1 }
  tc : touchZ s1 < 9223372036854775808
  first : u % 8 ≠ 0 → 0 < (graphRun ws K (tellsRun ws [x] 1 []).1).2.length ∧ 0 ≤ i ∧ i.toNat < (fieldsOf (graphRun ws K (tellsRun ws [x] 1 []).1).2 0).length ∧ (fieldsOf (graphRun ws K (tellsRun ws [x] 1 []).1).2 0).getD i.toNat 0 = u

theorem tells_plain {ws xs : List Int} {met : List Nat} : ∀ k i, i < k → xs.getD i 0 % 8 ≠ 0 → (tellsRun ws xs k met).2.getD i 0 = xs.getD i 0 ∧ (tellsRun ws xs k met).2.length = k
  | 0, i, h, _ => by omega
  | k + 1, i, h, hx => by
    have hl : ∀ k, (tellsRun ws xs k met).2.length = k := fun k => by
      induction k with
      | zero => rfl
      | succ k ih => unfold tellsRun; rw [List.length_append, ih]; rfl
    refine ⟨?_, hl _⟩
    unfold tellsRun
    dsimp only
    by_cases e : i = k
    · subst e
      rw [List.getD_eq_getElem?_getD, List.getElem?_append_right (by rw [hl]; exact Nat.le_refl _), hl, Nat.sub_self]
      unfold tellZ
      rw [if_neg hx]
      rfl
    · have := (tells_plain (ws := ws) (xs := xs) (met := met) k i (by omega) hx).1
      rw [List.getD_eq_getElem?_getD, List.getElem?_append_left (by rw [hl]; omega), ← List.getD_eq_getElem?_getD]
      exact this

/-- Later objects do not change what was told of the first. -/
theorem graph_first {ws : List Int} {met : List Nat} : ∀ K, 0 < K → (graphRun ws K met).2.getD 0 (0, []) = (graphRun ws 1 met).2.getD 0 (0, []) ∧ (graphRun ws K met).2.length = K
  | 0, h => by omega
  | K + 1, _ => by
    have hl : ∀ k, (graphRun ws k met).2.length = k := fun k => by
      induction k with
      | zero => rfl
      | succ k ih => unfold graphRun; rw [List.length_append, ih]; rfl
    refine ⟨?_, hl _⟩
    by_cases h0 : K = 0
    · subst h0
      rfl
    · have ih := (graph_first (ws := ws) (met := met) K (by omega)).1
      have e : (graphRun ws (K + 1) met).2.getD 0 (0, []) = (graphRun ws K met).2.getD 0 (0, []) := by
        rw [graphRun, List.getD_eq_getElem?_getD, List.getElem?_append_left (by rw [hl]; omega), ← List.getD_eq_getElem?_getD]
      rw [e]
      exact ih

theorem field_law {ws : List Int} {h : HpN} {x i u : Int} {s1 : CN} (he : fieldA ws h x i = some (u, s1)) (htc : h.touched ≤ 100000000) : ∃ K, FieldL ws h x i u s1 K := by
  unfold fieldA at he
  split at he
  · rename_i hc
    obtain ⟨S, ok, hx8, hxw, hi0, hi1⟩ := hc
    obtain ⟨l1, l2, l3, l4⟩ := ((used_iff ok x).1 hxw).2 hx8
    have hin := l4.resolve_right id
    obtain ⟨a, ha⟩ := Int.eq_ofNat_of_zero_le l1
    rw [ha, Int.toNat_natCast] at l3 hin hi1
    obtain ⟨j, hj⟩ := Int.eq_ofNat_of_zero_le hi0
    subst hj
    rw [ha, Int.toNat_natCast, Int.toNat_natCast] at he
    have hst := used_stays ok l3 (ins_iff.1 hin)
    have hgood := field_good ok l3 hst (i := j) (by omega)
    have hmv := good_move (h := h) (heads_noted ok.noted) hgood
    have hcnt := field_count (h := h) hmv
    cases hf : fieldZ ⟨ws, h, 0, 0⟩ (a + 1 + j) with
    | mk o s2 =>
      rw [hf] at he hcnt
      cases o with
      | none => cases he
      | some u' =>
        cases he
        dsimp only at hcnt
        obtain ⟨k1, k2, k3, k4⟩ := hcnt
        obtain ⟨o1, o2, o3, o4, o5, o6, -⟩ := id ok.ord
        have et : touchZ s1 = h.touched + (s1.r + s1.t) := by
          unfold touchZ wrap64
          omega
        have hx1 : ∀ i, i < [x].length → wordOkZ S h ([x].getD i 0) = true := fun i hi => by
          obtain rfl : i = 0 := by simpa using hi
          exact hxw
        obtain ⟨S', T, hfl⟩ := keep_field ok hx1 l3 hin (i := 1 + j) (by omega) (by push_cast; omega) (by rw [show a + (1 + j) = a + 1 + j by omega]; exact hf) (t := touchZ s1) (by omega)
        have st := T.still
        obtain ⟨K, gA⟩ := graph_good ok hx1 (by simp)
        obtain ⟨K', gB⟩ := graph_good st.ok st.roots (by simp)
        obtain ⟨tY, tO⟩ := st.same.told
        obtain ⟨eK, tO2⟩ := tO K gA.ends
        obtain rfl := eK.one gB.ends
        have hroot := st.roots 0 (by simp)
        have hroot' : wordOkZ S' { s1.h with touched := touchZ s1 } x = true := hroot
        obtain ⟨m1, m2, m3, m4⟩ := ((used_iff st.ok x).1 hroot').2 hx8
        have min' := m4.resolve_right id
        rw [ha, Int.toNat_natCast] at m3 min'
        -- the object is as large as it was
        have hhead : s1.ws.getD a 0 = ws.getD a 0 := by
          obtain ⟨-, P, f, iso, hw⟩ := st.same
          obtain ⟨w1, w2, w3⟩ := (hw 0 (by simp)).2 hx8
          have e1 : nowZ ws (x / 8).toNat = a := by
            rw [ha, Int.toNat_natCast]
            unfold nowZ
            rw [if_neg hst]
          have e2 : nowZ s1.ws (x / 8).toNat = a := by
            rw [ha, Int.toNat_natCast]
            unfold nowZ
            rw [if_neg (used_stays st.ok m3 (ins_iff.1 min'))]
          have w2' : P (nowZ ws (x / 8).toNat) := w2
          have w3' : nowZ s1.ws (x / 8).toNat = f (nowZ ws (x / 8).toNat) := w3
          rw [e1] at w2' w3'
          rw [e2] at w3'
          have := iso.head a w2'
          rw [← w3'] at this
          exact this
        have hsz : S'.getD a 0 = S.getD a 0 := by
          rw [← (dyn_of_ok st.ok).head m3, ← (dyn_of_ok ok).head l3, hhead]
        have hat : s1.ws.getD (a + 1 + j) 0 = u := by
          have := T.at_
          rw [show a + (1 + j) = a + 1 + j by omega] at this
          exact this
        have hlate : lateZ { s1.h with touched := touchZ s1 } u = false := by
          have lu := (used_iff st.ok u).1 T.word
          unfold lateZ
          by_cases hu : u % 8 = 0
          · have li := ((lu.2 hu).2.2.2).resolve_right id
            obtain ⟨p1, p2, p3, p4, -⟩ := id st.ok.ord
            unfold InS at li
            dsimp only at li p1 p2 p3 p4 ⊢
            have := (lu.2 hu).1
            rw [decide_eq_true hu, Bool.true_and, decide_eq_false_iff_not]
            omega
          · rw [decide_eq_false hu]
            rfl
        refine ⟨K, gA, gB, tY, tO2, st.len, ?_, ⟨S', st.ok⟩, by omega, fun hu => ?_⟩
        · refine ⟨{ (⟨s1.ws, { s1.h with touched := touchZ s1 }, 0, 0⟩ : CN) with r := 0 + 1 }, ?_, rfl⟩
          unfold fieldA
          rw [if_pos ⟨S', st.ok, hx8, hroot', hi0, by rw [ha, Int.toNat_natCast, hsz]; exact hi1⟩, ha, Int.toNat_natCast, Int.toNat_natCast]
          unfold fieldZ
          dsimp only
          rw [hat, if_pos hlate]
        · -- the first object that is met is this one
          have e1 : nowZ ws (x / 8).toNat = a := by
            rw [ha, Int.toNat_natCast]
            unfold nowZ
            rw [if_neg hst]
          have em : (tellsRun ws [x] 1 []).1 = [a] := by
            unfold tellsRun tellsRun tellZ
            dsimp only
            rw [if_pos (by simpa using hx8)]
            simp
            exact e1
          have hK0 : 0 < K := by
            by_cases h0 : K = 0
            · have := gA.ends.2
              rw [h0] at this
              have e2 : (graphRun ws 0 (tellsRun ws [x] [x].length []).1).1.length = 1 := by
                show (tellsRun ws [x] 1 []).1.length = 1
                rw [em]
                rfl
              omega
            · omega
          obtain ⟨gf, gl⟩ := graph_first (ws := ws) (met := (tellsRun ws [x] 1 []).1) K hK0
          have hfo : fieldsOf (graphRun ws K (tellsRun ws [x] 1 []).1).2 0 = (tellsRun ws (fieldsAtZ ws a) (fieldsAtZ ws a).length [a]).2 := by
            unfold fieldsOf
            rw [gf, em]
            rfl
          have hfl' : (fieldsAtZ ws a).length = (S.getD a 0).toNat - 1 := by rw [fieldsAtZ_len, (dyn_of_ok ok).head l3]
          have hjl : j < (fieldsAtZ ws a).length := by rw [hfl']; omega
          have hw : (fieldsAtZ ws a).getD j 0 = u := by
            rw [fieldsAtZ_get (by rw [← fieldsAtZ_len]; exact hjl)]
            have := T.plain hu
            rw [show a + (1 + j) = a + 1 + j by omega] at this
            exact this
          obtain ⟨tp, tl⟩ := tells_plain (ws := ws) (xs := fieldsAtZ ws a) (met := [a]) (fieldsAtZ ws a).length j hjl (by rw [hw]; exact hu)
          refine ⟨by rw [gl]; exact hK0, hi0, ?_, ?_⟩
          · rw [hfo, tl, Int.toNat_natCast]
            exact hjl
          · rw [hfo, Int.toNat_natCast, tp, hw]
  · cases he
end Go.Proofs.Ytebpgglegnljgaa

/- laws.hrInts at two lists of the same numbers. -/
namespace Go.Proofs.Ytebpgglegnljgaa
open Go.RowKit

set_option maxRecDepth 100000 in
theorem hrInts_none (ad ad' : Option Addr) (cap cap' : Nat) (w : World) :
    Calls Try.prog 11 #[.slice ad 0 cap, .slice ad' 0 cap'] w fun e w' => e = .returned (.bool true) ∧ Below w.heap.size w w' := by
  go_enter Try.func11, Try.ntmps11
  go_wp2
  refine wp_loop_rounds 1 ?_
  rw [rounds_succ]
  go_wp2
  go_ret
  exact ⟨rfl, Below.refl _ _⟩

set_option maxHeartbeats 1000000 in
set_option maxRecDepth 100000 in
theorem hrInts_rows (b off b' off' len cap cap' : Nat) (bs : List Int) (w : World) (hn : ∀ k, k < len → w.cell? ⟨b, off + k, none⟩ = some (.int .i64 (bs.getD k 0))) (hn' : ∀ k, k < len → w.cell? ⟨b', off' + k, none⟩ = some (.int .i64 (bs.getD k 0))) (hm : len ≤ 1048576) :
    Calls Try.prog 11 #[.slice (some ⟨b, off, none⟩) len cap, .slice (some ⟨b', off', none⟩) len cap'] w fun e w' => e = .returned (.bool true) ∧ Below w.heap.size w w' := by
  have HM : Hid (len ≤ 1048576) := hm
  have HN : Hid ((∀ k, k < len → w.cell? ⟨b, off + k, none⟩ = some (.int .i64 (bs.getD k 0))) ∧ ∀ k, k < len → w.cell? ⟨b', off' + k, none⟩ = some (.int .i64 (bs.getD k 0))) := ⟨hn, hn'⟩
  clear hm hn hn'
  go_enter Try.func11, Try.ntmps11
  go_wp2_with fail
  go_loopw [5] (fun i wr => ∃ k : Nat, k ≤ len ∧ i = .int .i64 k ∧ Below w.heap.size w wr ∧ ∀ a, wr.cell? a = w.cell? a) (fun i _ => len - (intOf i).toNat)
  case atStart => exact ⟨0, Nat.zero_le _, rfl, Below.refl _ _, fun _ => rfl⟩
  case round =>
    obtain ⟨k, hk, rfl, hnx, hce⟩ := hrel
    by_cases hkl : (k : Int) < (len : Int)
    · have c0 := (hce _).trans (HN.out.1 k (by omega))
      have d0 := (hce _).trans (HN.out.2 k (by omega))
      generalize bs.getD k 0 = n at c0 d0
      have hi0 : (0 : Int) ≤ (k : Int) := by omega
      have Hce : Hid (∀ a, wr.cell? a = w.cell? a) := hce
      clear hce
      go_wp2_with fail
      go_region
      all_goals
        go_wp2_with fail
        have hs : len - (intOf (.int .i64 ((k + 1 : Nat) : Int))).toNat < len - (intOf (.int .i64 (k : Int))).toNat := by simp only [intOf, Int.toNat_natCast]; omega
        try rw [wrap_inc (n := len) (by omega) HM.out]
        exact ⟨⟨k + 1, by omega, rfl, hnx.drew, Hce.out⟩, hs⟩
    · go_wp2_with fail
      go_ret
      exact ⟨rfl, hnx⟩

theorem hrInts_any {v v' : Value} {bs : List Int} (w : World) (hm : bs.length ≤ 1048576) (h : IntSlice w v bs) (h' : IntSlice w v' bs) :
    Calls Try.prog 11 #[v, v'] w fun e w' => e = .returned (.bool true) ∧ Below w.heap.size w w' := by
  obtain ⟨ad, cap, rfl, h⟩ := h
  obtain ⟨ad', cap', rfl, h'⟩ := h'
  by_cases h0 : bs = []
  · subst h0
    exact hrInts_none ad ad' cap cap' w
  · obtain ⟨g, o, rfl, -, hr⟩ := h.resolve_left h0
    obtain ⟨g', o', rfl, -, hr'⟩ := h'.resolve_left h0
    exact hrInts_rows g o g' o' _ cap cap' bs w hr hr' hm
end Go.Proofs.Ytebpgglegnljgaa

/- laws.hrHeap at two heaps of the same words and numbers. -/
namespace Go.Proofs.Ytebpgglegnljgaa
open Go.RowKit

set_option maxHeartbeats 4000000 in
set_option maxRecDepth 100000 in
theorem hrHeap_any {v v' : Value} {bs : List Int} {h : HpN} (w : World) (hm : bs.length ≤ 1048576) (h1 : IntSlice w v bs) (h2 : IntSlice w v' bs) :
    Calls Try.prog 14 #[heapV v h, heapV v' h] w fun e w' => e = .returned (.bool true) ∧ Below w.heap.size w w' := by
  have HI : Hid (∀ X, Below w.heap.size w X → Calls Try.prog 11 #[v, v'] X fun e w' => e = .returned (.bool true) ∧ Below X.heap.size X w') := fun X hX => hrInts_any X hm (h1.below hX) (h2.below hX)
  obtain ⟨a, c, hv, -⟩ := h1
  obtain ⟨a', c', hv', -⟩ := h2
  obtain ⟨g1, g2, g3, g4, g5, g6, g7, g8, g9⟩ := h
  unfold heapV
  dsimp only
  clear hm
  subst hv hv'
  generalize bs.length = n at *
  go_enter Try.func14, Try.ntmps14
  go_wp2_with fail
  have hb := ((Below.refl w.heap.size w).alloc (Nat.le_refl _) (.cells #[.slice a n c, .int .i64 g1, .int .i64 g2, .int .i64 g3, .int .i64 g4, .int .i64 g5, .int .i64 g6, .int .i64 g7, .int .i64 g8, .int .i64 g9] 25)).alloc (by simp) (.cells #[.slice a' n c', .int .i64 g1, .int .i64 g2, .int .i64 g3, .int .i64 g4, .int .i64 g5, .int .i64 g6, .int .i64 g7, .int .i64 g8, .int .i64 g9] 25)
  obtain ⟨eA, eB, eS⟩ := heap_alloc2 w (.cells #[.slice a n c, .int .i64 g1, .int .i64 g2, .int .i64 g3, .int .i64 g4, .int .i64 g5, .int .i64 g6, .int .i64 g7, .int .i64 g8, .int .i64 g9] 25) (.cells #[.slice a' n c', .int .i64 g1, .int .i64 g2, .int .i64 g3, .int .i64 g4, .int .i64 g5, .int .i64 g6, .int .i64 g7, .int .i64 g8, .int .i64 g9] 25)
  refine (HI.out _ hb).mono ?_
  rintro e W1 ⟨rfl, hb1⟩
  have k1 : HeapBlk W1 w.heap.size (.slice a n c) ⟨g1, g2, g3, g4, g5, g6, g7, g8, g9⟩ := (hb1.block _ (by rw [eS]; omega)).trans eA
  have k2 : HeapBlk W1 (w.heap.size + 1) (.slice a' n c') ⟨g1, g2, g3, g4, g5, g6, g7, g8, g9⟩ := (hb1.block _ (by rw [eS]; omega)).trans eB
  obtain ⟨c0, c1, c2, c3, c4, c5, c6, c7, c8, c9⟩ := k1.cells
  obtain ⟨d0, d1, d2, d3, d4, d5, d6, d7, d8, d9⟩ := k2.cells
  have HB := hid (hb.trans (hb1.mono hb.size))
  clear hb hb1 eA eB eS k1 k2 HI
  dsimp only at c0 c1 c2 c3 c4 c5 c6 c7 c8 c9 d0 d1 d2 d3 d4 d5 d6 d7 d8 d9
  go_wp2_with fail
  go_ret
  exact ⟨rfl, HB.out⟩
end Go.Proofs.Ytebpgglegnljgaa

/- laws.hrObjs at two lists of the same objects. -/
namespace Go.Proofs.Ytebpgglegnljgaa
open Go.RowKit

set_option maxRecDepth 100000 in
theorem hrObjs_none (ad ad' : Option Addr) (cap cap' : Nat) (w : World) :
    Calls Try.prog 10 #[.slice ad 0 cap, .slice ad' 0 cap'] w fun e w' => e = .returned (.bool true) ∧ Below w.heap.size w w' := by
  go_enter Try.func10, Try.ntmps10
  go_wp2
  refine wp_loop_rounds 1 ?_
  rw [rounds_succ]
  go_wp2
  go_ret
  exact ⟨rfl, Below.refl _ _⟩

set_option maxHeartbeats 1000000 in
set_option maxRecDepth 100000 in
theorem hrObjs_rows {B B' g g' n cap cap' : Nat} {ks : Nat → Int} {fv fv' : Nat → Value} (fs : Nat → List Int) (w : World) (hm : n ≤ 1048576) (hl : ∀ i, i < n → (fs i).length ≤ 1048576) (hn0 : n ≠ 0)
    (o : ObR B w (.slice (some ⟨g, 0, none⟩) n cap) n ks fv (fun i => (fs i).length) (fun i => intCells (fs i))) (o' : ObR B' w (.slice (some ⟨g', 0, none⟩) n cap') n ks fv' (fun i => (fs i).length) (fun i => intCells (fs i))) :
    Calls Try.prog 10 #[.slice (some ⟨g, 0, none⟩) n cap, .slice (some ⟨g', 0, none⟩) n cap'] w fun e w' => e = .returned (.bool true) ∧ Below w.heap.size w w' := by
  have HM := hid hm
  have HL := hid hl
  have HO := hid o
  have HO' := hid o'
  have hlt : g < w.heap.size := (o.lo (Or.inl ⟨hn0, rfl⟩)).2
  have hlt' : g' < w.heap.size := (o'.lo (Or.inl ⟨hn0, rfl⟩)).2
  have HC : Hid (∀ X, Below w.heap.size w X → ∀ k, k < n → X.cell? ⟨g, k * 2, none⟩ = some (.int .i64 (ks k)) ∧ X.cell? ⟨g, k * 2 + 1, none⟩ = some (fv k) ∧ X.cell? ⟨g', k * 2, none⟩ = some (.int .i64 (ks k)) ∧ X.cell? ⟨g', k * 2 + 1, none⟩ = some (fv' k)) := fun X hX k hk => by
    obtain ⟨ad, c, e, h⟩ := (o.below hX).row
    cases e
    obtain ⟨g1, e2, -, hr⟩ := h.resolve_left hn0
    cases e2
    obtain ⟨ad, c, e, h⟩ := (o'.below hX).row
    cases e
    obtain ⟨g1, e2, -, hr'⟩ := h.resolve_left hn0
    cases e2
    exact ⟨by rw [hr.cell (by omega), objF_kind], by rw [hr.cell (by omega), objF_fields], by rw [hr'.cell (by omega), objF_kind], by rw [hr'.cell (by omega), objF_fields]⟩
  clear hm hl o o'
  go_enter Try.func10, Try.ntmps10
  go_wp2_with fail
  go_loopw [5] (fun i wr => ∃ k : Nat, k ≤ n ∧ i = .int .i64 k ∧ Below w.heap.size w wr) (fun i _ => n - (intOf i).toNat)
  case atStart => exact ⟨0, Nat.zero_le _, rfl, Below.refl _ _⟩
  case round =>
    obtain ⟨k, hk, rfl, hnx⟩ := hrel
    by_cases hkl : (k : Int) < (n : Int)
    · have hkn : k < n := by omega
      have HE : Hid (∀ X, Below w.heap.size w X → Calls Try.prog 11 #[fv k, fv' k] X fun e w' => e = .returned (.bool true) ∧ Below X.heap.size X w') := fun X hX => hrInts_any X (HL.out k hkn) ((HO.out.below hX).fld k hkn).intSlice ((HO'.out.below hX).fld k hkn).intSlice
      obtain ⟨aa, ca, hva, -⟩ := id (HO.out.fld k hkn)
      obtain ⟨ab, cb, hvb, -⟩ := id (HO'.out.fld k hkn)
      have hc := fun (y : Later wr.heap.size wr) => HC.out y.w (hnx.trans (y.h.mono hnx.size)) k hkn
      generalize ks k = kk at *
      rw [hva, hvb] at HE
      simp only [hva, hvb] at hc
      clear hva hvb
      generalize (fs k).length = nk at *
      have c0 := fun y => (hc y).1
      have c1 := fun y => (hc y).2.1
      have d0 := fun y => (hc y).2.2.1
      have d1 := fun y => (hc y).2.2.2
      clear hc hkn HC
      have hi0 : (0 : Int) ≤ (k : Int) := by omega
      go_wp2_with fail
      refine wp_region_calm wr.heap.size (by kernel_rfl) (by kernel_rfl) ?_
      repeat (go_big_quiet_step (first | (rename_i y; go_at_call 11; refine (HE.out _ (hnx.trans (y.h.mono hnx.size))).mono ?_; rintro e w5 ⟨rfl, hb5⟩; exact ⟨rfl, ⟨w5, y.h.trans (hb5.mono y.h.size)⟩, rfl⟩)))
      refine wpQuiet_nil ?_
      rintro w6 ⟨y, rfl⟩
      have hb2 := hnx.trans (y.h.mono hnx.size)
      clear c0 c1 d0 d1 HE
      go_wp2_with fail
      have hs : n - (intOf (.int .i64 ((k + 1 : Nat) : Int))).toNat < n - (intOf (.int .i64 (k : Int))).toNat := by simp only [intOf, Int.toNat_natCast]; omega
      rw [wrap_inc (n := n) (by omega) HM.out]
      exact ⟨⟨k + 1, by omega, rfl, hb2⟩, hs⟩
    · go_wp2_with fail
      go_ret
      exact ⟨rfl, hnx⟩

theorem hrObjs_any {B B' n : Nat} {v v' : Value} {ks : Nat → Int} {fv fv' : Nat → Value} (fs : Nat → List Int) (w : World) (hm : n ≤ 1048576) (hl : ∀ i, i < n → (fs i).length ≤ 1048576)
    (o : ObR B w v n ks fv (fun i => (fs i).length) (fun i => intCells (fs i))) (o' : ObR B' w v' n ks fv' (fun i => (fs i).length) (fun i => intCells (fs i))) :
    Calls Try.prog 10 #[v, v'] w fun e w' => e = .returned (.bool true) ∧ Below w.heap.size w w' := by
  obtain ⟨ad, cap, rfl, h⟩ := id o.row
  obtain ⟨ad', cap', rfl, h'⟩ := id o'.row
  by_cases h0 : n = 0
  · subst h0
    exact hrObjs_none ad ad' cap cap' w
  · obtain ⟨g, rfl, -, -⟩ := h.resolve_left h0
    obtain ⟨g', rfl, -, -⟩ := h'.resolve_left h0
    exact hrObjs_rows fs w hm hl h0 o o'
end Go.Proofs.Ytebpgglegnljgaa

/- The law on fields, walked: whatever heap and word are drawn. -/
namespace Go.Proofs.Ytebpgglegnljgaa
open Go.RowKit Go.Deep

theorem one_row (W : World) (x : Int) : SliceR 3 1 W.heap.size (W.alloc (.cells #[.int .i64 x] 3)) (.slice (some ⟨W.heap.size, 0, none⟩) 1 1) 1 (intCells [x]) := by
  refine ⟨_, _, rfl, Or.inr ⟨_, rfl, Nat.le_refl _, 1, intCells [x], rw_of_row (World.rowIs_alloc W _ 3 (intCells [x]) (fun i hi => ?_)) _, Nat.le_refl _, fun _ _ => rfl⟩⟩
  obtain rfl : i = 0 := by
    have : i < 1 := hi
    omega
  rfl

set_option maxHeartbeats 16000000 in
set_option maxRecDepth 100000 in
theorem field_walk (a0 : Option Addr) (len cap : Nat) (W : World) (hcap : len ≤ cap) (hB : BytesAt W a0 len) :
    Calls Try.prog 5 #[.slice a0 len cap] W fun e W' => e = .returned (.bool true) ∧ Below W.heap.size W W' := by
  by_cases hl : (1048576 : Int) < (len : Int)
  · go_enter Try.func5, Try.ntmps5
    go_wp2_with fail
    go_ret
    exact ⟨rfl, Below.refl _ _⟩
  have HD := hid (drawField_calls a0 len cap W (by omega) hcap hB)
  have hl' : (len : Int) ≤ 1048576 := by omega
  clear hB hl hcap
  go_enter Try.func5, Try.ntmps5
  go_wp2_with fail
  refine HD.out.mono ?_
  rintro e W1 ⟨bw, cp, ws, h, x, i, rfl, hr⟩
  have hx := field_told ws h (by have := hr.tc; omega) (by have := hr.l8; omega) x i
  obtain ⟨o, ho⟩ : ∃ o, fieldA ws h x i = o := ⟨_, rfl⟩
  rw [ho] at hx
  have HX := hid hx
  have HO := hid ho
  have HR := hid hr
  clear HD hx ho hr hl'
  unfold heapV
  obtain ⟨L, hL⟩ : ∃ L, ws.length = L := ⟨_, rfl⟩
  have HLL := hid hL
  rw [hL]
  rw [hL] at HX
  clear hL
  go_wp2_with fail
  have hbA := (Below.refl W1.heap.size W1).alloc (Nat.le_refl _) (.cells #[.slice (some ⟨bw, 0, none⟩) L cp, .int .i64 h.size, .int .i64 h.to, .int .i64 h.bottom, .int .i64 h.top, .int .i64 h.scan, .int .i64 h.fb, .int .i64 h.ft, .int .i64 h.flips, .int .i64 h.touched] 25)
  have HR2 := hid (HR.out.keep hbA)
  have HH2 : Hid (HeapBlk _ W1.heap.size (.slice (some ⟨bw, 0, none⟩) L cp) h) := HeapBlk.new W1 (.slice (some ⟨bw, 0, none⟩) L cp) h
  obtain ⟨hv, hhv⟩ : ∃ hv, W1.heap.size = hv := ⟨_, rfl⟩
  obtain ⟨W2, hW2⟩ : ∃ X, W1.alloc (.cells #[.slice (some ⟨bw, 0, none⟩) L cp, .int .i64 h.size, .int .i64 h.to, .int .i64 h.bottom, .int .i64 h.top, .int .i64 h.scan, .int .i64 h.fb, .int .i64 h.ft, .int .i64 h.flips, .int .i64 h.touched] 25) = X := ⟨_, rfl⟩
  rw [hW2] at HR2 HH2 ⊢
  rw [hhv] at HH2 ⊢
  clear hhv hW2 hbA HR
  have HRow : Hid (∀ X, HpR W bw cp ws h X → L ≤ cp ∧ SliceR 3 1 W.heap.size X (.slice (some ⟨bw, 0, none⟩) L cp) L (intCells ws)) := fun X hX => by
    have h1 := hX.cw
    have h2 := hX.row
    rw [HLL.out] at h1 h2
    exact ⟨h1, h2⟩
  refine (HX.out.2 W.heap.size bw cp W2 (HRow.out _ HR2.out).1 (HRow.out _ HR2.out).2).mono ?_
  rintro e W3 ⟨⟨ag, cg, rfl, hvg, hcg⟩, hb3⟩
  obtain ⟨A, hA⟩ : ∃ A, fW o = A := ⟨_, rfl⟩
  obtain ⟨H, hH⟩ : ∃ H, fH o = H := ⟨_, rfl⟩
  obtain ⟨u, hu⟩ : ∃ u, fU o = u := ⟨_, rfl⟩
  obtain ⟨ok, hok⟩ : ∃ ok, o.isSome = ok := ⟨_, rfl⟩
  have HF : Hid ((ok = false → A.length = 0) ∧ (ok = true → ∃ s1, o = some (u, s1) ∧ A = s1.ws ∧ H = { s1.h with touched := touchZ s1 })) := by
    subst hA hH hu hok
    cases o with
    | none => exact ⟨fun _ => rfl, fun k => by cases k⟩
    | some s => exact ⟨(fun k => by cases k), fun _ => ⟨s.2, rfl, rfl, rfl⟩⟩
  rw [hA, hH, hu, hok] at HX
  rw [hA] at hvg hcg
  rw [hA, hH, hu, hok]
  clear hA hH hu hok
  have HG3 := hid (And.intro hvg hcg)
  have HR3 := hid (HR2.out.keep hb3)
  have HH3 := hid (HH2.out.below hb3)
  obtain ⟨n, hn⟩ : ∃ n, A.length = n := ⟨_, rfl⟩
  have HN := hid hn
  rw [hn] at HG3 HF ⊢
  clear hvg hcg hb3 HR2 HH2 hn
  have HLn : Hid (n ≤ 1048576) := by
    show _ ≤ _
    cases ok with
    | false => rw [HF.out.1 rfl]; omega
    | true =>
      obtain ⟨s1, e1, e2, -⟩ := HF.out.2 rfl
      have e3 := HO.out
      rw [e1] at e3
      obtain ⟨K, T⟩ := field_law e3 HR3.out.tc
      have h1 := T.len
      have h2 := HN.out
      have h3 := HR3.out.l8
      rw [e2] at h2
      omega
  unfold heapV
  dsimp only
  have hbB := (Below.refl W3.heap.size W3).alloc (Nat.le_refl _) (.cells #[.slice ag n cg, .int .i64 H.size, .int .i64 H.to, .int .i64 H.bottom, .int .i64 H.top, .int .i64 H.scan, .int .i64 H.fb, .int .i64 H.ft, .int .i64 H.flips, .int .i64 H.touched] 25)
  have HR4 := hid (HR3.out.keep hbB)
  have HH4 := hid (HH3.out.below hbB)
  have HG4 := hid (HG3.out.1.below hbB)
  have HV4 : Hid (HeapBlk _ W3.heap.size (.slice ag n cg) H) := HeapBlk.new W3 (.slice ag n cg) H
  have HCg : Hid (n ≤ cg) := HG3.out.2
  obtain ⟨c0, c1, c2, c3, c4, c5, c6, c7, c8, c9⟩ := HH4.out.cells
  go_wp2_with fail
  clear c0 c1 c2 c3 c4 c5 c6 c7 c8 c9
  obtain ⟨gv, hgv⟩ : ∃ gv, W3.heap.size = gv := ⟨_, rfl⟩
  obtain ⟨W4, hW4⟩ : ∃ X, W3.alloc (.cells #[.slice ag n cg, .int .i64 H.size, .int .i64 H.to, .int .i64 H.bottom, .int .i64 H.top, .int .i64 H.scan, .int .i64 H.fb, .int .i64 H.ft, .int .i64 H.flips, .int .i64 H.touched] 25) = X := ⟨_, rfl⟩
  rw [hW4] at HR4 HH4 HG4 HV4 ⊢
  rw [hgv] at HV4 ⊢
  clear hgv hW4 hbB HR3 HH3 HG3
  refine (HX.out.1 W.heap.size bw cp W4 (HRow.out _ HR4.out).1 (HRow.out _ HR4.out).2).mono ?_
  rintro e W5 ⟨⟨vw, rfl, hvw⟩, hb5⟩
  obtain ⟨aw, cw, hvwe, -⟩ := id hvw
  subst hvwe
  have HWs := hid hvw
  have HR5 := hid (HR4.out.keep hb5)
  have HH5 := hid (HH4.out.below hb5)
  have HG5 := hid (HG4.out.below hb5)
  have HV5 := hid (HV4.out.below hb5)
  rw [HN.out] at HWs ⊢
  clear hvw hb5 HR4 HH4 HG4 HV4 HX
  have hRR : (ok != ok) = false := by cases ok <;> rfl
  have hUU : (u != u) = false := by simp
  unfold heapV
  dsimp only
  have hbC := (Below.refl W5.heap.size W5).alloc (Nat.le_refl _) (.cells #[.slice aw n cw, .int .i64 H.size, .int .i64 H.to, .int .i64 H.bottom, .int .i64 H.top, .int .i64 H.scan, .int .i64 H.fb, .int .i64 H.ft, .int .i64 H.flips, .int .i64 H.touched] 25)
  have HR6 := hid (HR5.out.keep hbC)
  have HH6 := hid (HH5.out.below hbC)
  have HV6 := hid (HV5.out.below hbC)
  have HG6 := hid (HG5.out.below hbC)
  have HW6 := hid (HWs.out.below hbC)
  obtain ⟨c0, c1, c2, c3, c4, c5, c6, c7, c8, c9⟩ := HV6.out.cells
  go_wp2_with fail
  clear c0 c1 c2 c3 c4 c5 c6 c7 c8 c9
  obtain ⟨W6, hW6⟩ : ∃ X, W5.alloc (.cells #[.slice aw n cw, .int .i64 H.size, .int .i64 H.to, .int .i64 H.bottom, .int .i64 H.top, .int .i64 H.scan, .int .i64 H.fb, .int .i64 H.ft, .int .i64 H.flips, .int .i64 H.touched] 25) = X := ⟨_, rfl⟩
  rw [hW6] at HR6 HH6 HV6 HG6 HW6 ⊢
  clear hW6 hbC HR5 HH5 HV5 HG5 HWs
  refine (hrHeap_any (v := .slice ag n cg) (v' := .slice aw n cw) (bs := A) (h := H) W6 (by rw [HN.out]; exact HLn.out) (by have := HG6.out; rw [← HN.out] at this ⊢; exact this.intSlice) (by have := HW6.out; rw [← HN.out] at this ⊢; exact this.intSlice)).mono ?_
  rintro e W7 ⟨rfl, hb7⟩
  have HR7 := hid (HR6.out.keep hb7)
  have HH7 := hid (HH6.out.below hb7)
  have HV7 := hid (HV6.out.below hb7)
  have HG7 := hid (HG6.out.below hb7)
  clear hb7 HR6 HH6 HV6 HG6 HW6 hRR hUU
  obtain ⟨c0, c1, c2, c3, c4, c5, c6, c7, c8, c9⟩ := HH7.out.cells
  obtain ⟨d0, d1, d2, d3, d4, d5, d6, d7, d8, d9⟩ := HV7.out.cells
  cases ok with
  | false =>
    have h0 := HF.out.1 rfl
    subst h0
    go_wp2_with fail
    go_ret
    exact ⟨rfl, HR7.out.below⟩
  | true =>
    obtain ⟨s1, e1, hA, hH⟩ := HF.out.2 rfl
    have e3 := HO.out
    rw [e1] at e3
    obtain ⟨K, hFL⟩ := field_law e3 HR7.out.tc
    have HGA := hid hFL.a
    have HGB : Hid (GraphG A [x] H K) := by show GraphG _ _ _ _; rw [hA, hH]; exact hFL.b
    have HAg : Hid (∃ s2, fieldA A H x i = some (u, s2) ∧ s2.h.bottom = H.bottom) := by show ∃ s2, _; rw [hA, hH]; exact hFL.again
    have HOkA : Hid (∃ S, OkHeap A S H) := by show ∃ S, _; rw [hA, hH]; exact hFL.ok
    have HTcA : Hid (H.touched < 9223372036854775808) := by show _ < _; rw [hH]; exact hFL.tc
    have hYs : (tellsRun A [x] [x].length []).2 = (tellsRun ws [x] [x].length []).2 := by rw [hA]; exact hFL.sameY
    have hOs : (graphRun A K (tellsRun A [x] [x].length []).1).2 = (graphRun ws K (tellsRun ws [x] [x].length []).1).2 := by rw [hA]; exact hFL.sameO
    have hFi : u % 8 ≠ 0 → 0 < (graphRun ws K (tellsRun ws [x] [x].length []).1).2.length ∧ 0 ≤ i ∧ i.toNat < (fieldsOf (graphRun ws K (tellsRun ws [x] [x].length []).1).2 0).length ∧ (fieldsOf (graphRun ws K (tellsRun ws [x] [x].length []).1).2 0).getD i.toNat 0 = u := hFL.first
    have HCa := hid (HGA.out.calls)
    have HCb := hid (HGB.out.calls)
    rw [hYs, hOs] at HCb
    have HOl : Hid ((graphRun ws K (tellsRun ws [x] [x].length []).1).2.length ≤ 8000 ∧ (∀ i, i < (graphRun ws K (tellsRun ws [x] [x].length []).1).2.length → (fieldsOf (graphRun ws K (tellsRun ws [x] [x].length []).1).2 i).length ≤ 5) ∧ (tellsRun ws [x] [x].length []).2.length = 1) := ⟨HGA.out.olen, HGA.out.flen, HGA.out.ylen⟩
    have HFi := hid hFi
    obtain ⟨os, hos⟩ : ∃ os, (graphRun ws K (tellsRun ws [x] [x].length []).1).2 = os := ⟨_, rfl⟩
    obtain ⟨ys, hys⟩ : ∃ ys, (tellsRun ws [x] [x].length []).2 = ys := ⟨_, rfl⟩
    rw [hos, hys] at HCa HCb HOl
    rw [hos] at HFi
    rw [HLL.out] at HCa
    rw [HN.out] at HCb
    clear hYs hOs hFi hos hys hFL HGA HGB e1 hA hH HF
    have hn0 : n ≠ 0 := by
      have hh := HOkA.out
      obtain ⟨S, okA⟩ := hh
      have h1 := okA.ord
      obtain ⟨p1, p2, p3, -⟩ := h1
      have := HN.out
      omega
    obtain ⟨gg, hgg⟩ : ∃ gg, ag = some ⟨gg, 0, none⟩ := by
      obtain ⟨ad, cc, e5, h5⟩ := HG7.out
      cases e5
      obtain ⟨gg, e6, -⟩ := h5.resolve_left hn0
      exact ⟨gg, e6⟩
    subst hgg
    clear hn0 e3 HO
    -- what the word leads to in the heap
    have hb8 := (Below.refl W7.heap.size W7).alloc (Nat.le_refl _) (.cells #[.int .i64 x] 3)
    have HR8 := hid (HR7.out.keep hb8)
    have HH8 := hid (HH7.out.below hb8)
    have HV8 := hid (HV7.out.below hb8)
    have HG8 := hid (HG7.out.below hb8)
    have HX8 : Hid (SliceR 3 1 W7.heap.size (W7.alloc (.cells #[.int .i64 x] 3)) (.slice (some ⟨W7.heap.size, 0, none⟩) 1 1) 1 (intCells [x])) := one_row W7 x
    go_wp2_with fail
    clear c0 c1 c2 c3 c4 c5 c6 c7 c8 c9 d0 d1 d2 d3 d4 d5 d6 d7 d8 d9
    obtain ⟨r1, hr1⟩ : ∃ r, W7.heap.size = r := ⟨_, rfl⟩
    obtain ⟨W8, hW8⟩ : ∃ X, W7.alloc (.cells #[.int .i64 x] 3) = X := ⟨_, rfl⟩
    rw [hW8] at HR8 HH8 HV8 HG8 HX8 ⊢
    rw [hr1] at HX8 ⊢
    clear hr1 hW8 hb8 HR7 HH7 HV7 HG7
    refine (HCa.out W.heap.size bw cp r1 r1 1 W8 (HRow.out _ HR8.out).1 (HRow.out _ HR8.out).2 HX8.out).mono ?_
    rintro e W9 ⟨⟨va, ua, fa, rfl, hoa, hua, -, -⟩, hb9⟩
    obtain ⟨aa, ca, hvae, -⟩ := id hoa.row
    obtain ⟨au, cu, huae, -⟩ := id hua
    subst hvae huae
    have HOa9 := hid hoa
    have HUa9 := hid hua
    have HR9 := hid (HR8.out.keep hb9)
    have HV9 := hid (HV8.out.below hb9)
    have HG9 := hid (HG8.out.below hb9)
    clear hoa hua hb9 HR8 HH8 HV8 HG8 HX8 HCa
    -- what it leads to behind the read
    have hbT := (Below.refl W9.heap.size W9).alloc (Nat.le_refl _) (.cells #[.int .i64 x] 3)
    have HRt := hid (HR9.out.keep hbT)
    have HVt := hid (HV9.out.below hbT)
    have HGt := hid (HG9.out.below hbT)
    have HOat := hid (HOa9.out.below hbT)
    have HUat := hid (HUa9.out.below hbT)
    have HXt : Hid (SliceR 3 1 W9.heap.size (W9.alloc (.cells #[.int .i64 x] 3)) (.slice (some ⟨W9.heap.size, 0, none⟩) 1 1) 1 (intCells [x])) := one_row W9 x
    obtain ⟨d0, d1, d2, d3, d4, d5, d6, d7, d8, d9⟩ := HV9.out.cells
    go_wp2_with fail
    clear d0 d1 d2 d3 d4 d5 d6 d7 d8 d9
    obtain ⟨r2, hr2⟩ : ∃ r, W9.heap.size = r := ⟨_, rfl⟩
    obtain ⟨WT, hWT⟩ : ∃ X, W9.alloc (.cells #[.int .i64 x] 3) = X := ⟨_, rfl⟩
    rw [hWT] at HRt HVt HGt HOat HUat HXt ⊢
    rw [hr2] at HXt ⊢
    clear hr2 hWT hbT HR9 HV9 HG9 HOa9 HUa9
    refine (HCb.out _ gg cg _ r2 1 WT HCg.out HGt.out HXt.out).mono ?_
    rintro e WU ⟨⟨vb, ub, fb, rfl, hob, hub, -, -⟩, hbu⟩
    obtain ⟨ab, cb, hvbe, -⟩ := id hob.row
    obtain ⟨au2, cu2, hube, -⟩ := id hub
    subst hvbe hube
    have HObU := hid hob
    have HUbU := hid hub
    have HRU := hid (HRt.out.keep hbu)
    have HVU := hid (HVt.out.below hbu)
    have HGU := hid (HGt.out.below hbu)
    have HOaU := hid (HOat.out.below hbu)
    have HUaU := hid (HUat.out.below hbu)
    clear hob hub hbu HRt HVt HGt HOat HUat HXt HCb
    -- the field again
    obtain ⟨s2, hs2, hbt⟩ := HAg.out
    have hft := (field_told A H HTcA.out (by rw [HN.out]; exact HLn.out) x i).2
    rw [hs2, HN.out] at hft
    obtain ⟨H2, hH2⟩ : ∃ H2, fH (some (u, s2)) = H2 := ⟨_, rfl⟩
    obtain ⟨A2, hA2⟩ : ∃ A2, fW (some (u, s2)) = A2 := ⟨_, rfl⟩
    have hB2 : H2.bottom = H.bottom := by rw [← hH2]; exact hbt
    have hfu : fU (some (u, s2)) = u := rfl
    have hfs : (some (u, s2)).isSome = true := rfl
    rw [hH2, hA2, hfu, hfs] at hft
    have HFt := hid hft
    have hBb : (H2.bottom == H.bottom) = true := by simpa using hB2
    clear hs2 hbt hft hH2 hA2 hfu hfs hB2 HAg
    obtain ⟨d0, d1, d2, d3, d4, d5, d6, d7, d8, d9⟩ := HVU.out.cells
    go_wp2_with fail
    clear d0 d1 d2 d3 d4 d5 d6 d7 d8 d9
    refine (HFt.out _ gg cg WU HCg.out HGU.out).mono ?_
    rintro e WV ⟨⟨a2, c2', rfl, -, -⟩, hbv⟩
    obtain ⟨n2, hn2⟩ : ∃ n, A2.length = n := ⟨_, rfl⟩
    rw [hn2]
    unfold heapV
    dsimp only
    have hbE := (Below.refl WV.heap.size WV).alloc (Nat.le_refl _) (.cells #[.slice a2 n2 c2', .int .i64 H2.size, .int .i64 H2.to, .int .i64 H2.bottom, .int .i64 H2.top, .int .i64 H2.scan, .int .i64 H2.fb, .int .i64 H2.ft, .int .i64 H2.flips, .int .i64 H2.touched] 25)
    have hbF := hbv.trans (hbE.mono hbv.size)
    have HRW := hid (HRU.out.keep hbF)
    have HVW := hid (HVU.out.below hbF)
    have HGW := hid (HGU.out.below hbF)
    have HOaW := hid (HOaU.out.below hbF)
    have HUaW := hid (HUaU.out.below hbF)
    have HObW := hid (HObU.out.below hbF)
    have HUbW := hid (HUbU.out.below hbF)
    have HAW : Hid (HeapBlk _ WV.heap.size (.slice a2 n2 c2') H2) := HeapBlk.new WV (.slice a2 n2 c2') H2
    clear hbv hbE hbF hn2 HFt HRU HVU HGU HOaU HUaU HObU HUbU
    go_wp2_with fail
    obtain ⟨av, hav⟩ : ∃ v, WV.heap.size = v := ⟨_, rfl⟩
    obtain ⟨WW, hWW⟩ : ∃ X, WV.alloc (.cells #[.slice a2 n2 c2', .int .i64 H2.size, .int .i64 H2.to, .int .i64 H2.bottom, .int .i64 H2.top, .int .i64 H2.scan, .int .i64 H2.fb, .int .i64 H2.ft, .int .i64 H2.flips, .int .i64 H2.touched] 25) = X := ⟨_, rfl⟩
    rw [hWW] at HRW HVW HGW HOaW HUaW HObW HUbW HAW ⊢
    rw [hav] at HAW ⊢
    clear hav hWW
    refine (implTag_calls u WW).mono ?_
    rintro e w1 ⟨rfl, rfl⟩
    unfold tagZ
    have hYl : ys.length = 1 := HOl.out.2.2
    have HT1 : Hid (∀ X, Below WW.heap.size WW X → Calls Try.prog 11 #[.slice au ys.length cu, .slice au2 ys.length cu2] X fun e w' => e = .returned (.bool true) ∧ Below X.heap.size X w') := fun X hX => hrInts_any X (by omega) (HUaW.out.below hX).intSlice (HUbW.out.below hX).intSlice
    rw [hYl] at HT1 ⊢
    have HT2 : Hid (∀ X, Below WW.heap.size WW X → Calls Try.prog 10 #[.slice aa os.length ca, .slice ab os.length cb] X fun e w' => e = .returned (.bool true) ∧ Below X.heap.size X w') := fun X hX => hrObjs_any (fun i => fieldsOf os i) X (by have := HOl.out.1; omega) (fun i hi => by have := HOl.out.2.1 i hi; omega) (HOaW.out.below hX) (HObW.out.below hX)
    have HT3 : Hid (∀ X, Below WW.heap.size WW X → Calls Try.prog 15 #[heapV (.slice (some ⟨gg, 0, none⟩) n cg) H] X fun e w' => e = .returned (.bool true) ∧ Below X.heap.size X w') := fun X hX => by
      have hh := HOkA.out
      obtain ⟨S, okA⟩ := hh
      have k1 := HGW.out.below hX
      have k2 := HCg.out
      rw [← HN.out] at k1 k2 ⊢
      exact ok_good okA _ gg cg X k2 k1
    clear hYl
    have HOb8 := hid HOl.out.1
    obtain ⟨no, hno⟩ : ∃ no, os.length = no := ⟨_, rfl⟩
    have HNo := hid hno
    by_cases hu8 : u % 8 = 0
    case' pos =>
      rw [hu8]
      rw [hno] at HT2 ⊢
      clear hno
      go_wp2_with fail
    case' neg =>
      have hu9 : (u % 8 != 0) = true := by simpa using hu8
      obtain ⟨q1, q2, q3, q4⟩ := HFi.out hu8
      obtain ⟨k, rfl⟩ := Int.eq_ofNat_of_zero_le q2
      rw [Int.toNat_natCast] at q3 q4
      obtain ⟨ga, hga, hca⟩ : ∃ ga, aa = some ⟨ga, 0, none⟩ ∧ WW.cell? ⟨ga, 0 + 0 * 2 + 1, none⟩ = some (fa 0) := by
        obtain ⟨ad, cc, e5, h5⟩ := HOaW.out.row
        cases e5
        obtain ⟨ga, e6, -, hr⟩ := h5.resolve_left (by omega)
        refine ⟨ga, e6, ?_⟩
        have := hr.cell (i := 1) (by omega)
        rw [show (1 : Nat) = 0 * 2 + 1 by rfl, objF_fields] at this
        simpa using this
      subst hga
      obtain ⟨gf, cf, hfa, hcf⟩ : ∃ gf cf, fa 0 = .slice (some ⟨gf, 0, none⟩) (fieldsOf os 0).length cf ∧ WW.cell? ⟨gf, 0 + k, none⟩ = some (.int .i64 u) := by
        obtain ⟨ad, cc, e5, h5⟩ := HOaW.out.fld 0 q1
        obtain ⟨gf, e6, -, hr⟩ := h5.resolve_left (by omega)
        refine ⟨gf, cc, by rw [e5, e6], ?_⟩
        have := hr.cell (i := k) (by omega)
        unfold intCells at this
        rw [q4] at this
        rw [Nat.zero_add]
        exact this
      rw [hfa] at hca
      obtain ⟨nf, hnf⟩ : ∃ nf, (fieldsOf os 0).length = nf := ⟨_, rfl⟩
      rw [hnf] at hca q3
      have hk1 : (k : Int) < (nf : Int) := by omega
      have hno1 : (0 : Int) < (no : Int) := by omega
      have hUU : (u != u) = false := by simp
      rw [Nat.zero_add] at hcf
      simp only [Nat.zero_mul, Nat.zero_add] at hca
      rw [hno] at HT2 ⊢
      clear hno hnf hfa q1 q3 q4 hu8
      go_wp2_with fail
    all_goals
      refine (HT1.out WW (Below.refl _ _)).mono ?_
      rintro e WX ⟨rfl, hbx⟩
      have HBx := hid hbx
      clear hbx
      go_wp2_with fail
      refine (HT2.out WX HBx.out).mono ?_
      rintro e WY ⟨rfl, hby⟩
      have HBy := hid (HBx.out.trans (hby.mono HBx.out.size))
      obtain ⟨d0, d1, d2, d3, d4, d5, d6, d7, d8, d9⟩ := (HVW.out.below HBy.out).cells
      obtain ⟨c0, c1, c2, c3, c4, c5, c6, c7, c8, c9⟩ := (HAW.out.below HBy.out).cells
      have hUE : (u == u) = true := by simp
      clear hby
      go_wp2_with fail
      refine (HT3.out WY HBy.out).mono ?_
      rintro e WZ ⟨rfl, hbz⟩
      have HBz := hid (HRW.out.below.trans ((HBy.out.trans (hbz.mono HBy.out.size)).mono HRW.out.below.size))
      clear hbz
      go_wp2_with fail
      go_ret
      exact ⟨rfl, HBz.out⟩
end Go.Proofs.Ytebpgglegnljgaa

/- At every bytes the promise on fields holds: a field is read as what it is, and behind it the heap is the same but for places; the bytes unchanged; no condition. -/
namespace Go.Proofs.Ytebpgglegnljgaa.fnHeapField
open Go.ChangeShapes Go.WideShapes Go.ChangeAt Go.RowKit
set_option linter.unusedVariables false

theorem own : ownKnob Try.prog.godebug = none := by kernel_rfl

theorem spot_none {W : World} {a : Addr} {v : Value} (h : W.cell? a = some v) : a.spot = none := by
  unfold World.cell? at h
  split at h
  · by_cases hs : a.spot.isSome
    · simp [hs] at h
    · simpa using hs
  · cases h

theorem block_lt {W : World} {a : Addr} {v : Value} (h : W.cell? a = some v) : a.block < W.heap.size := by
  unfold World.cell? at h
  split at h
  · rename_i e
    obtain ⟨hlt, _⟩ := Array.getElem?_eq_some_iff.mp e
    exact hlt
  · cases h

theorem le_of_max {n : Nat} (h : n ≤ maxLen) : n ≤ 9223372036854775807 := by
  unfold maxLen at h
  omega

theorem cells_u8 : Try.prog.cellsOf 5 = 1 := by kernel_rfl
theorem laidOut : laidOutB Try.prog = true := by kernel_rfl

theorem open_bytes {H : Type} {enc : TypeId × Value → H} {W : World} {sp : Nat → Bool} {held : Bool} {fuel : Nat} {v : Value} {x : DataW H × List MemPlace}
    (h : DataW.trod enc Try.prog W 0 sp held fuel 22 [v] = some x) :
    ∃ a0 len cap, v = .slice a0 len cap ∧ len ≤ cap ∧ len ≤ maxLen ∧ BytesAt W a0 len := by
  rcases open_ints Try.underlying22 Try.underlying5 cells_u8 h with ⟨hc, _⟩ | ⟨a, len, cap, zs, hc, _, hl, hm, hz, _, hcell, hwf⟩
  · simp at hc
    subst hc
    exact ⟨none, 0, 0, rfl, Nat.le_refl _, Nat.zero_le _, fun h => absurd h (by omega)⟩
  · simp at hc
    subst hc
    have hlm : len ≤ zs.length := by rw [hz]; split <;> omega
    refine ⟨some a, len, cap, rfl, hl, by omega, fun h0 => ?_⟩
    have hc0 := hcell 0 (by omega)
    have hs := spot_none hc0
    have hb := block_lt hc0
    obtain ⟨b, off, spot⟩ := a
    have hspot : spot = none := by simpa [Addr.add] using hs
    subst hspot
    refine ⟨b, off, rfl, by simpa [Addr.add] using hb, fun i hi => ?_⟩
    have hci := hcell i (by omega)
    have e : (Addr.add ⟨b, off, none⟩ i) = ⟨b, off + i, none⟩ := by
      unfold Addr.add
      split
      · rename_i h
        subst h
        rfl
      · rfl
    rw [e] at hci
    have hin : zs.getD i 0 ∈ zs := by
      rw [List.getD, List.getElem?_eq_getElem (show i < zs.length by omega)]
      exact List.getElem_mem _
    have hw := hwf _ hin
    simp only [Lit.wf, Bool.and_eq_true, decide_eq_true_eq] at hw
    exact ⟨_, hci, hw.1, hw.2⟩

set_option maxRecDepth 100000 in
theorem lifted (os : Os) (started : os.Started) (H : Type) (enc : TypeId × Value → H) :
    ReturnsInHanded {} Try.checked os 5 .any (Rows.fnHeapFieldSpec.pre6 enc Try.prog Try.f5 Rows.fnHeapFieldRow.domain false) (Rows.fnHeapFieldSpec.post enc Try.prog Try.f5 false true false false) := by
  refine returnsInHanded_of_change (C := Try.checked) own started (by kernel_rfl) Try.func5
    (ChangeSpec.witness6 (enc := enc) (C := Try.checked) false ⟨#[], #[.slice none 0 0], []⟩ 8 (by kernel_rfl) (by kernel_rfl) (by kernel_rfl) (by kernel_rfl)) ?_
  intro W base args ds gs before hval0 hW hcnd _
  have hval : ∀ (j : Nat) t v, Try.f5.params[j]? = some t → args[j]? = some v → Value.okWide Try.prog W .any base t v := hval0
  have hW' := hW
  obtain ⟨p, q, hA0, hV, rfl, hfz, hnd⟩ := hW
  have hA : DataW.TrodAll enc Try.prog W 0 (fun _ => true) true Try.f5.params.toList args.toList ds p := hA0
  rw [Try.params5] at hA hval
  obtain ⟨v0, vs0, d0, ds0, p0, q0, hargs, rfl, rfl, h0, r0⟩ := trodAll_cons hA
  obtain ⟨rfl, rfl, rfl⟩ := trodAll_nil r0
  obtain rfl : args = #[v0] := by cases args; simp_all
  obtain ⟨rfl, rfl⟩ := trodVars_none hV
  clear hA0 hval0
  simp only [List.append_nil] at hW'
  have hlt : ∀ y ∈ p0, y.block < W.heap.size := fun y hy => by simpa using hW'.lt y (by simpa using hy)
  have h0k := h0
  obtain ⟨fuel, hf⟩ := h0
  obtain ⟨a1, len1, cap1, rfl⟩ := okWide_slice Try.underlying22 (hval 0 22 v0 rfl rfl)
  obtain ⟨a0, len, cap, hv, hl, hm, hB⟩ := open_bytes (by simpa [Value.cells] using hf)
  cases hv
  refine (field_walk _ _ _ W hl hB).mono fun e W' ⟨he, hg⟩ => ?_
  subst he
  refine ⟨_, rfl, _, _, _, [], p0, [], hW', ?_, ?_, rfl, hg.frame _, fun h => by cases h⟩
  · exact trodAll_cons_mk (shut_bool Try.underlying4 _) trodAll_mk0
  · exact trodAll_mk1 (Below.trod laidOut (by kernel_rfl) (of_decide_eq_true (by kernel_rfl)) h0k hg hlt)

theorem over : Rows.fnHeapFieldRow.holds Try.pinned (OpenSpec.ofChange Rows.fnHeapFieldSpec) :=
  OpenClaim.holds_of_wide 5 Try.f5 rfl rfl rfl rfl rfl rfl rfl ⟨rfl, rfl, rfl, rfl, rfl⟩ rfl rfl rfl rfl rfl (by kernel_rfl) Try.func5 (by kernel_rfl)
    (of_decide_eq_true (by kernel_rfl)) (by unfold Func.isWrapper; first | (rw [if_pos (by decide +kernel)]; kernel_rfl) | (rw [if_neg (by decide +kernel)]; exact ⟨rfl, rfl⟩))
    (fun os started H enc _ => lifted os started H enc)

theorem proved : Rows.FnHeapFieldSaid :=
  over
#print axioms proved
end Go.Proofs.Ytebpgglegnljgaa.fnHeapField
