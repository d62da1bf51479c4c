import Derived.Test.YtebpgglegnljgaaSlmPK3
import Derived.Test.YtebpgglegnljgaaSlmPK6
import Derived.Test.YtebpgglegnljgaaSlmPK4
import Derived.Test.YtebpgglegnljgaaSlmPK2
import Derived.Test.YtebpgglegnljgaaSlmPK5
namespace Go.Proofs.Ytebpgglegnljgaa
open Go.RowKit

set_option maxHeartbeats 8000000 in
set_option maxRecDepth 100000 in
theorem sScan_notOk (b off cap N : Nat) (h : HpN) (x : Int) (w : World)
    (HOk : Hid (∀ X, Below w.heap.size w X → Calls Try.prog 35 #[heapV (.slice (some ⟨b, off, none⟩) N cap) h] X fun e w' => e = .returned (.bool false) ∧ Below X.heap.size X w')) :
    Calls Try.prog 25 #[heapV (.slice (some ⟨b, off, none⟩) N cap) h, .int .i64 x] w fun e w' => e = .returned (.tuple #[noHeap, .bool false]) ∧ Below w.heap.size w w' := by
  obtain ⟨g1, g2, g3, g4, g5, g6, g7, g8, g9⟩ := h
  unfold heapV at *
  dsimp only at *
  obtain ⟨W0, hW0, hA, hR, k2⟩ := both_new w (.slice (some ⟨b, off, none⟩) N cap) ⟨g1, g2, g3, g4, g5, g6, g7, g8, g9⟩
  dsimp only at hW0
  have HW0 := hid hW0
  clear hW0
  go_enter Try.func25, Try.ntmps25
  go_wp2_with fail
  rw [HW0.out]
  have hlt := heap_lt hA
  obtain ⟨v0, v1, v2, v3, v4, v5, v6, v7, v8, v9⟩ := hA.later (B := W0.heap.size) hlt
  dsimp only at v0 v1 v2 v3 v4 v5 v6 v7 v8 v9
  have HA := hid hA
  have HR := hid hR
  have HK2 := hid k2
  clear hA hR k2 HW0
  have KB : Hid (∀ X : Later W0.heap.size W0, Below w.heap.size w X.w ∧ w.heap.size ≤ X.w.heap.size) := fun X => by
    have k := HK2.out.trans (X.h.mono HK2.out.size)
    exact ⟨k, k.size⟩
  clear v0 v1 v2 v3 v4 v5 v6 v7 v8 v9
  refine (HOk.out _ HK2.out).mono ?_
  rintro e W6 ⟨rfl, hb6⟩
  have HB6 := hid (HK2.out.trans (hb6.mono HK2.out.size))
  have HR6 := hid (HR.out.below hb6)
  have HA6 := hid (HA.out.below hb6)
  clear hb6
  obtain ⟨c0, c1, c2, c3, c4, c5, c6, c7, c8, c9⟩ := HR6.out.cells
  dsimp only at c0 c1 c2 c3 c4 c5 c6 c7 c8 c9
  have z0 := frozen_of_heap HR6.out 0
  have z1 := frozen_of_heap HR6.out 1
  have z2 := frozen_of_heap HR6.out 2
  have z3 := frozen_of_heap HR6.out 3
  have z4 := frozen_of_heap HR6.out 4
  have z5 := frozen_of_heap HR6.out 5
  have z6 := frozen_of_heap HR6.out 6
  have z7 := frozen_of_heap HR6.out 7
  have z8 := frozen_of_heap HR6.out 8
  have z9 := frozen_of_heap HR6.out 9
  go_wp2_with fail
  refine heap_use HR6.out (.slice none 0 0) ⟨0, 0, 0, 0, 0, 0, 0, 0, 0⟩ _ ?_
  intro W7 hL hb7 _ _
  obtain ⟨y0, y1, y2, y3, y4, y5, y6, y7, y8, y9⟩ := hL.cells
  dsimp only at y0 y1 y2 y3 y4 y5 y6 y7 y8 y9
  exact bodyPost_ret (v := .tuple #[noHeap, .bool false]) (by simp [results, Try.results25, go_sem, y0, y1, y2, y3, y4, y5, y6, y7, y8, y9, noHeap, heapV]) rfl ⟨rfl, HB6.out.trans (hb7 _ (Nat.le_succ _))⟩

set_option maxHeartbeats 8000000 in
set_option maxRecDepth 100000 in
theorem sScan_below (b off cap N : Nat) (h : HpN) (x : Int) (w : World)
    (hx : x < 0)
    (HOk : Hid (∀ X, Below w.heap.size w X → Calls Try.prog 35 #[heapV (.slice (some ⟨b, off, none⟩) N cap) h] X fun e w' => e = .returned (.bool true) ∧ Below X.heap.size X w')) :
    Calls Try.prog 25 #[heapV (.slice (some ⟨b, off, none⟩) N cap) h, .int .i64 x] w fun e w' => e = .returned (.tuple #[noHeap, .bool false]) ∧ Below w.heap.size w w' := by
  obtain ⟨g1, g2, g3, g4, g5, g6, g7, g8, g9⟩ := h
  unfold heapV at *
  dsimp only at *
  obtain ⟨W0, hW0, hA, hR, k2⟩ := both_new w (.slice (some ⟨b, off, none⟩) N cap) ⟨g1, g2, g3, g4, g5, g6, g7, g8, g9⟩
  dsimp only at hW0
  have HW0 := hid hW0
  clear hW0
  go_enter Try.func25, Try.ntmps25
  go_wp2_with fail
  rw [HW0.out]
  have hlt := heap_lt hA
  obtain ⟨v0, v1, v2, v3, v4, v5, v6, v7, v8, v9⟩ := hA.later (B := W0.heap.size) hlt
  dsimp only at v0 v1 v2 v3 v4 v5 v6 v7 v8 v9
  have HA := hid hA
  have HR := hid hR
  have HK2 := hid k2
  clear hA hR k2 HW0
  have KB : Hid (∀ X : Later W0.heap.size W0, Below w.heap.size w X.w ∧ w.heap.size ≤ X.w.heap.size) := fun X => by
    have k := HK2.out.trans (X.h.mono HK2.out.size)
    exact ⟨k, k.size⟩
  clear v0 v1 v2 v3 v4 v5 v6 v7 v8 v9
  refine (HOk.out _ HK2.out).mono ?_
  rintro e W6 ⟨rfl, hb6⟩
  have HB6 := hid (HK2.out.trans (hb6.mono HK2.out.size))
  have HR6 := hid (HR.out.below hb6)
  have HA6 := hid (HA.out.below hb6)
  clear hb6
  obtain ⟨c0, c1, c2, c3, c4, c5, c6, c7, c8, c9⟩ := HR6.out.cells
  dsimp only at c0 c1 c2 c3 c4 c5 c6 c7 c8 c9
  have z0 := frozen_of_heap HR6.out 0
  have z1 := frozen_of_heap HR6.out 1
  have z2 := frozen_of_heap HR6.out 2
  have z3 := frozen_of_heap HR6.out 3
  have z4 := frozen_of_heap HR6.out 4
  have z5 := frozen_of_heap HR6.out 5
  have z6 := frozen_of_heap HR6.out 6
  have z7 := frozen_of_heap HR6.out 7
  have z8 := frozen_of_heap HR6.out 8
  have z9 := frozen_of_heap HR6.out 9
  go_wp2_with fail
  refine heap_use HR6.out (.slice none 0 0) ⟨0, 0, 0, 0, 0, 0, 0, 0, 0⟩ _ ?_
  intro W7 hL hb7 _ _
  obtain ⟨y0, y1, y2, y3, y4, y5, y6, y7, y8, y9⟩ := hL.cells
  dsimp only at y0 y1 y2 y3 y4 y5 y6 y7 y8 y9
  exact bodyPost_ret (v := .tuple #[noHeap, .bool false]) (by simp [results, Try.results25, go_sem, y0, y1, y2, y3, y4, y5, y6, y7, y8, y9, noHeap, heapV]) rfl ⟨rfl, HB6.out.trans (hb7 _ (Nat.le_succ _))⟩

set_option maxHeartbeats 8000000 in
set_option maxRecDepth 100000 in
theorem sScan_above (b off cap N : Nat) (h : HpN) (x : Int) (w : World)
    (hx : 4000 < x) (hd : decide (x < 0) = false)
    (HOk : Hid (∀ X, Below w.heap.size w X → Calls Try.prog 35 #[heapV (.slice (some ⟨b, off, none⟩) N cap) h] X fun e w' => e = .returned (.bool true) ∧ Below X.heap.size X w')) :
    Calls Try.prog 25 #[heapV (.slice (some ⟨b, off, none⟩) N cap) h, .int .i64 x] w fun e w' => e = .returned (.tuple #[noHeap, .bool false]) ∧ Below w.heap.size w w' := by
  obtain ⟨g1, g2, g3, g4, g5, g6, g7, g8, g9⟩ := h
  unfold heapV at *
  dsimp only at *
  obtain ⟨W0, hW0, hA, hR, k2⟩ := both_new w (.slice (some ⟨b, off, none⟩) N cap) ⟨g1, g2, g3, g4, g5, g6, g7, g8, g9⟩
  dsimp only at hW0
  have HW0 := hid hW0
  clear hW0
  go_enter Try.func25, Try.ntmps25
  go_wp2_with fail
  rw [HW0.out]
  have hlt := heap_lt hA
  obtain ⟨v0, v1, v2, v3, v4, v5, v6, v7, v8, v9⟩ := hA.later (B := W0.heap.size) hlt
  dsimp only at v0 v1 v2 v3 v4 v5 v6 v7 v8 v9
  have HA := hid hA
  have HR := hid hR
  have HK2 := hid k2
  clear hA hR k2 HW0
  have KB : Hid (∀ X : Later W0.heap.size W0, Below w.heap.size w X.w ∧ w.heap.size ≤ X.w.heap.size) := fun X => by
    have k := HK2.out.trans (X.h.mono HK2.out.size)
    exact ⟨k, k.size⟩
  clear v0 v1 v2 v3 v4 v5 v6 v7 v8 v9
  refine (HOk.out _ HK2.out).mono ?_
  rintro e W6 ⟨rfl, hb6⟩
  have HB6 := hid (HK2.out.trans (hb6.mono HK2.out.size))
  have HR6 := hid (HR.out.below hb6)
  have HA6 := hid (HA.out.below hb6)
  clear hb6
  obtain ⟨c0, c1, c2, c3, c4, c5, c6, c7, c8, c9⟩ := HR6.out.cells
  dsimp only at c0 c1 c2 c3 c4 c5 c6 c7 c8 c9
  have z0 := frozen_of_heap HR6.out 0
  have z1 := frozen_of_heap HR6.out 1
  have z2 := frozen_of_heap HR6.out 2
  have z3 := frozen_of_heap HR6.out 3
  have z4 := frozen_of_heap HR6.out 4
  have z5 := frozen_of_heap HR6.out 5
  have z6 := frozen_of_heap HR6.out 6
  have z7 := frozen_of_heap HR6.out 7
  have z8 := frozen_of_heap HR6.out 8
  have z9 := frozen_of_heap HR6.out 9
  go_wp2_with fail
  refine heap_use HR6.out (.slice none 0 0) ⟨0, 0, 0, 0, 0, 0, 0, 0, 0⟩ _ ?_
  intro W7 hL hb7 _ _
  obtain ⟨y0, y1, y2, y3, y4, y5, y6, y7, y8, y9⟩ := hL.cells
  dsimp only at y0 y1 y2 y3 y4 y5 y6 y7 y8 y9
  exact bodyPost_ret (v := .tuple #[noHeap, .bool false]) (by simp [results, Try.results25, go_sem, y0, y1, y2, y3, y4, y5, y6, y7, y8, y9, noHeap, heapV]) rfl ⟨rfl, HB6.out.trans (hb7 _ (Nat.le_succ _))⟩

end Go.Proofs.Ytebpgglegnljgaa

namespace Go.Proofs.Ytebpgglegnljgaa
open Go.RowKit

set_option maxRecDepth 100000 in
theorem iOk_calls {v : Value} {h : HpN} {W : World} {R : Bool} (H : ∀ w, Below W.heap.size W w → Calls Try.prog 30 #[heapV v h] w fun e w' => (∃ (a a' : Option Addr) (n c n' c' : Nat) (h' : HpN), e = .returned (.tuple #[layV (.slice a n c) h' (.slice a' n' c'), .bool R])) ∧ Below w.heap.size w w') :
    Calls Try.prog 15 #[heapV v h] W fun e w' => e = .returned (.bool R) ∧ Below W.heap.size W w' := by
  have HH := hid H
  clear H
  obtain ⟨g1, g2, g3, g4, g5, g6, g7, g8, g9⟩ := h
  unfold heapV at *
  dsimp only at *
  go_enter Try.func15, Try.ntmps15
  go_wp2_with fail
  have k0 := (Below.refl W.heap.size W).alloc (Nat.le_refl _) (.cells #[v, .int .i64 g1, .int .i64 g2, .int .i64 g3, .int .i64 g4, .int .i64 g5, .int .i64 g6, .int .i64 g7, .int .i64 g8, .int .i64 g9] 25)
  refine (HH.out _ k0).mono ?_
  rintro e W1 ⟨⟨a, a', n, c, n', c', ⟨i1, i2, i3, i4, i5, i6, i7, i8, i9⟩, rfl⟩, hb⟩
  unfold layV
  dsimp only
  have HB := hid (k0.trans (hb.mono k0.size))
  clear hb k0 HH
  go_wp2_with fail
  go_ret
  exact ⟨rfl, HB.out.alloc HB.out.size _⟩

set_option maxHeartbeats 8000000 in
set_option maxRecDepth 100000 in
theorem iScan_below (b off cap N : Nat) (h : HpN) (x : Int) (w : World)
    (hx : x < 0) :
    Calls Try.prog 19 #[heapV (.slice (some ⟨b, off, none⟩) N cap) h, .int .i64 x] w fun e w' => e = .returned (.tuple #[noHeap, .bool false]) ∧ Below w.heap.size w w' := by
  obtain ⟨g1, g2, g3, g4, g5, g6, g7, g8, g9⟩ := h
  unfold heapV at *
  dsimp only at *
  obtain ⟨W0, hW0, hA, hR, k2⟩ := both_new w (.slice (some ⟨b, off, none⟩) N cap) ⟨g1, g2, g3, g4, g5, g6, g7, g8, g9⟩
  dsimp only at hW0
  have HB6 := hid k2
  have HR6 := hid hR
  clear hA hR k2
  obtain ⟨c0, c1, c2, c3, c4, c5, c6, c7, c8, c9⟩ := HR6.out.cells
  dsimp only at c0 c1 c2 c3 c4 c5 c6 c7 c8 c9
  have z0 := frozen_of_heap HR6.out 0
  have z1 := frozen_of_heap HR6.out 1
  have z2 := frozen_of_heap HR6.out 2
  have z3 := frozen_of_heap HR6.out 3
  have z4 := frozen_of_heap HR6.out 4
  have z5 := frozen_of_heap HR6.out 5
  have z6 := frozen_of_heap HR6.out 6
  have z7 := frozen_of_heap HR6.out 7
  have z8 := frozen_of_heap HR6.out 8
  have z9 := frozen_of_heap HR6.out 9
  go_enter Try.func19, Try.ntmps19
  go_wp2_with fail
  refine heap_use HR6.out (.slice none 0 0) ⟨0, 0, 0, 0, 0, 0, 0, 0, 0⟩ _ ?_
  intro W7 hL hb7 _ _
  obtain ⟨y0, y1, y2, y3, y4, y5, y6, y7, y8, y9⟩ := hL.cells
  dsimp only at y0 y1 y2 y3 y4 y5 y6 y7 y8 y9
  exact bodyPost_ret (v := .tuple #[noHeap, .bool false]) (by simp [results, Try.results19, go_sem, y0, y1, y2, y3, y4, y5, y6, y7, y8, y9, noHeap, heapV]) rfl ⟨rfl, HB6.out.trans (hb7 _ (Nat.le_succ _))⟩

set_option maxHeartbeats 8000000 in
set_option maxRecDepth 100000 in
theorem iScan_above (b off cap N : Nat) (h : HpN) (x : Int) (w : World)
    (hx : 4000 < x) (hd : decide (x < 0) = false) :
    Calls Try.prog 19 #[heapV (.slice (some ⟨b, off, none⟩) N cap) h, .int .i64 x] w fun e w' => e = .returned (.tuple #[noHeap, .bool false]) ∧ Below w.heap.size w w' := by
  obtain ⟨g1, g2, g3, g4, g5, g6, g7, g8, g9⟩ := h
  unfold heapV at *
  dsimp only at *
  obtain ⟨W0, hW0, hA, hR, k2⟩ := both_new w (.slice (some ⟨b, off, none⟩) N cap) ⟨g1, g2, g3, g4, g5, g6, g7, g8, g9⟩
  dsimp only at hW0
  have HB6 := hid k2
  have HR6 := hid hR
  clear hA hR k2
  obtain ⟨c0, c1, c2, c3, c4, c5, c6, c7, c8, c9⟩ := HR6.out.cells
  dsimp only at c0 c1 c2 c3 c4 c5 c6 c7 c8 c9
  have z0 := frozen_of_heap HR6.out 0
  have z1 := frozen_of_heap HR6.out 1
  have z2 := frozen_of_heap HR6.out 2
  have z3 := frozen_of_heap HR6.out 3
  have z4 := frozen_of_heap HR6.out 4
  have z5 := frozen_of_heap HR6.out 5
  have z6 := frozen_of_heap HR6.out 6
  have z7 := frozen_of_heap HR6.out 7
  have z8 := frozen_of_heap HR6.out 8
  have z9 := frozen_of_heap HR6.out 9
  go_enter Try.func19, Try.ntmps19
  go_wp2_with fail
  refine heap_use HR6.out (.slice none 0 0) ⟨0, 0, 0, 0, 0, 0, 0, 0, 0⟩ _ ?_
  intro W7 hL hb7 _ _
  obtain ⟨y0, y1, y2, y3, y4, y5, y6, y7, y8, y9⟩ := hL.cells
  dsimp only at y0 y1 y2 y3 y4 y5 y6 y7 y8 y9
  exact bodyPost_ret (v := .tuple #[noHeap, .bool false]) (by simp [results, Try.results19, go_sem, y0, y1, y2, y3, y4, y5, y6, y7, y8, y9, noHeap, heapV]) rfl ⟨rfl, HB6.out.trans (hb7 _ (Nat.le_succ _))⟩

set_option maxHeartbeats 8000000 in
set_option maxRecDepth 100000 in
theorem iScan_notOk (b off cap N : Nat) (h : HpN) (x : Int) (w : World)
    (hd : decide (x < 0) = false) (hd2 : decide (4000 < x) = false)
    (HOk : Hid (∀ X, Below w.heap.size w X → Calls Try.prog 15 #[heapV (.slice (some ⟨b, off, none⟩) N cap) h] X fun e w' => e = .returned (.bool false) ∧ Below X.heap.size X w')) :
    Calls Try.prog 19 #[heapV (.slice (some ⟨b, off, none⟩) N cap) h, .int .i64 x] w fun e w' => e = .returned (.tuple #[noHeap, .bool false]) ∧ Below w.heap.size w w' := by
  obtain ⟨g1, g2, g3, g4, g5, g6, g7, g8, g9⟩ := h
  unfold heapV at *
  dsimp only at *
  obtain ⟨W0, hW0, hA, hR, k2⟩ := both_new w (.slice (some ⟨b, off, none⟩) N cap) ⟨g1, g2, g3, g4, g5, g6, g7, g8, g9⟩
  dsimp only at hW0
  have HW0 := hid hW0
  clear hW0
  go_enter Try.func19, Try.ntmps19
  go_wp2_with fail
  rw [HW0.out]
  have hlt := heap_lt hA
  obtain ⟨v0, v1, v2, v3, v4, v5, v6, v7, v8, v9⟩ := hA.later (B := W0.heap.size) hlt
  dsimp only at v0 v1 v2 v3 v4 v5 v6 v7 v8 v9
  have HA := hid hA
  have HR := hid hR
  have HK2 := hid k2
  clear hA hR k2 HW0
  have KB : Hid (∀ X : Later W0.heap.size W0, Below w.heap.size w X.w ∧ w.heap.size ≤ X.w.heap.size) := fun X => by
    have k := HK2.out.trans (X.h.mono HK2.out.size)
    exact ⟨k, k.size⟩
  clear v0 v1 v2 v3 v4 v5 v6 v7 v8 v9
  refine (HOk.out _ HK2.out).mono ?_
  rintro e W6 ⟨rfl, hb6⟩
  have HB6 := hid (HK2.out.trans (hb6.mono HK2.out.size))
  have HR6 := hid (HR.out.below hb6)
  have HA6 := hid (HA.out.below hb6)
  clear hb6
  obtain ⟨c0, c1, c2, c3, c4, c5, c6, c7, c8, c9⟩ := HR6.out.cells
  dsimp only at c0 c1 c2 c3 c4 c5 c6 c7 c8 c9
  have z0 := frozen_of_heap HR6.out 0
  have z1 := frozen_of_heap HR6.out 1
  have z2 := frozen_of_heap HR6.out 2
  have z3 := frozen_of_heap HR6.out 3
  have z4 := frozen_of_heap HR6.out 4
  have z5 := frozen_of_heap HR6.out 5
  have z6 := frozen_of_heap HR6.out 6
  have z7 := frozen_of_heap HR6.out 7
  have z8 := frozen_of_heap HR6.out 8
  have z9 := frozen_of_heap HR6.out 9
  go_wp2_with fail
  refine heap_use HR6.out (.slice none 0 0) ⟨0, 0, 0, 0, 0, 0, 0, 0, 0⟩ _ ?_
  intro W7 hL hb7 _ _
  obtain ⟨y0, y1, y2, y3, y4, y5, y6, y7, y8, y9⟩ := hL.cells
  dsimp only at y0 y1 y2 y3 y4 y5 y6 y7 y8 y9
  exact bodyPost_ret (v := .tuple #[noHeap, .bool false]) (by simp [results, Try.results19, go_sem, y0, y1, y2, y3, y4, y5, y6, y7, y8, y9, noHeap, heapV]) rfl ⟨rfl, HB6.out.trans (hb7 _ (Nat.le_succ _))⟩

end Go.Proofs.Ytebpgglegnljgaa

namespace Go.Proofs.Ytebpgglegnljgaa
open Go.RowKit

theorem told_same (t r q : Int) : wrap64 (wrap64 (t + r) + q) = wrap64 (t + (r + q)) := by
  unfold wrap64
  omega

end Go.Proofs.Ytebpgglegnljgaa

namespace Go.Proofs.Ytebpgglegnljgaa
open Go.RowKit

def ansW : Option CN → List Int
  | none => []
  | some s => s.ws
def ansH : Option CN → HpN
  | none => ⟨0, 0, 0, 0, 0, 0, 0, 0, 0⟩
  | some s => { s.h with touched := touchZ s }

def scanA (bs : List Int) (h : HpN) (x : Int) : Option CN := if 0 ≤ x ∧ x ≤ 4000 ∧ Ordered h bs.length ∧ specOk bs h = true then scanRun x.toNat ⟨bs, h, 0, 0⟩ else none

theorem row_atC {B g N cp : Nat} {bs : List Int} {W X : World} (h0 : N ≠ 0) (hs : SliceR 3 1 B W (.slice (some ⟨g, 0, none⟩) N cp) N (intCells bs)) (hX : Below W.heap.size W X) :
    g < X.heap.size ∧ ∀ k, k < N → X.cell? ⟨g, 0 + k, none⟩ = some (.int .i64 (bs.getD k 0)) := by
  obtain ⟨ad, cap, e, hh⟩ := hs
  obtain ⟨g', e2, hB, hr⟩ := hh.resolve_left h0
  cases e
  cases e2
  rw [Nat.mul_one] at hr
  exact ⟨Nat.lt_of_lt_of_le hr.lt hX.size, fun k hk => by rw [Nat.zero_add]; exact (hX.cell (p := ⟨g, k, none⟩) hr.lt).trans (hr.cell hk)⟩

end Go.Proofs.Ytebpgglegnljgaa

namespace Go.Proofs.Ytebpgglegnljgaa
open Go.RowKit

open Classical in

theorem ok_spec {ws S : List Int} {h : HpN} (ok : OkHeap ws S h) : specOk ws h = true := by
  unfold specOk
  rw [ok.spec]
  dsimp only
  rw [ok.objs, Bool.and_true]
  by_cases hb : h.scan < h.bottom
  · have := ok.scan hb
    rw [decide_eq_true hb, Bool.true_and]
    simpa using this
  · rw [decide_eq_false hb]
    rfl

end Go.Proofs.Ytebpgglegnljgaa

namespace Go.Proofs.Ytebpgglegnljgaa
open Go.RowKit

open Classical in
noncomputable def flipA (bs xs : List Int) (h : HpN) : Option (List Int × CN) :=
  if ∃ S, OkHeap bs S h ∧ h.scan = h.bottom ∧ xs.length ≤ 20 ∧ ∀ i, i < xs.length → wordOkZ S h (xs.getD i 0) = true then movesRun xs xs.length ⟨bs, flipH h, 0, 0⟩ else none

def mW : Option (List Int × CN) → List Int
  | none => []
  | some p => p.2.ws
def mH : Option (List Int × CN) → HpN
  | none => ⟨0, 0, 0, 0, 0, 0, 0, 0, 0⟩
  | some p => { p.2.h with touched := touchZ p.2 }
def mY : Option (List Int × CN) → List Int
  | none => []
  | some p => p.1

theorem roots_all {S xs : List Int} {h : HpN} (a : ∀ i, i < xs.length → wordOkZ S h (xs.getD i 0) = true) : implRoots S h xs = true := by
  unfold implRoots
  rw [List.all_eq_true]
  exact fun k hk => a k (List.mem_range.1 hk)

theorem roots_each {S xs : List Int} {h : HpN} (a : implRoots S h xs = true) : ∀ i, i < xs.length → wordOkZ S h (xs.getD i 0) = true := fun i hi => by
  unfold implRoots at a
  rw [List.all_eq_true] at a
  exact a i (List.mem_range.2 hi)

def ToldFC (W : World) (ans : List Int) (H : HpN) (ys : List Int) (ok : Bool) (e : Ending) (w' : World) : Prop :=
  (∃ ad cp u, e = .returned (.tuple #[heapV (.slice ad ans.length cp) H, u, .bool ok]) ∧ SliceR 3 1 W.heap.size w' (.slice ad ans.length cp) ans.length (intCells ans) ∧ SliceR 3 1 W.heap.size w' u ys.length (intCells ys) ∧ ans.length ≤ cp) ∧ Below W.heap.size W w'

theorem toldF_noneC {W w' : World} {e : Ending} (h : e = .returned (.tuple #[noHeap, .slice none 0 0, .bool false]) ∧ Below W.heap.size W w') : ToldFC W [] ⟨0, 0, 0, 0, 0, 0, 0, 0, 0⟩ [] false e w' :=
  ⟨⟨none, 0, _, h.1, ⟨none, 0, rfl, Or.inl rfl⟩, ⟨none, 0, rfl, Or.inl rfl⟩, Nat.le_refl _⟩, h.2⟩

theorem toldF_someC {N n : Nat} {W w' : World} {ys : List Int} {s : CN} {e : Ending} (hl : s.ws.length = N) (hn : ys.length = n) (h : FlipToldC N n W (some (ys, s)) e w') : ToldFC W s.ws { s.h with touched := touchZ s } ys true e w' := by
  obtain ⟨bw, cap, g, c, rfl, hr, hr2, hne, hlow, hlow2, hb, hc⟩ := h
  subst hl
  subst hn
  exact ⟨⟨some ⟨bw, 0, none⟩, cap, _, rfl, ⟨_, _, rfl, Or.inr ⟨bw, rfl, hlow, by rw [Nat.mul_one]; exact hr⟩⟩, ⟨some ⟨g, 0, none⟩, c, rfl, Or.inr ⟨g, rfl, hlow2, by rw [Nat.mul_one]; exact hr2⟩⟩, hc⟩, hb⟩

theorem flip_told (bs xs : List Int) (h : HpN) (ht : h.touched < 9223372036854775808) (hm : bs.length ≤ 1048576) (hx : xs.length ≤ 1048576) :
    (∀ B g cp B2 rg rc W, bs.length ≤ cp → SliceR 3 1 B W (.slice (some ⟨g, 0, none⟩) bs.length cp) bs.length (intCells bs) → SliceR 3 1 B2 W (.slice (some ⟨rg, 0, none⟩) xs.length rc) xs.length (intCells xs) → Calls Try.prog 18 #[heapV (.slice (some ⟨g, 0, none⟩) bs.length cp) h, .slice (some ⟨rg, 0, none⟩) xs.length rc] W (ToldF W (mW (flipA bs xs h)) (mH (flipA bs xs h)) (mY (flipA bs xs h)) (flipA bs xs h).isSome)) ∧
    (∀ B g cp B2 rg rc W, bs.length ≤ cp → SliceR 3 1 B W (.slice (some ⟨g, 0, none⟩) bs.length cp) bs.length (intCells bs) → SliceR 3 1 B2 W (.slice (some ⟨rg, 0, none⟩) xs.length rc) xs.length (intCells xs) → Calls Try.prog 17 #[heapV (.slice (some ⟨g, 0, none⟩) bs.length cp) h, .slice (some ⟨rg, 0, none⟩) xs.length rc] W (ToldFC W (mW (flipA bs xs h)) (mH (flipA bs xs h)) (mY (flipA bs xs h)) (flipA bs xs h).isSome)) := by
  by_cases ho : Ordered h bs.length
  case neg =>
    have eN : flipA bs xs h = none := by
      unfold flipA
      rw [if_neg]
      rintro ⟨S', ok', a1, a2, a3⟩
      first
      | exact ho ok'.ord
      | (rw [ok_spec ok'] at hk; cases hk; done)
      | exact hsc a1
      | exact hn a2
      | (obtain rfl : S' = S := Option.some.inj (ok'.spec.symm.trans ok.spec); rw [roots_all a3] at hro; cases hro; done)
    rw [eN]
    exact ⟨fun B g cp B2 rg rc W _ _ _ => (sFlip_notOk g 0 cp bs.length h rg xs.length rc W (fun X _ => specOk_bad _ _ _ h X hm ho)).mono (fun _ _ => toldF_none), fun B g cp B2 rg rc W _ _ _ => (iFlip_notOk g 0 cp bs.length h rg xs.length rc W (fun X _ => layOut_bad _ _ _ h X ho)).mono (fun _ _ => toldF_noneC)⟩
  obtain ⟨o1, o2, o3, o4, o5, o6, o7, o8, o9, o10, o11, o12, o13⟩ := id ho
  have hN0 : bs.length ≠ 0 := by omega
  have hN8 : bs.length ≤ 8000 := by omega
  have SOk : ∀ B g cp W, bs.length ≤ cp → SliceR 3 1 B W (.slice (some ⟨g, 0, none⟩) bs.length cp) bs.length (intCells bs) → ∀ X, Below W.heap.size W X → Calls Try.prog 35 #[heapV (.slice (some ⟨g, 0, none⟩) bs.length cp) h] X fun e w' => e = .returned (.bool (specOk bs h)) ∧ Below X.heap.size X w' := fun B g cp W hcp hs X hX =>
    specOk_calls g 0 cp bs.length bs h X rfl ho (row_atC hN0 hs hX).1 (row_atC hN0 hs hX).2
  have ILy : ∀ B g cp W, bs.length ≤ cp → SliceR 3 1 B W (.slice (some ⟨g, 0, none⟩) bs.length cp) bs.length (intCells bs) → ∀ X, Below W.heap.size W X → Calls Try.prog 30 #[heapV (.slice (some ⟨g, 0, none⟩) bs.length cp) h] X (LayTold g 0 cp bs.length bs h X) := fun B g cp W hcp hs X hX =>
    layOut_calls g 0 cp bs.length bs h X rfl ho hcp (row_atC hN0 hs hX).1 (row_atC hN0 hs hX).2
  cases hk : specOk bs h with
  | false =>
    have hki : implOk bs h = false := by rw [← ok_same ho]; exact hk
    rw [hk] at SOk
    have eN : flipA bs xs h = none := by
      unfold flipA
      rw [if_neg]
      rintro ⟨S', ok', a1, a2, a3⟩
      first
      | exact ho ok'.ord
      | (rw [ok_spec ok'] at hk; cases hk; done)
      | exact hsc a1
      | exact hn a2
      | (obtain rfl : S' = S := Option.some.inj (ok'.spec.symm.trans ok.spec); rw [roots_all a3] at hro; cases hro; done)
    rw [eN]
    refine ⟨fun B g cp B2 rg rc W hcp hs _ => (sFlip_notOk g 0 cp bs.length h rg xs.length rc W (SOk B g cp W hcp hs)).mono (fun _ _ => toldF_none), fun B g cp B2 rg rc W hcp hs _ => (iFlip_notOk g 0 cp bs.length h rg xs.length rc W (fun X hX => (ILy B g cp W hcp hs X hX).mono ?_)).mono (fun _ _ => toldF_noneC)⟩
    rintro e w' ⟨hres, hb'⟩
    rcases hres with ⟨_, e1⟩ | ⟨S, gb, _, e2, _⟩
    · exact ⟨e1, hb'⟩
    · rw [hki] at e2
      cases e2
  | true =>
    have hki : implOk bs h = true := by rw [← ok_same ho]; exact hk
    rw [hk] at SOk
    obtain ⟨S, ok⟩ := ok_facts ho hk
    have ILg : ∀ B g cp W, bs.length ≤ cp → SliceR 3 1 B W (.slice (some ⟨g, 0, none⟩) bs.length cp) bs.length (intCells bs) → ∀ X, Below W.heap.size W X → Calls Try.prog 30 #[heapV (.slice (some ⟨g, 0, none⟩) bs.length cp) h] X fun e w' => ∃ gb, e = .returned (.tuple #[layV (.slice (some ⟨g, 0, none⟩) bs.length cp) h (.slice (some ⟨gb, 0, none⟩) bs.length bs.length), .bool true]) ∧ Hid (ISt g 0 gb bs.length bs S w') ∧ Below X.heap.size X w' := fun B g cp W hcp hs X hX => (ILy B g cp W hcp hs X hX).mono (by
      rintro e w' ⟨hres, hb'⟩
      rcases hres with ⟨e1, _⟩ | ⟨S', gb, e1, _, e2, _, e3⟩
      · rw [hki] at e1
        cases e1
      · rw [ok.impl] at e1
        cases e1
        exact ⟨gb, e2, e3, hb'⟩)
    by_cases hsc : h.scan = h.bottom
    case neg =>
      have hne : (h.scan != h.bottom) = true := by simpa using hsc
      have eN : flipA bs xs h = none := by
        unfold flipA
        rw [if_neg]
        rintro ⟨S', ok', a1, a2, a3⟩
        first
        | exact ho ok'.ord
        | (rw [ok_spec ok'] at hk; cases hk; done)
        | exact hsc a1
        | exact hn a2
        | (obtain rfl : S' = S := Option.some.inj (ok'.spec.symm.trans ok.spec); rw [roots_all a3] at hro; cases hro; done)
      rw [eN]
      exact ⟨fun B g cp B2 rg rc W hcp hs _ => (sFlip_scan g 0 cp bs.length h rg xs.length rc W hne (SOk B g cp W hcp hs)).mono (fun _ _ => toldF_none), fun B g cp B2 rg rc W hcp hs _ => (iFlip_scan g 0 cp bs.length h rg xs.length rc W bs S hne hsc (ILg B g cp W hcp hs)).mono (fun _ _ => toldF_noneC)⟩
    have heq : (h.scan != h.bottom) = false := by simpa using hsc
    have IRt : ∀ g cp B2 rg rc W, SliceR 3 1 B2 W (.slice (some ⟨rg, 0, none⟩) xs.length rc) xs.length (intCells xs) → ∀ (X : World) (gb : Nat), Below W.heap.size W X → ISt g 0 gb bs.length bs S X → Calls Try.prog 31 #[layV (.slice (some ⟨g, 0, none⟩) bs.length cp) h (.slice (some ⟨gb, 0, none⟩) bs.length bs.length), .slice (some ⟨rg, 0, none⟩) xs.length rc] X fun e w' => e = .returned (.bool (decide (xs.length ≤ 20) && implRoots S h xs)) ∧ Below X.heap.size X w' := fun g cp B2 rg rc W hr X gb hX hI => rootsOk_calls (some ⟨rg, 0, none⟩) rc g 0 cp gb bs.length bs S h xs X ho hI (hr.below hX).intSlice hx
    by_cases hn : xs.length ≤ 20
    case neg =>
      rw [decide_eq_false hn, Bool.false_and] at IRt
      have eN : flipA bs xs h = none := by
        unfold flipA
        rw [if_neg]
        rintro ⟨S', ok', a1, a2, a3⟩
        first
        | exact ho ok'.ord
        | (rw [ok_spec ok'] at hk; cases hk; done)
        | exact hsc a1
        | exact hn a2
        | (obtain rfl : S' = S := Option.some.inj (ok'.spec.symm.trans ok.spec); rw [roots_all a3] at hro; cases hro; done)
      rw [eN]
      exact ⟨fun B g cp B2 rg rc W hcp hs _ => (sFlip_many g 0 cp bs.length h rg xs.length rc W heq (by omega) (SOk B g cp W hcp hs)).mono (fun _ _ => toldF_none), fun B g cp B2 rg rc W hcp hs hr => (iFlip_noRoot g 0 cp bs.length h rg xs.length rc W bs S heq (ILg B g cp W hcp hs) (IRt g cp B2 rg rc W hr)).mono (fun _ _ => toldF_noneC)⟩
    have hn2 : ¬ (20 : Int) < (xs.length : Int) := by omega
    rw [decide_eq_true hn, Bool.true_and] at IRt
    have SRt : ∀ B g cp B2 rg rc W, bs.length ≤ cp → SliceR 3 1 B W (.slice (some ⟨g, 0, none⟩) bs.length cp) bs.length (intCells bs) → SliceR 3 1 B2 W (.slice (some ⟨rg, 0, none⟩) xs.length rc) xs.length (intCells xs) → ∀ X, Below W.heap.size W X → Calls Try.prog 36 #[heapV (.slice (some ⟨g, 0, none⟩) bs.length cp) h, .slice (some ⟨rg, 0, none⟩) xs.length rc] X fun e w' => e = .returned (.bool (specRoots bs S h xs)) ∧ Below X.heap.size X w' := fun B g cp B2 rg rc W hcp hs hr X hX => specRoots_calls g 0 cp bs.length bs S h _ xs X rfl ho ok.spec (row_atC hN0 hs hX).1 (row_atC hN0 hs hX).2 (hr.below hX).intSlice hn
    have hsame : specRoots bs S h xs = implRoots S h xs := (roots_same ok xs).symm
    rw [hsame] at SRt
    cases hro : implRoots S h xs with
    | false =>
      rw [hro] at SRt IRt
      have eN : flipA bs xs h = none := by
        unfold flipA
        rw [if_neg]
        rintro ⟨S', ok', a1, a2, a3⟩
        first
        | exact ho ok'.ord
        | (rw [ok_spec ok'] at hk; cases hk; done)
        | exact hsc a1
        | exact hn a2
        | (obtain rfl : S' = S := Option.some.inj (ok'.spec.symm.trans ok.spec); rw [roots_all a3] at hro; cases hro; done)
      rw [eN]
      exact ⟨fun B g cp B2 rg rc W hcp hs hr => (sFlip_noRoot g 0 cp bs.length h rg xs.length rc W heq hn2 (SOk B g cp W hcp hs) (SRt B g cp B2 rg rc W hcp hs hr)).mono (fun _ _ => toldF_none), fun B g cp B2 rg rc W hcp hs hr => (iFlip_noRoot g 0 cp bs.length h rg xs.length rc W bs S heq (ILg B g cp W hcp hs) (IRt g cp B2 rg rc W hr)).mono (fun _ _ => toldF_noneC)⟩
    | true =>
      rw [hro] at SRt IRt
      have ha : ∀ i, i < xs.length → Aim S (flipH h) bs.length (xs.getD i 0) := fun i hi => by
        unfold implRoots at hro
        rw [List.all_eq_true] at hro
        exact used_aim ok (hro i (List.mem_range.2 hi))
      have hst : Mvs S bs.length 0 ⟨bs, flipH h, 0, 0⟩ := mvs_start ok rfl rfl rfl (fun a _ hS => ((heads_noted ok.noted).2 a hS).2.2) (by omega) (by omega) (by omega) (by omega)
      have hrun := movesRun_mvs hst ha xs.length (Nat.le_refl _)
      have SOp : ∀ B g cp W, bs.length ≤ cp → SliceR 3 1 B W (.slice (some ⟨g, 0, none⟩) bs.length cp) bs.length (intCells bs) → ∀ X, Below W.heap.size W X → Calls Try.prog 46 #[heapV (.slice (some ⟨g, 0, none⟩) bs.length cp) h] X fun e w' => ∃ bm bw cap' : Nat, e = .returned (.pointer (some ⟨bm, 0, none⟩)) ∧ Wk X bm bw bs.length cap' ⟨bs, h, 0, 0⟩ false w' ∧ X.heap.size ≤ bm ∧ X.heap.size ≤ bw := fun B g cp W hcp hs X hX => open_calls g 0 cp bs.length bs h X (by omega) rfl hN8 (row_atC hN0 hs hX).1 (row_atC hN0 hs hX).2 o6 ht
      have IOp : ∀ B g cp W, bs.length ≤ cp → SliceR 3 1 B W (.slice (some ⟨g, 0, none⟩) bs.length cp) bs.length (intCells bs) → ∀ X, Below W.heap.size W X → Calls Try.prog 42 #[heapV (.slice (some ⟨g, 0, none⟩) bs.length cp) h] X fun e w' => ∃ bc bw cap' : Nat, e = .returned (.pointer (some ⟨bc, 0, none⟩)) ∧ (ColAt X bc bw bs.length cap' ⟨bs, h, 0, 0⟩ w' ∧ bs.length ≤ cap') ∧ X.heap.size ≤ bc ∧ X.heap.size ≤ bw := fun B g cp W hcp hs X hX => collectorOf_cap g 0 cp bs.length bs h X (by omega) rfl hN8 (row_atC hN0 hs hX).1 (row_atC hN0 hs hX).2
      have SFl : ∀ (X w0 : World) (bm bw cap' g c : Nat), Wk w0 bm bw bs.length cap' ⟨bs, h, 0, 0⟩ false X → g ≠ bm → g ≠ bw → CellRow 3 X g xs.length (intCells xs) → Calls Try.prog 49 #[.pointer (some ⟨bm, 0, none⟩), .slice (some ⟨g, 0, none⟩) xs.length c] X (SMovesPost X bm bw bs.length cap' g xs.length (movesRun xs xs.length ⟨bs, flipH h, 0, 0⟩)) := fun X w0 bm bw cap' g c hX h1 h2 hr => sflip_calls hX (show 0 ≤ h.to by omega) (show h.to ≤ h.size by omega) o2 hst xs rfl hn h1 h2 hr ha
      have IFl : ∀ (X w0 : World) (bc bw cap' g c : Nat), ColAt w0 bc bw bs.length cap' ⟨bs, h, 0, 0⟩ X → g ≠ bc → g ≠ bw → CellRow 3 X g xs.length (intCells xs) → Calls Try.prog 48 #[.pointer (some ⟨bc, 0, none⟩), .slice (some ⟨g, 0, none⟩) xs.length c] X (MovesPost X bc bw bs.length cap' g xs.length (movesRun xs xs.length ⟨bs, flipH h, 0, 0⟩)) := fun X w0 bc bw cap' g c hX h1 h2 hr => change_calls ⟨bs, h, 0, 0⟩ hX (show 0 ≤ h.to by omega) (show h.to ≤ h.size by omega) o2 hst xs rfl hn h1 h2 hr ha
      have HCs : ∀ B2 rg rc W, SliceR 3 1 B2 W (.slice (some ⟨rg, 0, none⟩) xs.length rc) xs.length (intCells xs) → ∀ X, Below W.heap.size W X → ∀ k, k < xs.length → rg < X.heap.size ∧ X.cell? ⟨rg, 0 + k, none⟩ = some (.int .i64 (xs.getD k 0)) := fun B2 rg rc W hr X hX k hk => ⟨(row_atC (by omega) hr hX).1, (row_atC (by omega) hr hX).2 k hk⟩
      have sS := fun B g cp B2 rg rc W hcp hs hr => sFlip_good g 0 cp bs.length h rg xs.length rc W heq hn2 xs rfl (fun h0 => (HCs B2 rg rc W hr W (Below.refl _ _) 0 h0).1) (fun k hk => by have e := (HCs B2 rg rc W hr W (Below.refl _ _) k hk).2; rw [Nat.zero_add] at e; exact e) ⟨bs, h, 0, 0⟩ _ (SOk B g cp W hcp hs) (SRt B g cp B2 rg rc W hcp hs hr) (SOp B g cp W hcp hs) SFl
      have sI := fun B g cp B2 rg rc W hcp hs hr => iFlip_goodC g 0 cp bs.length h rg xs.length rc W bs S xs heq ⟨bs, h, 0, 0⟩ _ (ILg B g cp W hcp hs) (IRt g cp B2 rg rc W hr) (IOp B g cp W hcp hs) (fun X hX => clone_row rg xs.length rc xs X rfl hn (fun k hk => (HCs B2 rg rc W hr X hX k hk).2)) IFl (fun ys s1 X w0 bc bw cap' _ hX => by
        have e := told_calls hX
        rw [touch_same] at e
        exact e)
      cases hr : movesRun xs xs.length ⟨bs, flipH h, 0, 0⟩ with
      | none =>
        rw [hr] at sS sI
        have eN : flipA bs xs h = none := by
          unfold flipA
          rw [if_pos ⟨S, ok, hsc, hn, roots_each hro⟩]
          exact hr
        rw [eN]
        exact ⟨fun B g cp B2 rg rc W hcp hs hr => (sS B g cp B2 rg rc W hcp hs hr).mono (fun _ _ => toldF_none), fun B g cp B2 rg rc W hcp hs hr => (sI B g cp B2 rg rc W hcp hs hr).mono (fun _ _ => toldF_noneC)⟩
      | some p =>
        obtain ⟨ys, s1⟩ := p
        rw [hr] at sS sI
        obtain ⟨c1, hl, -⟩ := hrun ys s1 hr
        have hl1 := c1.len
        have eN : flipA bs xs h = some (ys, s1) := by
          unfold flipA
          rw [if_pos ⟨S, ok, hsc, hn, roots_each hro⟩]
          exact hr
        rw [eN]
        exact ⟨fun B g cp B2 rg rc W hcp hs hr => (sS B g cp B2 rg rc W hcp hs hr).mono (fun _ _ h => toldF_some hl1 hl h), fun B g cp B2 rg rc W hcp hs hr => (sI B g cp B2 rg rc W hcp hs hr).mono (fun _ _ h => toldF_someC hl1 hl h)⟩
end Go.Proofs.Ytebpgglegnljgaa

namespace Go.Proofs.Ytebpgglegnljgaa
open Go.RowKit

def HeapToldC (N : Nat) (w : World) (ws : List Int) (h1 : HpN) (e : Ending) (w' : World) : Prop :=
  ∃ bw cap' : Nat, e = .returned (.tuple #[heapV (.slice (some ⟨bw, 0, none⟩) N cap') h1, .bool true]) ∧ CellRow 3 w' bw N (intCells ws) ∧ w.heap.size ≤ bw ∧ Below w.heap.size w w' ∧ N ≤ cap'

def ScanToldC (N : Nat) (w : World) (o : Option CN) (e : Ending) (w' : World) : Prop :=
  match o with
  | some s => HeapToldC N w s.ws { s.h with touched := touchZ s } e w'
  | none => e = .returned (.tuple #[noHeap, .bool false]) ∧ Below w.heap.size w w'

def Told2C (W : World) (ans : List Int) (H : HpN) (ok : Bool) (e : Ending) (w' : World) : Prop :=
  (∃ ad cp, e = .returned (.tuple #[heapV (.slice ad ans.length cp) H, .bool ok]) ∧ SliceR 3 1 W.heap.size w' (.slice ad ans.length cp) ans.length (intCells ans) ∧ ans.length ≤ cp) ∧ Below W.heap.size W w'

theorem told2_noneC {W w' : World} {e : Ending} (h : e = .returned (.tuple #[noHeap, .bool false]) ∧ Below W.heap.size W w') : Told2C W [] ⟨0, 0, 0, 0, 0, 0, 0, 0, 0⟩ false e w' :=
  ⟨⟨none, 0, h.1, ⟨none, 0, rfl, Or.inl rfl⟩, Nat.le_refl _⟩, h.2⟩

theorem told2_someC {N : Nat} {W w' : World} {ws : List Int} {H : HpN} {e : Ending} (hl : ws.length = N) (h : HeapToldC N W ws H e w') : Told2C W ws H true e w' := by
  obtain ⟨bw, cap, rfl, hr, hlow, hb, hc⟩ := h
  subst hl
  exact ⟨⟨some ⟨bw, 0, none⟩, cap, rfl, ⟨_, _, rfl, Or.inr ⟨bw, rfl, hlow, by rw [Nat.mul_one]; exact hr⟩⟩, hc⟩, hb⟩

set_option maxHeartbeats 8000000 in
set_option maxRecDepth 100000 in
theorem sScan_goodC (b off cap N : Nat) (h : HpN) (x : Int) (w : World)
    (n : Nat) (hn : x = n) (hn4 : n ≤ 4000) (hd : decide (x < 0) = false) (hd2 : decide (4000 < x) = false) (s0 : CN)
    (HOk : Hid (∀ X, Below w.heap.size w X → Calls Try.prog 35 #[heapV (.slice (some ⟨b, off, none⟩) N cap) h] X fun e w' => e = .returned (.bool true) ∧ Below X.heap.size X w'))
    (HOp : Hid (∀ X, Below w.heap.size w X → Calls Try.prog 46 #[heapV (.slice (some ⟨b, off, none⟩) N cap) h] X fun e w' => ∃ bm bw cap' : Nat, e = .returned (.pointer (some ⟨bm, 0, none⟩)) ∧ (Wk X bm bw N cap' s0 false w' ∧ N ≤ cap') ∧ X.heap.size ≤ bm ∧ X.heap.size ≤ bw))
    (HSn : Hid (∀ (q : Nat) (s' : CN) (X w0 : World) (bm bw cap' : Nat), scanRun q s0 = some s' → Wk w0 bm bw N cap' s' false X → Calls Try.prog 56 #[.pointer (some ⟨bm, 0, none⟩)] X (ScanPost w0 bm bw N cap' (scanOne s')))) :
    Calls Try.prog 25 #[heapV (.slice (some ⟨b, off, none⟩) N cap) h, .int .i64 x] w (ScanToldC N w (scanRun n s0)) := by
  obtain ⟨R, hR⟩ : ∃ R, scanRun n s0 = R := ⟨_, rfl⟩
  rw [hR]
  have HR0 := hid hR
  have HN := hid hn
  have HN4 := hid hn4
  clear hR hn hn4
  obtain ⟨g1, g2, g3, g4, g5, g6, g7, g8, g9⟩ := h
  unfold heapV at *
  dsimp only at *
  obtain ⟨W0, hW0, hA, hR, k2⟩ := both_new w (.slice (some ⟨b, off, none⟩) N cap) ⟨g1, g2, g3, g4, g5, g6, g7, g8, g9⟩
  dsimp only at hW0
  have HW0 := hid hW0
  clear hW0
  go_enter Try.func25, Try.ntmps25
  go_wp2_with fail
  rw [HW0.out]
  have hlt := heap_lt hA
  obtain ⟨v0, v1, v2, v3, v4, v5, v6, v7, v8, v9⟩ := hA.later (B := W0.heap.size) hlt
  dsimp only at v0 v1 v2 v3 v4 v5 v6 v7 v8 v9
  have HA := hid hA
  have HR := hid hR
  have HK2 := hid k2
  clear hA hR k2 HW0
  have KB : Hid (∀ X : Later W0.heap.size W0, Below w.heap.size w X.w ∧ w.heap.size ≤ X.w.heap.size) := fun X => by
    have k := HK2.out.trans (X.h.mono HK2.out.size)
    exact ⟨k, k.size⟩
  clear v0 v1 v2 v3 v4 v5 v6 v7 v8 v9
  refine (HOk.out _ HK2.out).mono ?_
  rintro e W6 ⟨rfl, hb6⟩
  have HB6 := hid (HK2.out.trans (hb6.mono HK2.out.size))
  have HR6 := hid (HR.out.below hb6)
  have HA6 := hid (HA.out.below hb6)
  clear hb6
  obtain ⟨c0, c1, c2, c3, c4, c5, c6, c7, c8, c9⟩ := HA6.out.cells
  dsimp only at c0 c1 c2 c3 c4 c5 c6 c7 c8 c9
  go_wp2_with fail
  refine (HOp.out _ HB6.out).mono ?_
  rintro e W7 ⟨bm, bw, cap', rfl, ⟨hW7, hcpC⟩, hlo, hlo2⟩
  have HCpC := hid hcpC
  clear hcpC
  have HW7 := hid hW7
  have hlt6 := heap_lt HR6.out
  clear hW7 HOp HA6 c0 c1 c2 c3 c4 c5 c6 c7 c8 c9
  go_wp2_with fail
  go_loopw [7] (fun i wr => ∃ (ii : Int) (q : Nat), i = .int .i64 ii ∧ Hid (ii = (q : Int) ∧ q ≤ n) ∧ ((∃ s', Hid (scanRun q s0 = some s') ∧ Hid (Wk W6 bm bw N cap' s' false wr)) ∨ (Hid (scanRun q s0 = none) ∧ ∃ s', Hid (Wk W6 bm bw N cap' s' true wr)))) (fun i _ => n - (intOf i).toNat)
  case atStart => exact ⟨0, 0, rfl, ⟨rfl, by omega⟩, Or.inl ⟨_, rfl, HW7.out⟩⟩
  case round =>
    obtain ⟨ii, q, rfl, HQ, hcase⟩ := hrel
    clear HW7
    by_cases hlt : ii < x
    · have hqn : q < n := by have := HQ.out; have := HN.out; omega
      have hs : n - (intOf (.int .i64 (ii + 1))).toNat < n - (intOf (.int .i64 ii)).toNat := by have := HQ.out; simp only [intOf]; omega
      have hw : Hid (wrap64 (ii + 1) = ii + 1) := by have := HQ.out; have := HN4.out; show _ = _; unfold wrap64; omega
      rcases hcase with ⟨s', HK, HI⟩ | ⟨HK, s', HI⟩
      · have HSc := hid (HSn.out q s' wr W6 bm bw cap' HK.out HI.out)
        obtain ⟨o, ho⟩ : ∃ o, scanOne s' = o := ⟨_, rfl⟩
        rw [ho] at HSc
        have HNx : Hid (scanRun (q + 1) s0 = o) := by show _ = _; unfold scanRun; rw [HK.out]; exact ho
        clear ho HI
        go_wp2_with fail
        refine HSc.out.mono ?_
        rintro e W8 ⟨rfl, hC8⟩
        have HC8 := hid hC8
        clear hC8 HSc
        go_wp2_with fail
        try rw [hw.out]
        cases o with
        | some s2 => exact ⟨⟨ii + 1, q + 1, rfl, ⟨by have := HQ.out; push_cast; omega, by omega⟩, Or.inl ⟨s2, HNx.out, HC8.out⟩⟩, hs⟩
        | none => exact ⟨⟨ii + 1, q + 1, rfl, ⟨by have := HQ.out; push_cast; omega, by omega⟩, Or.inr ⟨HNx.out, HC8.out⟩⟩, hs⟩
      · have HSc := hid (sscan_full HI.out)
        have HNx : Hid (scanRun (q + 1) s0 = none) := scanRun_none HK.out 1
        clear HI
        go_wp2_with fail
        refine HSc.out.mono ?_
        rintro e W8 ⟨rfl, hC8⟩
        have HC8 := hid hC8
        clear hC8 HSc
        go_wp2_with fail
        try rw [hw.out]
        exact ⟨⟨ii + 1, q + 1, rfl, ⟨by have := HQ.out; push_cast; omega, by omega⟩, Or.inr ⟨HNx.out, s', HC8.out⟩⟩, hs⟩
    · have hqn : q = n := by have := HQ.out; have := HN.out; omega
      rcases hcase with ⟨s', HK, HI⟩ | ⟨HK, s', HI⟩
      · have HF : Hid (R = some s') := by have h := HK.out; rw [hqn, HR0.out] at h; exact h
        have HR8 := hid (HR6.out.below (HI.out.frame.below hlo hlo2))
        have HB8 := hid (HB6.out.trans ((HI.out.frame.below hlo hlo2).mono HB6.out.size))
        obtain ⟨d0, d1, d2, d3, d4, d5, d6, d7, d8, d9, d10⟩ := HI.out.blk.cells
        obtain ⟨tau, htau⟩ : ∃ tau, touchZ s' = tau := ⟨_, rfl⟩
        rw [htau] at d9
        have HTau := hid htau
        clear htau
        obtain ⟨c0, c1, c2, c3, c4, c5, c6, c7, c8, c9⟩ := HR8.out.cells
        dsimp only at c0 c1 c2 c3 c4 c5 c6 c7 c8 c9
        have z0 := frozen_of_heap HR8.out 0
        have z1 := frozen_of_heap HR8.out 1
        have z2 := frozen_of_heap HR8.out 2
        have z3 := frozen_of_heap HR8.out 3
        have z4 := frozen_of_heap HR8.out 4
        have z5 := frozen_of_heap HR8.out 5
        have z6 := frozen_of_heap HR8.out 6
        have z7 := frozen_of_heap HR8.out 7
        have z8 := frozen_of_heap HR8.out 8
        have z9 := frozen_of_heap HR8.out 9
        clear HR6 HB6
        go_wp2_with fail
        refine heap_use HR8.out (.slice (some ⟨bw, 0, none⟩) N cap') ⟨s'.h.size, s'.h.to, s'.h.bottom, s'.h.top, s'.h.scan, s'.h.fb, s'.h.ft, s'.h.flips, tau⟩ _ ?_
        intro W9 hL hb9 _ hoth
        obtain ⟨y0, y1, y2, y3, y4, y5, y6, y7, y8, y9⟩ := hL.cells
        dsimp only at y0 y1 y2 y3 y4 y5 y6 y7 y8 y9
        refine bodyPost_ret (v := .tuple #[heapV (.slice (some ⟨bw, 0, none⟩) N cap') ⟨s'.h.size, s'.h.to, s'.h.bottom, s'.h.top, s'.h.scan, s'.h.fb, s'.h.ft, s'.h.flips, tau⟩, .bool true]) (by simp [results, Try.results25, go_sem, y0, y1, y2, y3, y4, y5, y6, y7, y8, y9, heapV]) rfl ?_
        rw [HF.out]
        exact ⟨bw, cap', by rw [HTau.out], HI.out.row.of_block (hoth _ (by omega)), by have := HB8.out.size; omega, HB8.out.trans (hb9 _ (Nat.le_succ _)), HCpC.out⟩
      · have HF : Hid (R = none) := by have h := HK.out; rw [hqn, HR0.out] at h; exact h
        have HR8 := hid (HR6.out.below (HI.out.frame.below hlo hlo2))
        have HB8 := hid (HB6.out.trans ((HI.out.frame.below hlo hlo2).mono HB6.out.size))
        have d10 := HI.out.blk.cells.2.2.2.2.2.2.2.2.2.2
        obtain ⟨c0, c1, c2, c3, c4, c5, c6, c7, c8, c9⟩ := HR8.out.cells
        dsimp only at c0 c1 c2 c3 c4 c5 c6 c7 c8 c9
        have z0 := frozen_of_heap HR8.out 0
        have z1 := frozen_of_heap HR8.out 1
        have z2 := frozen_of_heap HR8.out 2
        have z3 := frozen_of_heap HR8.out 3
        have z4 := frozen_of_heap HR8.out 4
        have z5 := frozen_of_heap HR8.out 5
        have z6 := frozen_of_heap HR8.out 6
        have z7 := frozen_of_heap HR8.out 7
        have z8 := frozen_of_heap HR8.out 8
        have z9 := frozen_of_heap HR8.out 9
        clear HR6 HB6
        go_wp2_with fail
        refine heap_use HR8.out (.slice none 0 0) ⟨0, 0, 0, 0, 0, 0, 0, 0, 0⟩ _ ?_
        intro W9 hL hb9 _ _
        obtain ⟨y0, y1, y2, y3, y4, y5, y6, y7, y8, y9⟩ := hL.cells
        dsimp only at y0 y1 y2 y3 y4 y5 y6 y7 y8 y9
        refine bodyPost_ret (v := .tuple #[noHeap, .bool false]) (by simp [results, Try.results25, go_sem, y0, y1, y2, y3, y4, y5, y6, y7, y8, y9, noHeap, heapV]) rfl ?_
        rw [HF.out]
        exact ⟨rfl, HB8.out.trans (hb9 _ (Nat.le_succ _))⟩

set_option maxHeartbeats 8000000 in
set_option maxRecDepth 100000 in
theorem iScan_goodC (b off cap N : Nat) (h : HpN) (x : Int) (w : World)
    (hd : decide (x < 0) = false) (hd2 : decide (4000 < x) = false) (s0 : CN) (o : Option CN)
    (HOk : Hid (∀ X, Below w.heap.size w X → Calls Try.prog 15 #[heapV (.slice (some ⟨b, off, none⟩) N cap) h] X fun e w' => e = .returned (.bool true) ∧ Below X.heap.size X w'))
    (HOp : Hid (∀ X, Below w.heap.size w X → Calls Try.prog 42 #[heapV (.slice (some ⟨b, off, none⟩) N cap) h] X fun e w' => ∃ bc bw cap' : Nat, e = .returned (.pointer (some ⟨bc, 0, none⟩)) ∧ (ColAt X bc bw N cap' s0 w' ∧ N ≤ cap') ∧ X.heap.size ≤ bc ∧ X.heap.size ≤ bw))
    (HLk : Hid (∀ (X w0 : World) (bc bw cap' : Nat), ColAt w0 bc bw N cap' s0 X → Calls Try.prog 50 #[.pointer (some ⟨bc, 0, none⟩), .int .i64 x] X (LookPost w0 bc bw N cap' o)))
    (HTd : Hid (∀ (s1 : CN) (X w0 : World) (bc bw cap' : Nat), o = some s1 → ColAt w0 bc bw N cap' s1 X → Calls Try.prog 45 #[.pointer (some ⟨bc, 0, none⟩)] X fun e w' => e = .returned (heapV (.slice (some ⟨bw, 0, none⟩) N cap') { s1.h with touched := touchZ s1 }) ∧ Below X.heap.size X w')) :
    Calls Try.prog 19 #[heapV (.slice (some ⟨b, off, none⟩) N cap) h, .int .i64 x] w (ScanToldC N w o) := by
  obtain ⟨g1, g2, g3, g4, g5, g6, g7, g8, g9⟩ := h
  unfold heapV at *
  dsimp only at *
  obtain ⟨W0, hW0, hA, hR, k2⟩ := both_new w (.slice (some ⟨b, off, none⟩) N cap) ⟨g1, g2, g3, g4, g5, g6, g7, g8, g9⟩
  dsimp only at hW0
  have HW0 := hid hW0
  clear hW0
  go_enter Try.func19, Try.ntmps19
  go_wp2_with fail
  rw [HW0.out]
  have hlt := heap_lt hA
  obtain ⟨v0, v1, v2, v3, v4, v5, v6, v7, v8, v9⟩ := hA.later (B := W0.heap.size) hlt
  dsimp only at v0 v1 v2 v3 v4 v5 v6 v7 v8 v9
  have HA := hid hA
  have HR := hid hR
  have HK2 := hid k2
  clear hA hR k2 HW0
  have KB : Hid (∀ X : Later W0.heap.size W0, Below w.heap.size w X.w ∧ w.heap.size ≤ X.w.heap.size) := fun X => by
    have k := HK2.out.trans (X.h.mono HK2.out.size)
    exact ⟨k, k.size⟩
  clear v0 v1 v2 v3 v4 v5 v6 v7 v8 v9
  refine (HOk.out _ HK2.out).mono ?_
  rintro e W6 ⟨rfl, hb6⟩
  have HB6 := hid (HK2.out.trans (hb6.mono HK2.out.size))
  have HR6 := hid (HR.out.below hb6)
  have HA6 := hid (HA.out.below hb6)
  clear hb6
  obtain ⟨c0, c1, c2, c3, c4, c5, c6, c7, c8, c9⟩ := HA6.out.cells
  dsimp only at c0 c1 c2 c3 c4 c5 c6 c7 c8 c9
  go_wp2_with fail
  refine (HOp.out _ HB6.out).mono ?_
  rintro e W7 ⟨bc, bw, cap', rfl, ⟨hW7, hcpC⟩, hlo, hlo2⟩
  have HCpC := hid hcpC
  clear hcpC
  have HW7 := hid hW7
  have hlt6 := heap_lt HR6.out
  clear hW7 HOp HA6 c0 c1 c2 c3 c4 c5 c6 c7 c8 c9
  have HLk' := hid (HLk.out _ _ _ _ _ HW7.out)
  clear HLk HW7
  go_wp2_with fail
  cases o with
  | none =>
    refine HLk'.out.mono ?_
    rintro e W8 ⟨rfl, s1, hC8⟩
    have HB8 := hid (HB6.out.trans ((Col.frame hC8).below hlo hlo2 |>.mono HB6.out.size))
    have HR8 := hid (HR6.out.below ((Col.frame hC8).below hlo hlo2))
    clear hC8 HR6 HB6 HTd HLk'
    obtain ⟨c0, c1, c2, c3, c4, c5, c6, c7, c8, c9⟩ := HR8.out.cells
    dsimp only at c0 c1 c2 c3 c4 c5 c6 c7 c8 c9
    have z0 := frozen_of_heap HR8.out 0
    have z1 := frozen_of_heap HR8.out 1
    have z2 := frozen_of_heap HR8.out 2
    have z3 := frozen_of_heap HR8.out 3
    have z4 := frozen_of_heap HR8.out 4
    have z5 := frozen_of_heap HR8.out 5
    have z6 := frozen_of_heap HR8.out 6
    have z7 := frozen_of_heap HR8.out 7
    have z8 := frozen_of_heap HR8.out 8
    have z9 := frozen_of_heap HR8.out 9
    go_wp2_with fail
    refine heap_use HR8.out (.slice none 0 0) ⟨0, 0, 0, 0, 0, 0, 0, 0, 0⟩ _ ?_
    intro W7 hL hb7 _ _
    obtain ⟨y0, y1, y2, y3, y4, y5, y6, y7, y8, y9⟩ := hL.cells
    dsimp only at y0 y1 y2 y3 y4 y5 y6 y7 y8 y9
    exact bodyPost_ret (v := .tuple #[noHeap, .bool false]) (by simp [results, Try.results19, go_sem, y0, y1, y2, y3, y4, y5, y6, y7, y8, y9, noHeap, heapV]) rfl ⟨rfl, HB8.out.trans (hb7 _ (Nat.le_succ _))⟩
  | some s1 =>
    refine HLk'.out.mono ?_
    rintro e W8 ⟨rfl, hC8⟩
    have HW8 := hid hC8
    have HTd' := hid (HTd.out s1 W8 W6 bc bw cap' rfl HW8.out)
    clear hC8 HLk' HTd
    obtain ⟨i9, hi9⟩ : ∃ i9, touchZ s1 = i9 := ⟨_, rfl⟩
    have HI9 := hid hi9
    rw [hi9] at HTd'
    clear hi9
    go_wp2_with fail
    refine HTd'.out.mono ?_
    rintro e W9 ⟨rfl, hb9⟩
    have HW9 := hid (Col.keep HW8.out hb9)
    have HR9 := hid (HR6.out.below (HW9.out.frame.below hlo hlo2))
    have HB9 := hid (HB6.out.trans ((HW9.out.frame.below hlo hlo2).mono HB6.out.size))
    obtain ⟨c0, c1, c2, c3, c4, c5, c6, c7, c8, c9⟩ := HR9.out.cells
    dsimp only at c0 c1 c2 c3 c4 c5 c6 c7 c8 c9
    have z0 := frozen_of_heap HR9.out 0
    have z1 := frozen_of_heap HR9.out 1
    have z2 := frozen_of_heap HR9.out 2
    have z3 := frozen_of_heap HR9.out 3
    have z4 := frozen_of_heap HR9.out 4
    have z5 := frozen_of_heap HR9.out 5
    have z6 := frozen_of_heap HR9.out 6
    have z7 := frozen_of_heap HR9.out 7
    have z8 := frozen_of_heap HR9.out 8
    have z9 := frozen_of_heap HR9.out 9
    clear hb9 HTd' HW8 HR6 HB6
    go_wp2_with fail
    refine heap_use HR9.out (.slice (some ⟨bw, 0, none⟩) N cap') ⟨s1.h.size, s1.h.to, s1.h.bottom, s1.h.top, s1.h.scan, s1.h.fb, s1.h.ft, s1.h.flips, i9⟩ _ ?_
    intro W10 hL hb10 _ hoth
    obtain ⟨y0, y1, y2, y3, y4, y5, y6, y7, y8, y9⟩ := hL.cells
    dsimp only at y0 y1 y2 y3 y4 y5 y6 y7 y8 y9
    refine bodyPost_ret (v := .tuple #[heapV (.slice (some ⟨bw, 0, none⟩) N cap') ⟨s1.h.size, s1.h.to, s1.h.bottom, s1.h.top, s1.h.scan, s1.h.fb, s1.h.ft, s1.h.flips, i9⟩, .bool true]) (by simp [results, Try.results19, go_sem, y0, y1, y2, y3, y4, y5, y6, y7, y8, y9, heapV]) rfl ?_
    exact ⟨bw, cap', by rw [HI9.out], HW9.out.row.of_block (hoth _ (by omega)), by have := HB9.out.size; omega, HB9.out.trans (hb10 _ (Nat.le_succ _)), HCpC.out⟩

theorem scan_toldC (bs : List Int) (h : HpN) (ht : h.touched < 9223372036854775808) (hm : bs.length ≤ 1048576) (x : Int) :
    (∀ B g cp W, bs.length ≤ cp → SliceR 3 1 B W (.slice (some ⟨g, 0, none⟩) bs.length cp) bs.length (intCells bs) → Calls Try.prog 25 #[heapV (.slice (some ⟨g, 0, none⟩) bs.length cp) h, .int .i64 x] W (Told2C W (ansW (scanA bs h x)) (ansH (scanA bs h x)) (scanA bs h x).isSome)) ∧
    (∀ B g cp W, bs.length ≤ cp → SliceR 3 1 B W (.slice (some ⟨g, 0, none⟩) bs.length cp) bs.length (intCells bs) → Calls Try.prog 19 #[heapV (.slice (some ⟨g, 0, none⟩) bs.length cp) h, .int .i64 x] W (Told2C W (ansW (scanA bs h x)) (ansH (scanA bs h x)) (scanA bs h x).isSome)) := by
  have IOk : ∀ B g cp W, bs.length ≤ cp → SliceR 3 1 B W (.slice (some ⟨g, 0, none⟩) bs.length cp) bs.length (intCells bs) → ∀ X, Below W.heap.size W X → Calls Try.prog 15 #[heapV (.slice (some ⟨g, 0, none⟩) bs.length cp) h] X fun e w' => e = .returned (.bool (if Ordered h bs.length then implOk bs h else false)) ∧ Below X.heap.size X w' := fun B g cp W hcp hs X hX => by
    refine iOk_calls (fun w hb => ?_)
    have hXw := hX.trans (hb.mono hX.size)
    by_cases ho : Ordered h bs.length
    · rw [if_pos ho]
      have h0 : bs.length ≠ 0 := by obtain ⟨o1, o2, o3, _⟩ := ho; omega
      refine (layOut_calls g 0 cp bs.length bs h w rfl ho hcp (row_atC h0 hs hXw).1 (row_atC h0 hs hXw).2).mono ?_
      rintro e w' ⟨hres, hb'⟩
      refine ⟨?_, hb'⟩
      rcases hres with ⟨e1, rfl⟩ | ⟨S, gb, _, e1, rfl, _⟩
      · rw [e1]
        exact ⟨_, _, _, _, _, _, _, rfl⟩
      · rw [e1]
        exact ⟨_, _, _, _, _, _, _, rfl⟩
    · rw [if_neg ho]
      refine (layOut_bad _ _ _ h w ho).mono ?_
      rintro e w' ⟨rfl, hb'⟩
      exact ⟨⟨_, _, _, _, _, _, _, rfl⟩, hb'⟩
  have SOk : ∀ B g cp W, bs.length ≤ cp → SliceR 3 1 B W (.slice (some ⟨g, 0, none⟩) bs.length cp) bs.length (intCells bs) → ∀ X, Below W.heap.size W X → Calls Try.prog 35 #[heapV (.slice (some ⟨g, 0, none⟩) bs.length cp) h] X fun e w' => e = .returned (.bool (if Ordered h bs.length then implOk bs h else false)) ∧ Below X.heap.size X w' := fun B g cp W hcp hs X hX => by
    by_cases ho : Ordered h bs.length
    · rw [if_pos ho, ← ok_same ho]
      have h0 : bs.length ≠ 0 := by obtain ⟨o1, o2, o3, _⟩ := ho; omega
      exact specOk_calls g 0 cp bs.length bs h X rfl ho (row_atC h0 hs hX).1 (row_atC h0 hs hX).2
    · rw [if_neg ho]
      exact specOk_bad _ _ _ h X hm ho
  by_cases hx0 : x < 0
  · cases hk : (if Ordered h bs.length then implOk bs h else false) with
    | false =>
      rw [hk] at SOk
      have eN : scanA bs h x = none := by
        unfold scanA
        rw [if_neg]
        rintro ⟨a1, a2, a3, a4⟩
        first
        | omega
        | (rw [if_pos a3, ← ok_same a3, a4] at hk; cases hk)
      rw [eN]
      exact ⟨fun B g cp W hcp hs => (sScan_notOk g 0 cp bs.length h x W (SOk B g cp W hcp hs)).mono (fun _ _ => told2_noneC), fun B g cp W hcp hs => (iScan_below g 0 cp bs.length h x W hx0).mono (fun _ _ => told2_noneC)⟩
    | true =>
      rw [hk] at SOk
      have eN : scanA bs h x = none := by
        unfold scanA
        rw [if_neg]
        rintro ⟨a1, a2, a3, a4⟩
        first
        | omega
        | (rw [if_pos a3, ← ok_same a3, a4] at hk; cases hk)
      rw [eN]
      exact ⟨fun B g cp W hcp hs => (sScan_below g 0 cp bs.length h x W hx0 (SOk B g cp W hcp hs)).mono (fun _ _ => told2_noneC), fun B g cp W hcp hs => (iScan_below g 0 cp bs.length h x W hx0).mono (fun _ _ => told2_noneC)⟩
  have hd : decide (x < 0) = false := decide_eq_false hx0
  by_cases hx4 : 4000 < x
  · cases hk : (if Ordered h bs.length then implOk bs h else false) with
    | false =>
      rw [hk] at SOk
      have eN : scanA bs h x = none := by
        unfold scanA
        rw [if_neg]
        rintro ⟨a1, a2, a3, a4⟩
        first
        | omega
        | (rw [if_pos a3, ← ok_same a3, a4] at hk; cases hk)
      rw [eN]
      exact ⟨fun B g cp W hcp hs => (sScan_notOk g 0 cp bs.length h x W (SOk B g cp W hcp hs)).mono (fun _ _ => told2_noneC), fun B g cp W hcp hs => (iScan_above g 0 cp bs.length h x W hx4 hd).mono (fun _ _ => told2_noneC)⟩
    | true =>
      rw [hk] at SOk
      have eN : scanA bs h x = none := by
        unfold scanA
        rw [if_neg]
        rintro ⟨a1, a2, a3, a4⟩
        first
        | omega
        | (rw [if_pos a3, ← ok_same a3, a4] at hk; cases hk)
      rw [eN]
      exact ⟨fun B g cp W hcp hs => (sScan_above g 0 cp bs.length h x W hx4 hd (SOk B g cp W hcp hs)).mono (fun _ _ => told2_noneC), fun B g cp W hcp hs => (iScan_above g 0 cp bs.length h x W hx4 hd).mono (fun _ _ => told2_noneC)⟩
  have hd2 : decide (4000 < x) = false := decide_eq_false hx4
  cases hk : (if Ordered h bs.length then implOk bs h else false) with
  | false =>
    rw [hk] at SOk IOk
    have eN : scanA bs h x = none := by
      unfold scanA
      rw [if_neg]
      rintro ⟨a1, a2, a3, a4⟩
      first
      | omega
      | (rw [if_pos a3, ← ok_same a3, a4] at hk; cases hk)
    rw [eN]
    exact ⟨fun B g cp W hcp hs => (sScan_notOk g 0 cp bs.length h x W (SOk B g cp W hcp hs)).mono (fun _ _ => told2_noneC), fun B g cp W hcp hs => (iScan_notOk g 0 cp bs.length h x W hd hd2 (IOk B g cp W hcp hs)).mono (fun _ _ => told2_noneC)⟩
  | true =>
    rw [hk] at SOk IOk
    have ho : Ordered h bs.length := by
      by_cases ho : Ordered h bs.length
      · exact ho
      · rw [if_neg ho] at hk
        cases hk
    rw [if_pos ho] at hk
    obtain ⟨S, ok⟩ := ok_facts ho (by rw [ok_same ho]; exact hk)
    have hstart := scn_start ok
    obtain ⟨o1, o2, o3, o4, o5, o6, o7, o8, o9, o10, o11, o12, o13⟩ := id ho
    have hN0 : bs.length ≠ 0 := by omega
    have hN8 : bs.length ≤ 8000 := by omega
    obtain ⟨n, hn⟩ := Int.eq_ofNat_of_zero_le (show 0 ≤ x by omega)
    have SOp : ∀ B g cp W, bs.length ≤ cp → SliceR 3 1 B W (.slice (some ⟨g, 0, none⟩) bs.length cp) bs.length (intCells bs) → ∀ X, Below W.heap.size W X → Calls Try.prog 46 #[heapV (.slice (some ⟨g, 0, none⟩) bs.length cp) h] X fun e w' => ∃ bm bw cap' : Nat, e = .returned (.pointer (some ⟨bm, 0, none⟩)) ∧ (Wk X bm bw bs.length cap' ⟨bs, h, 0, 0⟩ false w' ∧ bs.length ≤ cap') ∧ X.heap.size ≤ bm ∧ X.heap.size ≤ bw := fun B g cp W hcp hs X hX => open_cap g 0 cp bs.length bs h X (by omega) rfl hN8 (row_atC hN0 hs hX).1 (row_atC hN0 hs hX).2 o6 ht
    have IOp : ∀ B g cp W, bs.length ≤ cp → SliceR 3 1 B W (.slice (some ⟨g, 0, none⟩) bs.length cp) bs.length (intCells bs) → ∀ X, Below W.heap.size W X → Calls Try.prog 42 #[heapV (.slice (some ⟨g, 0, none⟩) bs.length cp) h] X fun e w' => ∃ bc bw cap' : Nat, e = .returned (.pointer (some ⟨bc, 0, none⟩)) ∧ (ColAt X bc bw bs.length cap' ⟨bs, h, 0, 0⟩ w' ∧ bs.length ≤ cap') ∧ X.heap.size ≤ bc ∧ X.heap.size ≤ bw := fun B g cp W hcp hs X hX => collectorOf_cap g 0 cp bs.length bs h X (by omega) rfl hN8 (row_atC hN0 hs hX).1 (row_atC hN0 hs hX).2
    have sS := fun B g cp W hcp hs => sScan_goodC g 0 cp bs.length h x W n hn (by omega) hd hd2 ⟨bs, h, 0, 0⟩ (SOk B g cp W hcp hs) (SOp B g cp W hcp hs) (fun q s' X w0 bm bw cap' hq hX => sscan_calls hX (scanRun_scn hstart q s' hq))
    have sI := fun B g cp W hcp hs => iScan_goodC g 0 cp bs.length h x W hd hd2 ⟨bs, h, 0, 0⟩ (scanRun n ⟨bs, h, 0, 0⟩) (IOk B g cp W hcp hs) (IOp B g cp W hcp hs) (fun X w0 bc bw cap' hX => by rw [hn]; exact look_calls ⟨bs, h, 0, 0⟩ hX hstart n (by omega)) (fun s1 X w0 bc bw cap' _ hX => by
      have e := told_calls hX
      rw [told_same] at e
      exact e)
    cases hr : scanRun n ⟨bs, h, 0, 0⟩ with
    | none =>
      rw [hr] at sS sI
      have eN : scanA bs h x = none := by
        unfold scanA
        rw [if_pos ⟨by omega, by omega, ho, by rw [ok_same ho]; exact hk⟩, hn, Int.toNat_natCast]
        exact hr
      rw [eN]
      exact ⟨fun B g cp W hcp hs => (sS B g cp W hcp hs).mono (fun _ _ => told2_noneC), fun B g cp W hcp hs => (sI B g cp W hcp hs).mono (fun _ _ => told2_noneC)⟩
    | some s1 =>
      rw [hr] at sS sI
      have hl := (scanRun_scn hstart n s1 hr).len
      have eN : scanA bs h x = some s1 := by
        unfold scanA
        rw [if_pos ⟨by omega, by omega, ho, by rw [ok_same ho]; exact hk⟩, hn, Int.toNat_natCast]
        exact hr
      rw [eN]
      exact ⟨fun B g cp W hcp hs => (sS B g cp W hcp hs).mono (fun _ _ h => told2_someC hl h), fun B g cp W hcp hs => (sI B g cp W hcp hs).mono (fun _ _ h => told2_someC hl h)⟩
end Go.Proofs.Ytebpgglegnljgaa

namespace Go.Proofs.Ytebpgglegnljgaa
open Go.RowKit

theorem count_all {T S0 ws xs : List Int} {h : HpN} {s : CN} (c : Fr T S0 s) (ews : s.ws = ws) (eh : h = { s.h with touched := h.touched }) (ht : 0 ≤ h.touched) (hb : h.scan = h.bottom) (w : Why (fun b => ∃ j, j < xs.length ∧ xs.getD j 0 = 8 * (b : Int)) S0 ws h)
    (hx : ∀ i, i < xs.length → Led S0 h ws.length False (xs.getD i 0)) {K : Nat} (hK : Ends ws xs K) :
    sumS (fun i => 1 + ((fieldsOf (graphRun ws K (tellsRun ws xs xs.length []).1).2 i).length : Int)) K = h.bottom - h.to := by
  have d0 : Dyn True S0 ws h := by
    rw [eh, ← ews]
    exact c.d.touch ht
  have htop : h.top = h.to + h.size := by
    rw [eh]
    exact c.top
  obtain ⟨S, d, hl, hin⟩ := dyn_norm d0
  have ok := ok_of_dyn d
  obtain ⟨o1, o2, o3, o4, o5, o6, o7, o8, o9, o10, o11, o12, o13⟩ := id d.ord
  have hno : ¬ h.scan < h.bottom := by omega
  have inn : ∀ a : Nat, S.getD a 0 ≠ 0 → h.to ≤ (a : Int) ∧ (a : Int) + S.getD a 0 ≤ h.bottom ∧ InS h a := fun a ha => by
    have k := d.ends a ha
    have k3 := d.three ha
    unfold Within at k
    have : h.to ≤ (a : Int) ∧ (a : Int) + S.getD a 0 ≤ h.bottom := by
      rcases k with k | k | k
      · exact k
      · omega
      · exact absurd k.1 hno
    exact ⟨this.1, this.2, by unfold InS; omega⟩
  have hle : ∀ i, i < xs.length → Leads ws S (xs.getD i 0) := fun i hi hm => by
    have := (hl _ _ (hx i hi)).2 hm
    exact ⟨this.1, this.2.1, this.2.2.1⟩
  have mt := (Met.tells ok (met := []) ⟨List.nodup_nil, fun a ha => by cases ha⟩ hle xs.length (Nat.le_refl _)).1
  have mg := (mt.graph ok K hK.1).1
  have lenK : (graphRun ws K (tellsRun ws xs xs.length []).1).1.length = K := by
    have h1 := hK.2
    by_cases e : K = 0
    · omega
    · have h2 := hK.1 (K - 1) (by omega)
      obtain ⟨r, h3⟩ := graph_pre ws (tellsRun ws xs xs.length []).1 (K - 1) 1
      rw [show K - 1 + 1 = K by omega] at h3
      rw [h3, List.length_append] at h1 ⊢
      omega
  have get : ∀ j, j < K → (graphRun ws K (tellsRun ws xs xs.length []).1).1.getD j 0 = (graphRun ws j (tellsRun ws xs xs.length []).1).1.getD j 0 := fun j hj => graph_get hj (hK.1 j hj)
  rw [(graph_words K).2]
  -- every object is met
  have met : ∀ n : Nat, ∀ b : Nat, b < n → S.getD b 0 ≠ 0 → b ∈ (graphRun ws K (tellsRun ws xs xs.length []).1).1 := by
    intro n
    induction n with
    | zero => intro b hb; omega
    | succ n ih =>
      intro b hbn hS
      obtain ⟨i1, i2, i3⟩ := inn b hS
      have hu := d.unm b hS i3
      have now : nowZ ws b = b := by unfold nowZ; rw [if_neg hu]
      have hw := w b (by rw [← hin b i3]; exact hS) i3
      rcases hw with ⟨j, j1, j2⟩ | ⟨p, i, p1, p2, p3, p4, p5, p6⟩
      · obtain ⟨r, e⟩ := graph_pre ws (tellsRun ws xs xs.length []).1 0 K
        rw [Nat.zero_add] at e
        rw [e]
        refine List.mem_append.2 (Or.inl ?_)
        have := tells_mem (ws := ws) (xs := xs) (met := []) (j := j) (by omega) xs.length j1
        rw [j2, show (8 * (b : Int) / 8).toNat = b by omega, now] at this
        exact this
      · have hp := hin p p3
        have hm := ih p (by omega) (by rw [hp]; exact p2)
        obtain ⟨j, hj, ej⟩ := List.getElem_of_mem hm
        have hjK : j < K := by omega
        have eg : (graphRun ws j (tellsRun ws xs xs.length []).1).1.getD j 0 = p := by
          rw [← get j hjK]
          simp [List.getD, hj, ej]
        have hh := d.head (a := p) (by rw [hp]; exact p2)
        have h3 := d.three (a := p) (by rw [hp]; exact p2)
        have fld := graph_field (ws := ws) (met := (tellsRun ws xs xs.length []).1) (j := j) (K := K) (i := i - 1) hjK (by rw [eg, hh, hp]; omega) (by rw [eg, show p + 1 + (i - 1) = p + i by omega, p6]; omega)
        rw [eg, show p + 1 + (i - 1) = p + i by omega, p6, show (8 * (b : Int) / 8).toNat = b by omega, now] at fld
        exact fld
  have e1 : sumS (fun i => 1 + (((ws.getD ((graphRun ws i (tellsRun ws xs xs.length []).1).1.getD i 0) 0 / 16).toNat - 1 : Nat) : Int)) K = sumS (fun i => S.getD ((graphRun ws K (tellsRun ws xs xs.length []).1).1.getD i 0) 0) K := by
    refine sum_congr K (fun i hi => ?_)
    rw [← get i hi]
    have hm := getD_mem (l := (graphRun ws K (tellsRun ws xs xs.length []).1).1) (k := i) (by omega)
    have nd := mg.nodes _ hm
    have hh := d.head nd.here
    have h3 := d.three nd.here
    rw [hh]
    omega
  have e2 := sum_list (f := fun a => S.getD a 0) (N := ws.length) (graphRun ws K (tellsRun ws xs xs.length []).1).1 mg.once (fun a ha => (ok.noted.2 a (mg.nodes a ha).here).1)
  rw [lenK] at e2
  rw [e1, e2]
  have e3 : sumS (fun a => if a ∈ (graphRun ws K (tellsRun ws xs xs.length []).1).1 then S.getD a 0 else 0) ws.length = sumS (fun a => S.getD a 0) ws.length := by
    refine sum_congr _ (fun a _ => ?_)
    by_cases hm : a ∈ (graphRun ws K (tellsRun ws xs xs.length []).1).1
    · rw [if_pos hm]
    · rw [if_neg hm]
      by_cases e : S.getD a 0 = 0
      · exact e.symm
      · exact absurd (met (a + 1) a (by omega) e) hm
  rw [e3]
  have r1 := sum_row d.apart d.rowA
  have z : sumS (fun a => S.getD a 0) h.to.toNat = 0 := sum_zero _ (fun i hi => by
    by_cases e : S.getD i 0 = 0
    · exact e
    · have := inn i e
      omega)
  have tail : ∀ m : Nat, sumS (fun a => S.getD a 0) (h.bottom.toNat + m) = sumS (fun a => S.getD a 0) h.bottom.toNat := by
    intro m
    induction m with
    | zero => rfl
    | succ m ih =>
      rw [show sumS (fun a => S.getD a 0) (h.bottom.toNat + (m + 1)) = sumS (fun a => S.getD a 0) (h.bottom.toNat + m) + S.getD (h.bottom.toNat + m) 0 from rfl, ih]
      by_cases e : S.getD (h.bottom.toNat + m) 0 = 0
      · omega
      · have := inn _ e
        have := d.three e
        omega
  have t := tail (ws.length - h.bottom.toNat)
  rw [show h.bottom.toNat + (ws.length - h.bottom.toNat) = ws.length by omega] at t
  rw [t, r1, z]
  omega

structure Freed (bs xs : List Int) (h : HpN) (ys : List Int) (s1 s2 : CN) (S1 S2 : List Int) : Prop where
  flip : flipA bs xs h = some (ys, s1)
  ylen : ys.length = xs.length
  len1 : s1.ws.length = bs.length
  ok1 : OkHeap s1.ws S1 { s1.h with touched := touchZ s1 }
  scan : scanA s1.ws { s1.h with touched := touchZ s1 } 4000 = some s2
  len2 : s2.ws.length = bs.length
  ok2 : OkHeap s2.ws S2 { s2.h with touched := touchZ s2 }
  roots : ∀ i, i < ys.length → wordOkZ S2 { s2.h with touched := touchZ s2 } (ys.getD i 0) = true
  done : s2.h.scan = s2.h.bottom
  flips : s2.h.flips = h.flips + 1
  words : ∀ K, Ends s2.ws ys K → sumS (fun i => 1 + ((fieldsOf (graphRun s2.ws K (tellsRun s2.ws ys ys.length []).1).2 i).length : Int)) K = s2.h.bottom - s2.h.to

theorem freed_of {bs xs S : List Int} {h : HpN} (ok : OkHeap bs S h) (hx : ∀ i, i < xs.length → wordOkZ S h (xs.getD i 0) = true) (hn : xs.length ≤ 20) (hb : h.scan = h.bottom) (hf : h.flips < 4000000000) (ht : ∀ ys s, movesRun xs xs.length ⟨bs, flipH h, 0, 0⟩ = some (ys, s) → 0 ≤ touchZ s)
    (ht2 : ∀ s s' : CN, scanRun 4000 ⟨s.ws, { s.h with touched := touchZ s }, 0, 0⟩ = some s' → (∃ ys, movesRun xs xs.length ⟨bs, flipH h, 0, 0⟩ = some (ys, s)) → 0 ≤ touchZ s') : ∃ ys s1 s2 S1 S2, Freed bs xs h ys s1 s2 S1 S2 := by
  have d := dyn_of_ok ok
  obtain ⟨c0, w0⟩ := fr_start d (by omega) hf 0 0
  obtain ⟨ys, s1, S1', f1, hm, m⟩ := fr_moves (xs := xs) c0 w0 (fun i hi => ((used_iff ok _).1 (hx i hi)).drop.pts) xs.length (Nat.le_refl _)
  have t1 := ht ys s1 hm
  obtain ⟨S1, st1, fl1⟩ := keep_flip ok hx hb hf hm t1
  have hl1 := m.told.step.len
  dsimp only at hl1
  have c1 : Fr (dropS S h) S1' ⟨s1.ws, { s1.h with touched := touchZ s1 }, 0, 0⟩ := ⟨m.fr.d.touch t1, m.fr.top, m.fr.old, m.fr.all, m.fr.room⟩
  obtain ⟨s2, S2', f2, hs, t2, c2, w2, hd⟩ := fr_all c1 (R := fun b => ∃ j, j < xs.length ∧ ys.getD j 0 = 8 * (b : Int)) m.why
  have tz2 := ht2 s1 s2 hs ⟨ys, hm⟩
  obtain ⟨S2, st2⟩ := keep_scan st1.ok st1.roots hs tz2
  have hl2 := t2.len
  dsimp only at hl2
  refine ⟨ys, s1, s2, S1, S2, ⟨?_, m.told.len, hl1, st1.ok, ?_, hl2.trans hl1, st2.ok, st2.roots, hd, ?_, fun K hK => ?_⟩⟩
  · unfold flipA
    rw [if_pos ⟨S, ok, hb, hn, hx⟩]
    exact hm
  · unfold scanA
    rw [if_pos ⟨by omega, by omega, st1.ok.ord, ok_spec st1.ok⟩]
    exact hs
  · rw [t2.num]
    exact fl1
  · refine count_all (h := { s2.h with touched := touchZ s2 }) c2 rfl rfl tz2 hd (by rw [m.told.len]; exact w2) (fun i hi => ?_) hK
    have hle := m.told.done i (by rw [← m.told.len]; exact hi)
    have h1 := hle.1
    dsimp only at h1
    rw [hl2, hl1]
    have h2 := t2.led (N := bs.length) (x := ys.getD i 0) (o := False) h1
    exact h2

end Go.Proofs.Ytebpgglegnljgaa

namespace Go.Proofs.Ytebpgglegnljgaa
open Go.RowKit

theorem field_cnt {S : List Int} {s s' : CN} {p i : Nat} {y : Int} (d : Dyn True S s.ws s.h) (hp : S.getD p 0 ≠ 0) (hi : InS s.h p) (h1 : 1 ≤ i) (h2 : (i : Int) < S.getD p 0) (he : fieldZ s (p + i) = (some y, s')) : s'.r + s'.t ≤ s.r + s.t + 16 ∧ s.r + s.t ≤ s'.r + s'.t := by
  have pq := (d.flds p hp (d.unm p hp hi) i h1 h2).pts
  obtain ⟨o1, o2, o3, o4, -⟩ := id d.ord
  unfold fieldZ at he
  cases hl : lateZ s.h (s.ws.getD (p + i) 0) with
  | false =>
    rw [if_pos hl] at he
    cases he
    dsimp only
    omega
  | true =>
    rw [if_neg (by rw [hl]; decide)] at he
    obtain ⟨hx, hx0, hold⟩ := late_old hl (by omega)
    have hS := (pq.2 hx).2.2
    have e3 := d.head hS
    have h3 := d.three hS
    unfold moveZ at he
    dsimp only at he
    rw [hl, if_neg (by decide)] at he
    split at he
    · rename_i hm
      split at hm
      · cases hm
        cases he
        dsimp only
        omega
      · split at hm
        · cases hm
          cases he
          dsimp only
          omega
        · cases hm
    · cases he

theorem fields_cnt {S : List Int} {s : CN} {p : Nat} (d : Dyn True S s.ws s.h) (hp : S.getD p 0 ≠ 0) (hi : InS s.h p) : ∀ k : Nat, (k : Int) < S.getD p 0 → ∀ s', fieldsRun p k s = some s' → s'.r + s'.t ≤ s.r + s.t + 16 * k ∧ s.r + s.t ≤ s'.r + s'.t
  | 0, _, s', he => by
    cases he
    omega
  | k + 1, hk, s', he => by
    unfold fieldsRun at he
    cases h1 : fieldsRun p k s with
    | none => rw [h1] at he; cases he
    | some s1 =>
      rw [h1] at he
      dsimp only at he
      obtain ⟨S1, f1, t1⟩ := dyn_fields d hp hi k (by push_cast at hk; omega) s1 h1
      have c1 := fields_cnt d hp hi k (by push_cast at hk; omega) s1 h1
      cases h2 : fieldZ s1 (p + (k + 1)) with
      | mk o s2 =>
        rw [h2] at he
        cases o with
        | none => cases he
        | some y =>
          cases he
          have e1 := t1.step.ext p hp
          have c2 := field_cnt t1.step.dyn (by rw [e1]; exact hp) ((t1.step.ins p).2 hi) (by omega) (by rw [e1]; exact hk) h2
          push_cast
          omega

theorem scan_grow {S : List Int} {s s' : CN} (d : Dyn True S s.ws s.h) (he : scanOne s = some s') : s.h.scan ≤ s'.h.scan ∧ s.h.bottom ≤ s'.h.bottom ∧ s'.r + s'.t ≤ s.r + s.t + 90 ∧ s.r + s.t ≤ s'.r + s'.t := by
  unfold scanOne at he
  by_cases hb : s.h.scan = s.h.bottom
  · rw [if_pos hb] at he
    cases he
    omega
  · rw [if_neg hb] at he
    obtain ⟨o1, o2, o3, o4, o5, o6, o7, o8, o9, o10, o11, o12, o13⟩ := id d.ord
    obtain ⟨p, hp, hS, hi, hd⟩ := d.begin (by omega)
    have h3 := d.three hS
    rw [hp, Int.toNat_natCast, hd] at he
    obtain ⟨n, hn⟩ := Int.eq_ofNat_of_zero_le (show 0 ≤ S.getD p 0 by omega)
    rw [hn, Int.toNat_natCast] at he
    cases h1 : fieldsRun p (n - 1) { s with r := s.r + 1 } with
    | none => rw [h1] at he; cases he
    | some s1 =>
      rw [h1] at he
      cases he
      obtain ⟨S1, f, t⟩ := dyn_fields (s := { s with r := s.r + 1 }) d hS hi (n - 1) (by omega) s1 h1
      have c := fields_cnt (s := { s with r := s.r + 1 }) d hS hi (n - 1) (by omega) s1 h1
      have hg := t.step.grow
      dsimp only at c hg ⊢
      omega

theorem scanA_some {bs : List Int} {h : HpN} {x : Int} {s1 : CN} (he : scanA bs h x = some s1) : ∃ S, OkHeap bs S h ∧ scanRun x.toNat ⟨bs, h, 0, 0⟩ = some s1 := by
  unfold scanA at he
  split at he
  · rename_i hc
    obtain ⟨S, ok⟩ := ok_facts hc.2.2.1 hc.2.2.2
    exact ⟨S, ok, he⟩
  · cases he

end Go.Proofs.Ytebpgglegnljgaa

namespace Go.Proofs.Ytebpgglegnljgaa
open Go.RowKit

theorem scans_cnt {S : List Int} {s : CN} (d : Dyn True S s.ws s.h) : ∀ k s', scanRun k s = some s' → s'.r + s'.t ≤ s.r + s.t + 90 * k ∧ s.r + s.t ≤ s'.r + s'.t
  | 0, s', he => by
    cases he
    omega
  | k + 1, s', he => by
    unfold scanRun at he
    cases h1 : scanRun k s with
    | none => rw [h1] at he; cases he
    | some s1 =>
      rw [h1] at he
      obtain ⟨S1, f1, t1⟩ := dyn_scans d k s1 h1
      have g1 := scans_cnt d k s1 h1
      have g2 := scan_grow t1.dyn he
      push_cast
      omega

theorem move_cnt {S : List Int} {s s' : CN} {x y : Int} (d : Dyn True S s.ws s.h) (l : Pts S s.ws.length x) (hm : moveZ s x = (some y, s')) : s'.r + s'.t ≤ s.r + s.t + 16 ∧ s.r + s.t ≤ s'.r + s'.t := by
  obtain ⟨o1, o2, o3, o4, -⟩ := id d.ord
  unfold moveZ at hm
  cases hl : lateZ s.h x with
  | false =>
    rw [if_pos hl] at hm
    cases hm
    omega
  | true =>
    rw [if_neg (by rw [hl]; decide)] at hm
    obtain ⟨hx, hx0, hold⟩ := late_old hl (by omega)
    have hS := (l.2 hx).2.2
    have e3 := d.head hS
    have h3 := d.three hS
    split at hm
    · cases hm
      dsimp only
      omega
    · split at hm
      · cases hm
        dsimp only
        omega
      · cases hm

theorem moves_cnt {S : List Int} {s : CN} {xs : List Int} (d : Dyn True S s.ws s.h) (hx : ∀ i, i < xs.length → Pts S s.ws.length (xs.getD i 0)) : ∀ k, k ≤ xs.length → ∀ ys s', movesRun xs k s = some (ys, s') → s'.r + s'.t ≤ s.r + s.t + 16 * k ∧ s.r + s.t ≤ s'.r + s'.t
  | 0, _, ys, s', he => by
    cases he
    omega
  | k + 1, hk, ys, s', he => by
    unfold movesRun at he
    cases h1 : movesRun xs k s with
    | none => rw [h1] at he; cases he
    | some r =>
      obtain ⟨zs, s1⟩ := r
      rw [h1] at he
      dsimp only at he
      obtain ⟨S1, f1, t1⟩ := dyn_moves d hx k (by omega) zs s1 h1
      have c1 := moves_cnt d hx k (by omega) zs s1 h1
      have px1 : Pts S1 s1.ws.length (zs.getD k 0) := by rw [t1.rest k (Nat.le_refl _), t1.step.len]; exact t1.step.pts (hx k (by omega))
      cases h2 : moveZ s1 (zs.getD k 0) with
      | mk o s2 =>
        rw [h2] at he
        cases o with
        | none => cases he
        | some y =>
          cases he
          have c2 := move_cnt t1.step.dyn px1 h2
          push_cast
          omega

theorem scan_touch {ws S : List Int} {h : HpN} (ok : OkHeap ws S h) (ht : h.touched ≤ 1000000000) {m : Nat} (hm : m ≤ 4000) {s1 : CN} (he : scanRun m ⟨ws, h, 0, 0⟩ = some s1) : s1.ws.length = ws.length ∧ s1.h.flips = h.flips ∧ 0 ≤ touchZ s1 ∧ touchZ s1 ≤ h.touched + 360000 := by
  obtain ⟨c, S1, f, p⟩ := phase_scans ok he
  have hfl : s1.h.flips = h.flips := by rw [p.num]
  have htc : s1.h.touched = h.touched := by rw [p.num]
  have o := ok.ord
  obtain ⟨o1, o2, o3, o4, o5, o6, o7, o8, -⟩ := o
  have cnt : s1.r + s1.t ≤ 90 * (m : Int) ∧ 0 ≤ s1.r + s1.t := by
    by_cases hb : h.scan < h.bottom
    · have := scans_cnt (s := ⟨ws, h, 0, 0⟩) ((dyn_of_ok ok).of_iff ⟨fun _ => trivial, fun _ => hb⟩) m s1 he
      dsimp only at this
      omega
    · have e := scanRun_end (s := ⟨ws, h, 0, 0⟩) (k := 0) rfl (by dsimp only; omega) m
      rw [Nat.zero_add, he] at e
      cases e
      dsimp only
      omega
  refine ⟨p.len, hfl, ?_⟩
  unfold touchZ wrap64
  rw [htc]
  omega

theorem scanA_nums {bs : List Int} {h : HpN} {x : Int} {s1 : CN} (he : scanA bs h x = some s1) (ht : h.touched ≤ 1000000000) : s1.ws.length = bs.length ∧ s1.h.flips = h.flips ∧ 0 ≤ touchZ s1 ∧ touchZ s1 ≤ h.touched + 360000 := by
  obtain ⟨S, ok, hs⟩ := scanA_some he
  refine scan_touch ok ht (m := x.toNat) ?_ hs
  unfold scanA at he
  split at he
  · rename_i k
    omega
  · cases he

theorem flip_touch {bs S xs : List Int} {h : HpN} (ok : OkHeap bs S h) (hx : ∀ i, i < xs.length → wordOkZ S h (xs.getD i 0) = true) (hn : xs.length ≤ 20) (hb : h.scan = h.bottom) (hf : h.flips < 4000000000) (ht : h.touched ≤ 1000000000) {ys : List Int} {s : CN} (he : movesRun xs xs.length ⟨bs, flipH h, 0, 0⟩ = some (ys, s)) : 0 ≤ touchZ s ∧ touchZ s ≤ h.touched + 320 := by
  have d := dyn_of_ok ok
  obtain ⟨S1, f, m⟩ := flip_moves d (by omega) hf (fun i hi => (used_iff ok _).1 (hx i hi)) he
  have c := moves_cnt (s := ⟨bs, flipH h, 0, 0⟩) (dyn_flip d (by omega) hf) (fun i hi => ((used_iff ok _).1 (hx i hi)).drop.pts) xs.length (Nat.le_refl _) ys s he
  have e : s.h.touched = h.touched := by rw [m.step.num]; rfl
  have o := ok.ord
  obtain ⟨o1, o2, o3, o4, o5, o6, -⟩ := o
  dsimp only at c
  unfold touchZ wrap64
  rw [e]
  omega

theorem freed {bs xs S : List Int} {h : HpN} (ok : OkHeap bs S h) (hx : ∀ i, i < xs.length → wordOkZ S h (xs.getD i 0) = true) (hn : xs.length ≤ 20) (hb : h.scan = h.bottom) (hf : h.flips < 4000000000) (ht : h.touched ≤ 900000000) : ∃ ys s1 s2 S1 S2, Freed bs xs h ys s1 s2 S1 S2 ∧ touchZ s1 ≤ h.touched + 320 := by
  obtain ⟨ys, s1, s2, S1, S2, fr⟩ := freed_of ok hx hn hb hf (fun ys s he => (flip_touch ok hx hn hb hf (by omega) he).1) (fun s s' he ⟨ys, hm⟩ => by
    have t := flip_touch ok hx hn hb hf (by omega) hm
    obtain ⟨S1, st1, -⟩ := keep_flip ok hx hb hf hm t.1
    exact (scan_touch st1.ok (by dsimp only; omega) (by omega) he).2.2.1)
  refine ⟨ys, s1, s2, S1, S2, fr, ?_⟩
  have hf' := fr.flip
  unfold flipA at hf'
  rw [if_pos ⟨S, ok, hb, hn, hx⟩] at hf'
  exact (flip_touch ok hx hn hb hf (by omega) hf').2

theorem flipA_ok {bs xs : List Int} {h : HpN} {r : List Int × CN} (he : flipA bs xs h = some r) : ∃ S, OkHeap bs S h ∧ h.scan = h.bottom ∧ xs.length ≤ 20 ∧ ∀ i, i < xs.length → wordOkZ S h (xs.getD i 0) = true := by
  unfold flipA at he
  split at he
  · assumption
  · cases he

end Go.Proofs.Ytebpgglegnljgaa

namespace Go.Proofs.Ytebpgglegnljgaa
open Go.RowKit Go.Deep

structure HpF (W0 : World) (bw cp g gc : Nat) (ws : List Int) (h : HpN) (rs : List Int) (W : World) : Prop where
  row : SliceR 3 1 W0.heap.size W (.slice (some ⟨bw, 0, none⟩) ws.length cp) ws.length (intCells ws)
  rt : SliceR 3 1 W0.heap.size W (.slice (some ⟨g, 0, none⟩) 4 gc) 4 (intCells rs)
  rl : rs.length = 4
  cw : ws.length ≤ cp
  l8 : ws.length ≤ 8000
  l0 : 0 < ws.length
  fl : h.flips ≤ 100
  tc : h.touched ≤ 200000000
  below : Below W0.heap.size W0 W

theorem slice_turned {t : TypeId} {sz B : Nat} {b : Nat} {W W' : World} {g N cp : Nat} {F : Nat → Value} (s : SliceR t sz B W (.slice (some ⟨g, 0, none⟩) N cp) N F) (h1 : b ≠ g) (e : ∀ j, j ≠ b → W'.heap[j]? = W.heap[j]?) : SliceR t sz B W' (.slice (some ⟨g, 0, none⟩) N cp) N F := by
  obtain ⟨ad, c, e1, h0 | ⟨g, e2, hg, hr⟩⟩ := s
  · exact ⟨ad, c, e1, Or.inl h0⟩
  · cases e1
    cases e2
    exact ⟨_, _, rfl, Or.inr ⟨_, rfl, hg, hr.of_block (e _ (Ne.symm h1))⟩⟩

theorem HpF.keep {W0 : World} {bw cp g gc : Nat} {ws : List Int} {h : HpN} {rs : List Int} {W W' : World} (s : HpF W0 bw cp g gc ws h rs W) (hb : Below W.heap.size W W') : HpF W0 bw cp g gc ws h rs W' :=
  ⟨s.row.below hb, s.rt.below hb, s.rl, s.cw, s.l8, s.l0, s.fl, s.tc, s.below.trans (hb.mono s.below.size)⟩

theorem HpF.turned {W0 : World} {bw cp g gc : Nat} {ws : List Int} {h : HpN} {rs : List Int} {W W' : World} (s : HpF W0 bw cp g gc ws h rs W) {b : Nat} (h1 : b ≠ bw) (h2 : b ≠ g) (e : ∀ j, j ≠ b → W'.heap[j]? = W.heap[j]?) (hb : Below W0.heap.size W W') : HpF W0 bw cp g gc ws h rs W' :=
  ⟨slice_turned s.row h1 e, slice_turned s.rt h2 e, s.rl, s.cw, s.l8, s.l0, s.fl, s.tc, s.below.trans hb⟩

theorem HpF.only {W0 : World} {bw cp g gc B : Nat} {ws : List Int} {h : HpN} {rs : List Int} {W W' : World} (s : HpF W0 bw cp g gc ws h rs W) (o : Only B W W') (h1 : B ≠ bw) (h3 : B ≠ g) (h2 : W0.heap.size ≤ B) : HpF W0 bw cp g gc ws h rs W' := s.turned h1 h3 o.block (o.below h2)

theorem HpD.far {B : Nat} {a0 : Option Addr} {n cap q : Nat} {w0 W0 : World} {bw cp g gc : Nat} {ws : List Int} {h : HpN} {rs : List Int} {W : World} (s : HpD B a0 n cap q w0 bw cp g ws h rs W) (h1 : W0.heap.size ≤ B) (h2 : Below W0.heap.size W0 w0) : HpF W0 bw cp g gc ws h rs W := by
  have := s.low
  have := s.o2
  have := s.o3
  have := s.tc
  refine ⟨⟨_, _, rfl, Or.inr ⟨bw, rfl, by omega, by rw [Nat.mul_one]; exact s.row⟩⟩, ⟨_, _, rfl, Or.inr ⟨g, rfl, by omega, by rw [Nat.mul_one]; exact s.rt⟩⟩, s.rl, s.cw, s.l8, s.l0, s.fl, by omega, h2.trans (s.below.below h1 h2.size)⟩

def DrawFlipP (W : World) (e : Ending) (W' : World) : Prop :=
  ∃ (bw cp g gc : Nat) (ws : List Int) (h : HpN) (rs : List Int), e = .returned (.tuple #[heapV (.slice (some ⟨bw, 0, none⟩) ws.length cp) h, .slice (some ⟨g, 0, none⟩) 4 gc]) ∧ HpF W bw cp g gc ws h rs W' ∧ 4 ≤ gc

set_option maxHeartbeats 8000000 in
set_option maxRecDepth 100000 in
theorem drawFlip_calls (a0 : Option Addr) (len cap : Nat) (W : World) (hl : len ≤ 1048576) (hc : len ≤ cap) (hB : BytesAt W a0 len) : Calls Try.prog 16 #[.slice a0 len cap] W (DrawFlipP W) := by
  have HO : Hid (∀ X, Below W.heap.size W X → Calls Try.prog 26 #[.slice a0 len cap] X fun e X' => e = .returned (.pointer (some ⟨X.heap.size, 0, none⟩)) ∧ ∃ m, Rd X.heap.size a0 m cap 0 X' ∧ Below X.heap.size X X') := fun X hX => (ropen_calls a0 len cap X (by omega) hc).mono (by
    rintro e X' ⟨rfl, m, hm, rfl⟩
    exact ⟨rfl, m, rd_new X a0 len cap m hm (hB.later hX), (Below.refl _ _).alloc (Nat.le_refl _) _⟩)
  clear hl hc hB
  go_enter Try.func16, Try.ntmps16
  go_wp2_with fail
  have hX := (Below.refl W.heap.size W).alloc (Nat.le_refl _) (.cells #[.slice none 0 0, .int .i64 0, .int .i64 0, .int .i64 0, .int .i64 0, .int .i64 0, .int .i64 0, .int .i64 0, .int .i64 0, .int .i64 0] 25)
  have hXs : (W.alloc (.cells #[.slice none 0 0, .int .i64 0, .int .i64 0, .int .i64 0, .int .i64 0, .int .i64 0, .int .i64 0, .int .i64 0, .int .i64 0, .int .i64 0] 25)).heap.size = W.heap.size + 1 := by simp
  have hrv : HeapBlk _ W.heap.size (.slice none 0 0) ⟨0, 0, 0, 0, 0, 0, 0, 0, 0⟩ := HeapBlk.new W (.slice none 0 0) ⟨0, 0, 0, 0, 0, 0, 0, 0, 0⟩
  refine (HO.out _ hX).mono ?_
  rintro e W1 ⟨rfl, m, hrd, hb1⟩
  rw [hXs] at hrd ⊢
  have hr1 := hrv.below hb1
  have hbW := hX.trans (hb1.mono hX.size)
  have HH := hid (heap_calls (W.heap.size + 1) a0 m cap W1 hrd)
  have HR1 := hid hr1
  have HB1 := hid hbW
  have HBl := hid (heap_lt hrd.blk)
  clear hrd hb1 hX hXs hrv hr1 hbW HO
  go_wp2_with fail
  refine HH.out.mono ?_
  rintro e W2 ⟨q, bw, cp, g, gc, ws, h, rs, rfl, hd, hgc⟩
  obtain ⟨rv, hrve⟩ : ∃ rv, W.heap.size = rv := ⟨_, rfl⟩
  have hR2 : HeapBlk W2 W.heap.size (.slice none 0 0) ⟨0, 0, 0, 0, 0, 0, 0, 0, 0⟩ := (hd.below.block W.heap.size (by have := HBl.out; omega) (by omega)).trans HR1.out
  have HR2 := hid hR2
  have HD := hid hd
  have HGC := hid hgc
  clear hR2 hd hgc HH HR1
  unfold heapV
  obtain ⟨L, hL⟩ : ∃ L, ws.length = L := ⟨_, rfl⟩
  have HLL := hid hL
  rw [hL]
  clear hL
  go_wp2_with fail
  have hbA := (Below.refl W2.heap.size W2).alloc (Nat.le_refl _) (.cells #[.slice (some ⟨bw, 0, none⟩) L cp, .int .i64 h.size, .int .i64 h.to, .int .i64 h.bottom, .int .i64 h.top, .int .i64 h.scan, .int .i64 h.fb, .int .i64 h.ft, .int .i64 h.flips, .int .i64 h.touched] 25)
  have HS2 := hid (HD.out.keep hbA)
  have HH2 : Hid (HeapBlk _ W2.heap.size (.slice (some ⟨bw, 0, none⟩) L cp) h) := HeapBlk.new W2 (.slice (some ⟨bw, 0, none⟩) L cp) h
  have HRv2 := hid (HR2.out.below hbA)
  have hN : Hid (W.heap.size < W1.heap.size ∧ W.heap.size + 1 < W1.heap.size ∧ W1.heap.size ≤ bw ∧ W1.heap.size ≤ W2.heap.size ∧ bw < W2.heap.size ∧ W1.heap.size ≤ g ∧ g < W2.heap.size ∧ bw ≠ g ∧ 4 ≤ gc) := ⟨by have := HBl.out; omega, HBl.out, HD.out.o2, HD.out.below.size, HD.out.row.lt, HD.out.o3, HD.out.rt.lt, HD.out.n3, HGC.out⟩
  clear hbA HD HR2
  have HPk := hid (rd_picks HS2.out.rd (by have := HS2.out.q0; omega) 3 (by omega))
  have HvS : Hid (W2.heap.size < (W2.alloc (.cells #[.slice (some ⟨bw, 0, none⟩) L cp, .int .i64 h.size, .int .i64 h.to, .int .i64 h.bottom, .int .i64 h.top, .int .i64 h.scan, .int .i64 h.fb, .int .i64 h.ft, .int .i64 h.flips, .int .i64 h.touched] 25)).heap.size) := heap_lt HH2.out
  obtain ⟨hv, hhv⟩ : ∃ hv, W2.heap.size = hv := ⟨_, rfl⟩
  rw [hhv] at HH2 hN HvS ⊢
  obtain ⟨A, hA⟩ : ∃ A, (W2.alloc (.cells #[.slice (some ⟨bw, 0, none⟩) L cp, .int .i64 h.size, .int .i64 h.to, .int .i64 h.bottom, .int .i64 h.top, .int .i64 h.scan, .int .i64 h.fb, .int .i64 h.ft, .int .i64 h.flips, .int .i64 h.touched] 25)) = A := ⟨_, rfl⟩
  rw [hA] at HH2 HRv2 HS2 HPk HvS
  rw [hA]
  have HHV := hid hhv
  clear hA hhv
  rw [hrve] at HPk
  have HRE := hid hrve
  have HFD := hid (HpD.far (gc := gc) HS2.out (by omega) HB1.out)
  have HTC : Hid (h.touched ≤ 100000000) := HS2.out.tc
  clear HS2 hrve
  refine HPk.out.mono ?_
  rintro e X1 ⟨m1, rfl, hm0, hm3, hr1, ho1⟩
  have HF1 := hid (HFD.out.only ho1 (by have := hN.out; have := HRE.out; omega) (by have := hN.out; have := HRE.out; omega) (by have := HRE.out; omega))
  have Hv1 : Hid (HeapBlk X1 hv (.slice (some ⟨bw, 0, none⟩) L cp) h) := (ho1.block hv (by have := hN.out; have := HRE.out; omega)).trans HH2.out
  have Rv1 : Hid (HeapBlk X1 rv (.slice none 0 0) ⟨0, 0, 0, 0, 0, 0, 0, 0, 0⟩) := (ho1.block rv (by omega)).trans (by have := HRv2.out; rw [HRE.out] at this; exact this)
  have HvS1 : Hid (hv < X1.heap.size) := by have := HvS.out; have e := ho1.size; show _ < _; omega
  have HNN : Hid (W.heap.size ≤ rv ∧ rv < hv ∧ rv ≠ bw ∧ rv ≠ g ∧ hv ≠ bw ∧ hv ≠ g ∧ 4 ≤ gc) := by have := hN.out; have := HRE.out; show _ ∧ _; omega
  clear hr1 ho1 HH2 HRv2 HFD HvS HPk hN HB1 HBl HHV HRE
  obtain ⟨c0, c1, c2, c3, c4, c5, c6, c7, c8, c9⟩ := Hv1.out.cells
  by_cases hm : 0 < m1
  · have hdm : decide (0 < m1) = true := decide_eq_true hm
    have HSc := hid ((scan_toldC ws h (by have := HF1.out.tc; omega) (by have := HF1.out.l8; omega) 1000).1 _ bw cp X1 HF1.out.cw HF1.out.row)
    rw [HLL.out] at HSc
    unfold heapV at HSc
    go_wp2_with fail
    refine HSc.out.mono ?_
    rintro e X2 ⟨⟨ad, cp2, rfl, hsl, hcp2⟩, hb2⟩
    have Hv2 := hid (Hv1.out.below hb2)
    have Rv2 := hid (Rv1.out.below hb2)
    have HF2 := hid (HF1.out.keep hb2)
    have Hx12 := hid hb2.size
    clear hb2 HSc Hv1 Rv1 HF1 c0 c1 c2 c3 c4 c5 c6 c7 c8 c9
    obtain ⟨H2, hH2⟩ : ∃ H2, ansH (scanA ws h 1000) = H2 := ⟨_, rfl⟩
    obtain ⟨w2, hw2⟩ : ∃ w2, ansW (scanA ws h 1000) = w2 := ⟨_, rfl⟩
    obtain ⟨b2, hb2⟩ : ∃ b2, (scanA ws h 1000).isSome = b2 := ⟨_, rfl⟩
    rw [hH2, hw2, hb2]
    rw [hw2] at hsl hcp2
    obtain ⟨L2, hL2⟩ : ∃ L2, w2.length = L2 := ⟨_, rfl⟩
    rw [hL2]
    have EH := hid hH2
    have EW := hid hw2
    have EB := hid hb2
    have EL := hid hL2
    have ES := hid hsl
    have EC := hid hcp2
    clear hH2 hw2 hb2 hL2 hsl hcp2
    unfold heapV
    have hal := (Below.refl X2.heap.size X2).alloc (Nat.le_refl _) (.cells #[.slice ad L2 cp2, .int .i64 H2.size, .int .i64 H2.to, .int .i64 H2.bottom, .int .i64 H2.top, .int .i64 H2.scan, .int .i64 H2.fb, .int .i64 H2.ft, .int .i64 H2.flips, .int .i64 H2.touched] 25)
    have Hv3 := hid (Hv2.out.below hal)
    have Rv3 := hid (Rv2.out.below hal)
    have HF3 := hid (HF2.out.keep hal)
    have Hu3 : Hid (HeapBlk _ X2.heap.size (.slice ad L2 cp2) H2) := HeapBlk.new X2 (.slice ad L2 cp2) H2
    have HX2 : Hid (hv < X2.heap.size) := by have := Hx12.out; have := HvS1.out; show _ < _; omega
    clear hal Hv2 Rv2 Hx12
    cases b2 with
    | false =>
      obtain ⟨c0, c1, c2, c3, c4, c5, c6, c7, c8, c9⟩ := Hv3.out.cells
      clear ES EC EH EW EL EB Hu3 HF2 Hv3
      obtain ⟨d0, d1, d2, d3, d4, d5, d6, d7, d8, d9⟩ := Rv3.out.cells
      have z0 := frozen_of_heap Rv3.out 0
      have z1 := frozen_of_heap Rv3.out 1
      have z2 := frozen_of_heap Rv3.out 2
      have z3 := frozen_of_heap Rv3.out 3
      have z4 := frozen_of_heap Rv3.out 4
      have z5 := frozen_of_heap Rv3.out 5
      have z6 := frozen_of_heap Rv3.out 6
      have z7 := frozen_of_heap Rv3.out 7
      have z8 := frozen_of_heap Rv3.out 8
      have z9 := frozen_of_heap Rv3.out 9
      try dsimp only at d0 d1 d2 d3 d4 d5 d6 d7 d8 d9
      go_wp2_with fail
      refine heap_use Rv3.out (.slice (some ⟨bw, 0, none⟩) L cp) h _ ?_
      intro W9 hL9 hb9 _ hoth
      obtain ⟨y0, y1, y2, y3, y4, y5, y6, y7, y8, y9⟩ := hL9.cells
      try dsimp only at y0 y1 y2 y3 y4 y5 y6 y7 y8 y9
      refine bodyPost_ret (v := .tuple #[heapV (.slice (some ⟨bw, 0, none⟩) L cp) h, .slice (some ⟨g, 0, none⟩) 4 gc]) (by simp [results, Try.results16, go_sem, y0, y1, y2, y3, y4, y5, y6, y7, y8, y9, heapV]) rfl ?_
      exact ⟨bw, cp, g, gc, ws, h, rs, by rw [HLL.out], HF3.out.turned (b := rv) (by have := HNN.out; omega) (by have := HNN.out; omega) hoth (hb9 _ (by have := HNN.out; omega)), by have := HNN.out; omega⟩
    | true =>
      obtain ⟨u0, u1, u2, u3, u4, u5, u6, u7, u8, u9⟩ := Hu3.out.cells
      obtain ⟨c0, c1, c2, c3, c4, c5, c6, c7, c8, c9⟩ := Hv3.out.cells
      have x0 := frozen_of_heap Hv3.out 0
      have x1 := frozen_of_heap Hv3.out 1
      have x2 := frozen_of_heap Hv3.out 2
      have x3 := frozen_of_heap Hv3.out 3
      have x4 := frozen_of_heap Hv3.out 4
      have x5 := frozen_of_heap Hv3.out 5
      have x6 := frozen_of_heap Hv3.out 6
      have x7 := frozen_of_heap Hv3.out 7
      have x8 := frozen_of_heap Hv3.out 8
      have x9 := frozen_of_heap Hv3.out 9
      have hT := heap_useT Hv3.out (.slice ad L2 cp2) H2 (fun Z => HeapBlk Z hv (.slice ad L2 cp2) H2 ∧ (∀ B, B ≤ hv → Below B (X2.alloc (.cells #[.slice ad L2 cp2, .int .i64 H2.size, .int .i64 H2.to, .int .i64 H2.bottom, .int .i64 H2.top, .int .i64 H2.scan, .int .i64 H2.fb, .int .i64 H2.ft, .int .i64 H2.flips, .int .i64 H2.touched] 25)) Z) ∧ ∀ g, g ≠ hv → Z.heap[g]? = (X2.alloc (.cells #[.slice ad L2 cp2, .int .i64 H2.size, .int .i64 H2.to, .int .i64 H2.bottom, .int .i64 H2.top, .int .i64 H2.scan, .int .i64 H2.fb, .int .i64 H2.ft, .int .i64 H2.flips, .int .i64 H2.touched] 25)).heap[g]?) (fun Z a b c => ⟨a, b, c⟩)
      have HvT := hid hT.1
      have Rv4 : Hid (HeapBlk (((((((((((X2.alloc (.cells #[.slice ad L2 cp2, .int .i64 H2.size, .int .i64 H2.to, .int .i64 H2.bottom, .int .i64 H2.top, .int .i64 H2.scan, .int .i64 H2.fb, .int .i64 H2.ft, .int .i64 H2.flips, .int .i64 H2.touched] 25)).setCell ⟨hv, 0, none⟩ (.slice ad L2 cp2)).setCell ⟨hv, 1, none⟩ (.int .i64 H2.size)).setCell ⟨hv, 2, none⟩ (.int .i64 H2.to)).setCell ⟨hv, 3, none⟩ (.int .i64 H2.bottom)).setCell ⟨hv, 4, none⟩ (.int .i64 H2.top)).setCell ⟨hv, 5, none⟩ (.int .i64 H2.scan)).setCell ⟨hv, 6, none⟩ (.int .i64 H2.fb)).setCell ⟨hv, 7, none⟩ (.int .i64 H2.ft)).setCell ⟨hv, 8, none⟩ (.int .i64 H2.flips)).setCell ⟨hv, 9, none⟩ (.int .i64 H2.touched)) rv (.slice none 0 0) ⟨0, 0, 0, 0, 0, 0, 0, 0, 0⟩) := (hT.2.2 rv (by have := HNN.out; omega)).trans Rv3.out
      have HF4 := hid (HF3.out.turned (b := hv) (by have := HNN.out; omega) (by have := HNN.out; omega) hT.2.2 (hT.2.1 _ (by have := HNN.out; omega)))
      have HN4 : Hid (∀ k, k ≠ hv → ((((((((((((X2.alloc (.cells #[.slice ad L2 cp2, .int .i64 H2.size, .int .i64 H2.to, .int .i64 H2.bottom, .int .i64 H2.top, .int .i64 H2.scan, .int .i64 H2.fb, .int .i64 H2.ft, .int .i64 H2.flips, .int .i64 H2.touched] 25)).setCell ⟨hv, 0, none⟩ (.slice ad L2 cp2)).setCell ⟨hv, 1, none⟩ (.int .i64 H2.size)).setCell ⟨hv, 2, none⟩ (.int .i64 H2.to)).setCell ⟨hv, 3, none⟩ (.int .i64 H2.bottom)).setCell ⟨hv, 4, none⟩ (.int .i64 H2.top)).setCell ⟨hv, 5, none⟩ (.int .i64 H2.scan)).setCell ⟨hv, 6, none⟩ (.int .i64 H2.fb)).setCell ⟨hv, 7, none⟩ (.int .i64 H2.ft)).setCell ⟨hv, 8, none⟩ (.int .i64 H2.flips)).setCell ⟨hv, 9, none⟩ (.int .i64 H2.touched))).heap[k]? = (X2.alloc (.cells #[.slice ad L2 cp2, .int .i64 H2.size, .int .i64 H2.to, .int .i64 H2.bottom, .int .i64 H2.top, .int .i64 H2.scan, .int .i64 H2.fb, .int .i64 H2.ft, .int .i64 H2.flips, .int .i64 H2.touched] 25)).heap[k]?) := hT.2.2
      have HA4 := hid ((Below.refl X2.heap.size X2).alloc (Nat.le_refl _) (.cells #[.slice ad L2 cp2, .int .i64 H2.size, .int .i64 H2.to, .int .i64 H2.bottom, .int .i64 H2.top, .int .i64 H2.scan, .int .i64 H2.fb, .int .i64 H2.ft, .int .i64 H2.flips, .int .i64 H2.touched] 25))
      obtain ⟨e0, e1, e2, e3, e4, e5, e6, e7, e8, e9⟩ := HvT.out.cells
      clear hT HF3 HF2 HvT Hv3 Hu3 Rv3
      obtain ⟨d0, d1, d2, d3, d4, d5, d6, d7, d8, d9⟩ := Rv4.out.cells
      have z0 := frozen_of_heap Rv4.out 0
      have z1 := frozen_of_heap Rv4.out 1
      have z2 := frozen_of_heap Rv4.out 2
      have z3 := frozen_of_heap Rv4.out 3
      have z4 := frozen_of_heap Rv4.out 4
      have z5 := frozen_of_heap Rv4.out 5
      have z6 := frozen_of_heap Rv4.out 6
      have z7 := frozen_of_heap Rv4.out 7
      have z8 := frozen_of_heap Rv4.out 8
      have z9 := frozen_of_heap Rv4.out 9
      try dsimp only at d0 d1 d2 d3 d4 d5 d6 d7 d8 d9
      go_wp2_with fail
      refine heap_use Rv4.out (.slice ad L2 cp2) H2 _ ?_
      intro W9 hL9 hb9 _ hoth
      obtain ⟨y0, y1, y2, y3, y4, y5, y6, y7, y8, y9⟩ := hL9.cells
      try dsimp only at y0 y1 y2 y3 y4 y5 y6 y7 y8 y9
      refine bodyPost_ret (v := .tuple #[heapV (.slice ad L2 cp2) H2, .slice (some ⟨g, 0, none⟩) 4 gc]) (by simp [results, Try.results16, go_sem, y0, y1, y2, y3, y4, y5, y6, y7, y8, y9, heapV]) rfl ?_
      obtain ⟨s1, hs1⟩ := Option.isSome_iff_exists.1 EB.out
      have nums := scanA_nums hs1 (by have := HTC.out; omega)
      have ew : w2 = s1.ws := by rw [← EW.out, hs1]; rfl
      have eh : H2 = { s1.h with touched := touchZ s1 } := by rw [← EH.out, hs1]; rfl
      have l0 := HF4.out.l0
      have l8 := HF4.out.l8
      have lw : w2.length = ws.length := by rw [ew]; exact nums.1
      obtain ⟨ad', c', q1, h0 | ⟨bw2, q2, hg, hr⟩⟩ := ES.out
      · omega
      · cases q1
        cases q2
        have hv1 := HvS1.out
        have hnn := HNN.out
        have r3 := hr.of_block ((HA4.out.block _ hr.lt))
        have r4 := r3.of_block (HN4.out bw2 (by omega))
        have r5 := r4.of_block (hoth bw2 (by omega))
        have f5 := HF4.out.turned (b := rv) (by omega) (by omega) hoth (hb9 _ (by omega))
        refine ⟨bw2, cp2, g, gc, w2, H2, rs, by rw [EL.out], ⟨⟨_, _, rfl, Or.inr ⟨bw2, rfl, ?_, r5⟩⟩, f5.rt, f5.rl, EC.out, by omega, by omega, ?_, ?_, f5.below⟩, by omega⟩
        · omega
        · rw [eh]
          have := f5.fl
          have := nums.2.1
          dsimp only
          omega
        · rw [eh]
          have := HTC.out
          have := nums.2.2.2
          dsimp only
          omega
  · have hdm : decide (0 < m1) = false := decide_eq_false hm
    obtain ⟨d0, d1, d2, d3, d4, d5, d6, d7, d8, d9⟩ := Rv1.out.cells
    have z0 := frozen_of_heap Rv1.out 0
    have z1 := frozen_of_heap Rv1.out 1
    have z2 := frozen_of_heap Rv1.out 2
    have z3 := frozen_of_heap Rv1.out 3
    have z4 := frozen_of_heap Rv1.out 4
    have z5 := frozen_of_heap Rv1.out 5
    have z6 := frozen_of_heap Rv1.out 6
    have z7 := frozen_of_heap Rv1.out 7
    have z8 := frozen_of_heap Rv1.out 8
    have z9 := frozen_of_heap Rv1.out 9
    try dsimp only at d0 d1 d2 d3 d4 d5 d6 d7 d8 d9
    go_wp2_with fail
    refine heap_use Rv1.out (.slice (some ⟨bw, 0, none⟩) L cp) h _ ?_
    intro W9 hL9 hb9 _ hoth
    obtain ⟨y0, y1, y2, y3, y4, y5, y6, y7, y8, y9⟩ := hL9.cells
    try dsimp only at y0 y1 y2 y3 y4 y5 y6 y7 y8 y9
    refine bodyPost_ret (v := .tuple #[heapV (.slice (some ⟨bw, 0, none⟩) L cp) h, .slice (some ⟨g, 0, none⟩) 4 gc]) (by simp [results, Try.results16, go_sem, y0, y1, y2, y3, y4, y5, y6, y7, y8, y9, heapV]) rfl ?_
    exact ⟨bw, cp, g, gc, ws, h, rs, by rw [HLL.out], HF1.out.turned (b := rv) (by have := HNN.out; omega) (by have := HNN.out; omega) hoth (hb9 _ (by have := HNN.out; omega)), by have := HNN.out; omega⟩
end Go.Proofs.Ytebpgglegnljgaa

namespace Go.Proofs.Ytebpgglegnljgaa
open Go.RowKit Go.Deep

structure Ms (W0 : World) (M rv hv bw cp g gc : Nat) (a0 : Option Addr) (m cap q : Nat) (ws : List Int) (h : HpN) (rs : List Int) (X : World) : Prop where
  hp : HpF W0 bw cp g gc ws h rs X
  hb : HeapBlk X hv (.slice (some ⟨bw, 0, none⟩) ws.length cp) h
  rb : HeapBlk X rv (.slice none 0 0) ⟨0, 0, 0, 0, 0, 0, 0, 0, 0⟩
  rd : Rd (rv + 1) a0 m cap q X
  lt : rv + 1 < M ∧ hv < M ∧ bw < M ∧ g < M ∧ M ≤ X.heap.size
  ne : W0.heap.size ≤ rv ∧ rv ≠ bw ∧ rv ≠ g ∧ rv + 1 ≠ bw ∧ rv + 1 ≠ g ∧ rv + 1 ≠ hv ∧ rv ≠ hv ∧ hv ≠ bw ∧ hv ≠ g

theorem slice_calm {t : TypeId} {sz B : Nat} {W W' : World} {g N cp : Nat} {F : Nat → Value} (s : SliceR t sz B W (.slice (some ⟨g, 0, none⟩) N cp) N F) (e : W'.heap[g]? = W.heap[g]?) : SliceR t sz B W' (.slice (some ⟨g, 0, none⟩) N cp) N F := by
  obtain ⟨ad, c, e1, h0 | ⟨g, e2, hg, hr⟩⟩ := s
  · exact ⟨ad, c, e1, Or.inl h0⟩
  · cases e1
    cases e2
    exact ⟨_, _, rfl, Or.inr ⟨_, rfl, hg, hr.of_block e⟩⟩

theorem Ms.calm {W0 : World} {M rv hv bw cp g gc : Nat} {a0 : Option Addr} {m cap q : Nat} {ws : List Int} {h : HpN} {rs : List Int} {X X' : World} (s : Ms W0 M rv hv bw cp g gc a0 m cap q ws h rs X) (e : ∀ k, k < M → X'.heap[k]? = X.heap[k]?) (hs : M ≤ X'.heap.size) (hb : Below W0.heap.size X X') : Ms W0 M rv hv bw cp g gc a0 m cap q ws h rs X' := by
  obtain ⟨l1, l2, l3, l4, l5⟩ := s.lt
  exact ⟨⟨slice_calm s.hp.row (e bw l3), slice_calm s.hp.rt (e g l4), s.hp.rl, s.hp.cw, s.hp.l8, s.hp.l0, s.hp.fl, s.hp.tc, s.hp.below.trans hb⟩, (e hv l2).trans s.hb, (e rv (by omega)).trans s.rb, s.rd.same (fun k hk => e k (by omega)), ⟨l1, l2, l3, l4, hs⟩, s.ne⟩

theorem Ms.keep {W0 : World} {M rv hv bw cp g gc : Nat} {a0 : Option Addr} {m cap q : Nat} {ws : List Int} {h : HpN} {rs : List Int} {X X' : World} (s : Ms W0 M rv hv bw cp g gc a0 m cap q ws h rs X) (hb : Below X.heap.size X X') : Ms W0 M rv hv bw cp g gc a0 m cap q ws h rs X' := by
  have l5 := s.lt.2.2.2.2
  have hz := hb.size
  exact s.calm (fun k hk => hb.block k (by omega)) (by omega) (hb.mono s.hp.below.size)

theorem Ms.grown {W0 : World} {M rv hv bw cp g gc : Nat} {a0 : Option Addr} {m cap q : Nat} {ws : List Int} {h : HpN} {rs : List Int} {X X' : World} {row : Option Nat} (s : Ms W0 M rv hv bw cp g gc a0 m cap q ws h rs X) (hg : X.grownBy X' row) (hr : ∀ k, row = some k → M ≤ k) : Ms W0 M rv hv bw cp g gc a0 m cap q ws h rs X' := by
  obtain ⟨l1, l2, l3, l4, l5⟩ := s.lt
  have n1 := s.ne.1
  have hz := hg.size
  have bl : ∀ k, k < M → X'.heap[k]? = X.heap[k]? := fun k hk => hg.block k (by omega) (fun e => by have := hr k e.symm; omega)
  exact s.calm bl (by omega) ⟨hg.os, hg.tape, hg.output, hg.size, fun k hk => bl k (by omega)⟩

theorem Ms.picked {W0 : World} {M rv hv bw cp g gc : Nat} {a0 : Option Addr} {m cap q q' : Nat} {ws : List Int} {h : HpN} {rs : List Int} {X X' : World} (s : Ms W0 M rv hv bw cp g gc a0 m cap q ws h rs X) (ho : Only (rv + 1) X X') (hr : Rd (rv + 1) a0 m cap q' X') : Ms W0 M rv hv bw cp g gc a0 m cap q' ws h rs X' := by
  obtain ⟨l1, l2, l3, l4, l5⟩ := s.lt
  obtain ⟨n1, n2, n3, n4, n5, n6, n7, n8, n9⟩ := s.ne
  exact ⟨s.hp.only ho n4 n5 (by omega), (ho.block hv (by omega)).trans s.hb, (ho.block rv (by omega)).trans s.rb, hr, ⟨l1, l2, l3, l4, by rw [ho.size]; exact l5⟩, s.ne⟩

theorem Ms.pick {W0 : World} {M rv hv bw cp g gc : Nat} {a0 : Option Addr} {m cap q : Nat} {ws : List Int} {h : HpN} {rs : List Int} {X : World} (s : Ms W0 M rv hv bw cp g gc a0 m cap q ws h rs X) (hq : q ≤ 100000) (k : Int) (hk : 0 < k) :
    Calls Try.prog 28 #[.pointer (some ⟨rv + 1, 0, none⟩), .int .i64 k] X fun e X' => ∃ v : Int, e = .returned (.int .i64 v) ∧ 0 ≤ v ∧ v < k ∧ Ms W0 M rv hv bw cp g gc a0 m cap (q + 1) ws h rs X' ∧ Only (rv + 1) X X' := by
  refine (rd_picks s.rd hq k hk).mono ?_
  rintro e X' ⟨v, rfl, h0, h1, hr, ho⟩
  exact ⟨v, rfl, h0, h1, s.picked ho hr, ho⟩

end Go.Proofs.Ytebpgglegnljgaa

namespace Go.Proofs.Ytebpgglegnljgaa
open Go.RowKit Go.Deep

def DrawMakeP (W : World) (e : Ending) (W' : World) : Prop :=
  ∃ (bw cp g gc gf fc : Nat) (ws : List Int) (h : HpN) (rs fs : List Int) (kind mi : Int), e = .returned (.tuple #[heapV (.slice (some ⟨bw, 0, none⟩) ws.length cp) h, .slice (some ⟨g, 0, none⟩) 4 gc, .int .i64 kind, .slice (some ⟨gf, 0, none⟩) fs.length fc, .int .i64 mi]) ∧ HpF W bw cp g gc ws h rs W' ∧ SliceR 3 1 W.heap.size W' (.slice (some ⟨gf, 0, none⟩) fs.length fc) fs.length (intCells fs) ∧ 4 ≤ gc

theorem three_cell (W : World) (a b c : Int) {k : Nat} (hk : k < 3) : (W.alloc (.cells #[.int .i64 a, .int .i64 b, .int .i64 c] 3)).cell? ⟨W.heap.size, k, none⟩ = some (.int .i64 ([a, b, c].getD k 0)) := by
  have h : k = 0 ∨ k = 1 ∨ k = 2 := by omega
  rcases h with rfl | rfl | rfl <;> simp [go_sem]

set_option maxHeartbeats 24000000 in
set_option maxRecDepth 100000 in
theorem drawMake_calls (a0 : Option Addr) (len cap : Nat) (W : World) (hl : len ≤ 1048576) (hc : len ≤ cap) (hB : BytesAt W a0 len) : Calls Try.prog 7 #[.slice a0 len cap] W (DrawMakeP W) := by
  have HO : Hid (∀ X, Below W.heap.size W X → Calls Try.prog 26 #[.slice a0 len cap] X fun e X' => e = .returned (.pointer (some ⟨X.heap.size, 0, none⟩)) ∧ ∃ m, Rd X.heap.size a0 m cap 0 X' ∧ Below X.heap.size X X') := fun X hX => (ropen_calls a0 len cap X (by omega) hc).mono (by
    rintro e X' ⟨rfl, m, hm, rfl⟩
    exact ⟨rfl, m, rd_new X a0 len cap m hm (hB.later hX), (Below.refl _ _).alloc (Nat.le_refl _) _⟩)
  clear hl hc hB
  go_enter Try.func7, Try.ntmps7
  go_wp2_with fail
  have hX := (Below.refl W.heap.size W).alloc (Nat.le_refl _) (.cells #[.slice none 0 0, .int .i64 0, .int .i64 0, .int .i64 0, .int .i64 0, .int .i64 0, .int .i64 0, .int .i64 0, .int .i64 0, .int .i64 0] 25)
  have hXs : (W.alloc (.cells #[.slice none 0 0, .int .i64 0, .int .i64 0, .int .i64 0, .int .i64 0, .int .i64 0, .int .i64 0, .int .i64 0, .int .i64 0, .int .i64 0] 25)).heap.size = W.heap.size + 1 := by simp
  have hrv : HeapBlk _ W.heap.size (.slice none 0 0) ⟨0, 0, 0, 0, 0, 0, 0, 0, 0⟩ := HeapBlk.new W (.slice none 0 0) ⟨0, 0, 0, 0, 0, 0, 0, 0, 0⟩
  refine (HO.out _ hX).mono ?_
  rintro e W1 ⟨rfl, m, hrd, hb1⟩
  rw [hXs] at hrd ⊢
  have hr1 := hrv.below hb1
  have hbW := hX.trans (hb1.mono hX.size)
  have HH := hid (heap_calls (W.heap.size + 1) a0 m cap W1 hrd)
  have HR1 := hid hr1
  have HB1 := hid hbW
  have HBl := hid (heap_lt hrd.blk)
  clear hrd hb1 hX hXs hrv hr1 hbW HO
  go_wp2_with fail
  refine HH.out.mono ?_
  rintro e W2 ⟨q, bw, cp, g, gc, ws, h, rs, rfl, hd, hgc⟩
  obtain ⟨rv, hrve⟩ : ∃ rv, W.heap.size = rv := ⟨_, rfl⟩
  have hR2 : HeapBlk W2 W.heap.size (.slice none 0 0) ⟨0, 0, 0, 0, 0, 0, 0, 0, 0⟩ := (hd.below.block W.heap.size (by have := HBl.out; omega) (by omega)).trans HR1.out
  have HR2 := hid hR2
  have HD := hid hd
  have HGC := hid hgc
  clear hR2 hd hgc HH HR1
  unfold heapV
  obtain ⟨L, hL⟩ : ∃ L, ws.length = L := ⟨_, rfl⟩
  have HLL := hid hL
  rw [hL]
  clear hL
  go_wp2_with fail
  have hbA := (Below.refl W2.heap.size W2).alloc (Nat.le_refl _) (.cells #[.slice (some ⟨bw, 0, none⟩) L cp, .int .i64 h.size, .int .i64 h.to, .int .i64 h.bottom, .int .i64 h.top, .int .i64 h.scan, .int .i64 h.fb, .int .i64 h.ft, .int .i64 h.flips, .int .i64 h.touched] 25)
  have HS2 := hid (HD.out.keep hbA)
  have HH2 : Hid (HeapBlk _ W2.heap.size (.slice (some ⟨bw, 0, none⟩) L cp) h) := HeapBlk.new W2 (.slice (some ⟨bw, 0, none⟩) L cp) h
  have HRv2 := hid (HR2.out.below hbA)
  have hN : Hid (W.heap.size < W1.heap.size ∧ W.heap.size + 1 < W1.heap.size ∧ W1.heap.size ≤ bw ∧ W1.heap.size ≤ W2.heap.size ∧ bw < W2.heap.size ∧ W1.heap.size ≤ g ∧ g < W2.heap.size ∧ bw ≠ g ∧ 4 ≤ gc) := ⟨by have := HBl.out; omega, HBl.out, HD.out.o2, HD.out.below.size, HD.out.row.lt, HD.out.o3, HD.out.rt.lt, HD.out.n3, HGC.out⟩
  clear hbA HD HR2
  have HvS : Hid (W2.heap.size < (W2.alloc (.cells #[.slice (some ⟨bw, 0, none⟩) L cp, .int .i64 h.size, .int .i64 h.to, .int .i64 h.bottom, .int .i64 h.top, .int .i64 h.scan, .int .i64 h.fb, .int .i64 h.ft, .int .i64 h.flips, .int .i64 h.touched] 25)).heap.size) := heap_lt HH2.out
  obtain ⟨hv, hhv⟩ : ∃ hv, W2.heap.size = hv := ⟨_, rfl⟩
  rw [hhv] at HH2 hN HvS ⊢
  obtain ⟨A, hA⟩ : ∃ A, (W2.alloc (.cells #[.slice (some ⟨bw, 0, none⟩) L cp, .int .i64 h.size, .int .i64 h.to, .int .i64 h.bottom, .int .i64 h.top, .int .i64 h.scan, .int .i64 h.fb, .int .i64 h.ft, .int .i64 h.flips, .int .i64 h.touched] 25)) = A := ⟨_, rfl⟩
  rw [hA] at HH2 HRv2 HS2 HvS
  rw [hA]
  clear hA hhv
  have HMs : Hid (Ms W A.heap.size rv hv bw cp g gc a0 m cap q ws h rs A) := by
    have n := hN.out
    have v := HvS.out
    have r := HRv2.out
    have d := HS2.out.rd
    have b := HH2.out
    rw [hrve] at r d
    rw [← HLL.out] at b
    exact ⟨HpD.far (gc := gc) HS2.out (by omega) HB1.out, b, r, d, ⟨by omega, v, by omega, by omega, Nat.le_refl _⟩, ⟨by omega, by omega, by omega, by omega, by omega, by omega, by omega, by omega, by omega⟩⟩
  have HQ : Hid (q ≤ 1010) := HS2.out.q0
  have HTC : Hid (h.touched ≤ 100000000) := HS2.out.tc
  have HG4 : Hid (4 ≤ gc) := HGC.out
  clear HS2 hrve HH2 HRv2 HvS hN HGC HB1 HBl
  refine (HMs.out.pick (by have := HQ.out; omega) 8 (by omega)).mono ?_
  rintro e X1 ⟨m1, rfl, hm0, hm3, hs1, ho1⟩
  obtain ⟨M, hM⟩ : ∃ M, A.heap.size = M := ⟨_, rfl⟩
  rw [hM] at hs1
  have HS1 := hid hs1
  have HM1 : Hid (M ≤ X1.heap.size) := by show _ ≤ _; rw [ho1.size, hM]; exact Nat.le_refl _
  clear hs1 ho1 HMs hM
  obtain ⟨kd, hkd⟩ : ∃ kd, 1 + m1 = kd := ⟨_, rfl⟩
  have HKd : Hid (1 ≤ kd ∧ kd ≤ 8) := by show _ ∧ _; omega
  have hw8 : wrap64 (1 + m1) = kd := by rw [← hkd]; unfold wrap64; omega
  clear hkd hm0 hm3
  go_wp2_with fail
  rw [hw8]
  clear hw8
  obtain ⟨F, hF⟩ : ∃ F, fieldsZ kd = F := ⟨_, rfl⟩
  have HF : Hid (fieldsZ kd = F ∧ (F = 2 ∨ F = 5)) := by
    have := HKd.out
    refine ⟨hF, ?_⟩
    rw [← hF]
    unfold fieldsZ
    split
    · omega
    · split <;> omega
  clear hF
  go_loopw [11, 12] (fun fv kv wr => ∃ (fs : List Int) (j : Nat) (ji : Int) (af : Option Addr) (cf : Nat), fv = .slice af j cf ∧ kv = .int .i64 ji ∧ Hid (ji = (j : Int) ∧ (j : Int) ≤ F ∧ fs.length = j) ∧ Hid (wr.ownsRow M 3 1 (.slice af j cf) j (fs.map (fun x => Value.int .i64 x))) ∧ Hid (Ms W M rv hv bw cp g gc a0 m cap (q + 1 + j) ws h rs wr) ∧ Hid (M ≤ wr.heap.size)) (fun _ kv _ => 6 - (intOf kv).toNat)
  case atStart => exact ⟨[], 0, 0, none, 0, rfl, rfl, ⟨rfl, by have := HF.out; omega, rfl⟩, ⟨rfl, Or.inl ⟨rfl, rfl⟩⟩, HS1, HM1⟩
  case round =>
    clear HS1
    obtain ⟨fs, j, ji, af, cf, rfl, rfl, HJ, HOw, HSj, HLe⟩ := hrel
    have HFc : Hid (∀ w, Calls Try.prog 29 #[.int .i64 kd] w fun e w' => e = .returned (.int .i64 F) ∧ w = w') := fun w => by
      have e := specFields_calls kd w
      rw [HF.out.1] at e
      exact e
    by_cases hjF : ji < F
    · have HJ5 : Hid (j ≤ 4) := by show _ ≤ _; have := HJ.out; have := HF.out; omega
      have HPk := hid (HSj.out.pick (by have := HQ.out; have := HJ5.out; omega) 4 (by omega))
      have HM : Hid (rv + 1 < M) := HSj.out.lt.1
      go_wp2_with fail
      refine (HFc.out _).mono ?_
      rintro e w1 ⟨rfl, rfl⟩
      go_wp2_with fail
      refine HPk.out.mono ?_
      rintro e W8 ⟨m4, rfl, h40, h41, hs8, ho8⟩
      obtain ⟨mn, rfl⟩ := Int.eq_ofNat_of_zero_le h40
      have hmn : mn < 4 := by omega
      have cg : W8.cell? ⟨g, mn, none⟩ = some (.int .i64 (rs.getD mn 0)) := by
        obtain ⟨ad, cc, e5, h5⟩ := hs8.hp.rt
        cases e5
        obtain ⟨g', e6, -, hr⟩ := h5.resolve_left (by omega)
        cases e6
        have := hr.cell (i := mn) (by omega)
        unfold intCells at this
        exact this
      generalize rs.getD mn 0 = x at cg
      have HS8 := hid hs8
      have HO8 := hid (own_only HOw.out ho8 HM.out)
      have HL8 : Hid (M ≤ W8.heap.size) := by show _ ≤ _; rw [ho8.size]; exact HLe.out
      have hstep : 6 - (intOf (.int .i64 (ji + 1))).toNat < 6 - (intOf (.int .i64 ji)).toNat := by have := HJ.out; simp only [intOf]; have := HJ5.out; omega
      have hwj : wrap64 (ji + 1) = ji + 1 := by have := HJ.out; have := HJ5.out; unfold wrap64; omega
      obtain ⟨i0, hi, hz0, hz1, hz2⟩ := info_parts info_int
      clear hs8 ho8 HPk HOw HSj HLe
      go_wp2_with (first
        | (at_builtin; refine wpList_append_own _ rfl _ _ 23 rfl M 3 i0 (.int .i64 0) 1 8 Try.underlying23 hi hz0 hz1 hz2 rfl (by decide) _ _ _ rfl (World.ownsRow.alloc HO8.out _) ⟨W8.heap.size, 0, none⟩ 1 1 [.int .i64 x] rfl rfl (cell_one_new W8 x) (fun u hu => by simp at hu; subst hu; rfl) (by have := HJ5.out; unfold maxLen; omega) (by have := HJ5.out; omega) (by have := HL8.out; simp; omega) ?_
           intro v' w3 hown3 hgrow3 _
           have HS3 := hid ((HS8.out.keep ((Below.refl _ _).alloc (Nat.le_refl _) _)).grown hgrow3 (fun k hk => (HO8.out.lt k hk).1))
           have HL3 : Hid (M ≤ w3.heap.size) := by show _ ≤ _; have h1 := hgrow3.size; have h2 := HL8.out; simp at h1; omega
           have HO3 := hid hown3
           clear hown3 hgrow3
           obtain ⟨av', cv', rfl⟩ := own_sl HO3.out))
      rw [hwj]
      exact ⟨⟨fs ++ [x], j + 1, ji + 1, av', cv', rfl, rfl, ⟨by have := HJ.out; push_cast; omega, by have := HJ.out; push_cast; omega, by rw [List.length_append, HJ.out.2.2]; rfl⟩, by rw [List.map_append]; exact HO3, HS3, HL3⟩, hstep⟩
    · have HJn : Hid (fs.length = j ∧ j ≤ 5 ∧ j ≠ 0 ∧ q ≤ 1010) := by have h1 := HJ.out; have h2 := HF.out; have h3 := HQ.out; show _ ∧ _; omega
      obtain ⟨gf, rfl⟩ : ∃ gf, af = some ⟨gf, 0, none⟩ := by
        obtain ⟨-, ⟨h1, h2⟩ | ⟨g1, cap1, cur, h1, -⟩⟩ := HOw.out
        · have := HJn.out
          omega
        · cases h1
          exact ⟨g1, rfl⟩
      have HPk := hid (HSj.out.pick (by have := HQ.out; have := HJn.out; omega) 20 (by omega))
      have HM : Hid (rv + 1 < M) := HSj.out.lt.1
      have HNe : Hid (W.heap.size ≤ rv) := HSj.out.ne.1
      clear HKd HF HJ
      go_wp2_with fail
      refine (HFc.out _).mono ?_
      rintro e w1 ⟨rfl, rfl⟩
      go_wp2_with fail
      refine HPk.out.mono ?_
      rintro e W9 ⟨m9, rfl, h90, h91, hs9, ho9⟩
      have HS9 := hid hs9
      have HO9 := hid (own_only HOw.out ho9 HM.out)
      have HL9 : Hid (M ≤ W9.heap.size) := by show _ ≤ _; rw [ho9.size]; exact HLe.out
      clear hs9 ho9 HOw HSj HLe HPk HFc hjF h90 h91
      by_cases hm0 : m9 = 0
      · subst hm0
        have HR9 := hid (row_of_owns HJn.out.1 HO9.out)
        have HGf : Hid (M ≤ gf ∧ rv + 1 < M) := ⟨HR9.out.2, HM.out⟩
        have HNf : Hid (fs.length = j) := HJn.out.1
        have hb1 := (Below.refl W9.heap.size W9).alloc (Nat.le_refl _) (.cells #[.int .i64 0, .int .i64 9, .int .i64 15] 3)
        have S1 := hid (HS9.out.keep hb1)
        have R1 := hid (HR9.out.1.of_block (hb1.block _ HR9.out.1.lt))
        have cN : Hid (∀ k, k < 3 → (W9.alloc (.cells #[.int .i64 0, .int .i64 9, .int .i64 15] 3)).cell? ⟨W9.heap.size, k, none⟩ = some (.int .i64 ([0, 9, (15 : Int)].getD k 0))) := fun k hk => three_cell W9 _ _ _ hk
        have hnb : Hid (rv + 1 < W9.heap.size) := by have := HL9.out; have := HM.out; show _ < _; omega
        clear hb1 HS9 HR9 HO9
        go_wp2_with fail
        generalize W9.alloc (.cells #[.int .i64 0, .int .i64 9, .int .i64 15] 3) = X1 at *
        generalize W9.heap.size = nb at *
        refine (S1.out.pick (by have := HQ.out; have := HJn.out; omega) 3 (by omega)).mono ?_
        rintro e X2 ⟨m7, rfl, hi0, hi1, hs2, ho2⟩
        have S2 := hid hs2
        have R2 := hid (R1.out.of_block (ho2.block _ (by have := HGf.out; have := S1.out.lt; omega)))
        have HvX2 : Hid (HeapBlk X2 hv (.slice (some ⟨bw, 0, none⟩) L cp) h) := by have e := S2.out.hb; rw [HLL.out] at e; exact e
        obtain ⟨mk, rfl⟩ := Int.eq_ofNat_of_zero_le hi0
        have hmk : mk < 3 := by omega
        have cM : X2.cell? ⟨nb, mk, none⟩ = some (.int .i64 ([0, 9, (15 : Int)].getD mk 0)) := (World.cell?_of_block (a := ⟨nb, mk, none⟩) (ho2.block nb (by have := hnb.out; omega))).trans (cN.out mk hmk)
        clear hs2 ho2 HvX2
        obtain ⟨k2, hk2⟩ : ∃ x, [0, 9, (15 : Int)].getD mk 0 = x := ⟨_, rfl⟩
        rw [hk2] at cM
        clear hk2 cN S1 R1
        go_wp2_with fail
        clear cM hi0 hi1 hmk
        have hD : Below X2.heap.size X2 X2.drew := (Below.refl _ _).drew
        obtain ⟨D, hDe⟩ : ∃ D, X2.drew = D := ⟨_, rfl⟩
        rw [hDe] at hD
        have SD := hid (S2.out.keep hD)
        have RD := hid (R2.out.of_block (hD.block _ R2.out.lt))
        have HvD : Hid (HeapBlk D hv (.slice (some ⟨bw, 0, none⟩) L cp) h) := by have e := SD.out.hb; rw [HLL.out] at e; exact e
        refine pick_begin (S := fun w => HeapBlk w hv (.slice (some ⟨bw, 0, none⟩) L cp) h) (by kernel_rfl) rfl rfl ?_
        rw [hDe]
        clear hDe hD S2 R2
        have cS := HvD.out
        refine pick_op (i := 0) (v := .agg #[.slice (some ⟨bw, 0, none⟩) L cp, .int .i64 h.size, .int .i64 h.to, .int .i64 h.bottom, .int .i64 h.top, .int .i64 h.scan, .int .i64 h.fb, .int .i64 h.ft, .int .i64 h.flips, .int .i64 h.touched]) (by kernel_rfl) rfl (by kernel_rfl) (by kernel_rfl) rfl rfl (fun w' hw' => by obtain ⟨c0, c1, c2, c3, c4, c5, c6, c7, c8, c9⟩ := hw'.cells; simp [go_sem, c0, c1, c2, c3, c4, c5, c6, c7, c8, c9]) cS (by simp [go_sem]; exact rfl) ?_
        refine pick_op (i := 1) (v := .slice (some ⟨g, 0, none⟩) 4 gc) (by kernel_rfl) rfl (by kernel_rfl) (by kernel_rfl) rfl rfl (fun w' _ => by simp [go_sem]) cS (by simp [go_sem]; exact rfl) ?_
        refine pick_op (i := 2) (v := .int .i64 k2) (by kernel_rfl) rfl (by kernel_rfl) (by kernel_rfl) rfl rfl (fun w' _ => by simp [go_sem]) cS (by simp [go_sem]; exact rfl) ?_
        refine pick_op (i := 3) (v := .slice (some ⟨gf, 0, none⟩) j cf) (by kernel_rfl) rfl (by kernel_rfl) (by kernel_rfl) rfl rfl (fun w' _ => by simp [go_sem]) cS (by simp [go_sem]; exact rfl) ?_
        refine pick_op (i := 4) (v := .pointer (some ⟨rv + 1, 0, none⟩)) (by kernel_rfl) rfl (by kernel_rfl) (by kernel_rfl) rfl rfl (fun w' _ => by simp [go_sem]) cS (by simp [go_sem]; exact rfl) ?_
        refine pick_enter (i := 5) (f := 28) (args := #[.pointer (some ⟨rv + 1, 0, none⟩), .int .i64 4]) rfl (by kernel_rfl) rfl rfl (by simp [go_sem]) ?_
        refine (SD.out.pick (by have := HQ.out; have := HJn.out; omega) 4 (by omega)).mono ?_
        rintro e X9 ⟨mi, rfl, hi0, hi1, hs2, ho2⟩
        have S9 := hid hs2
        have R9 := hid (RD.out.of_block (ho2.block _ (by have := HGf.out; have := SD.out.lt; omega)))
        have HvX9 : Hid (HeapBlk X9 hv (.slice (some ⟨bw, 0, none⟩) L cp) h) := by have e := S9.out.hb; rw [HLL.out] at e; exact e
        clear hs2 ho2 cS
        refine ⟨_, rfl, HvX9.out, ?_⟩
        refine pick_frame (by simp [go_sem]; exact rfl) ?_
        obtain ⟨d0, d1, d2, d3, d4, d5, d6, d7, d8, d9⟩ := S9.out.rb.cells
        have z0 := frozen_of_heap S9.out.rb 0
        have z1 := frozen_of_heap S9.out.rb 1
        have z2 := frozen_of_heap S9.out.rb 2
        have z3 := frozen_of_heap S9.out.rb 3
        have z4 := frozen_of_heap S9.out.rb 4
        have z5 := frozen_of_heap S9.out.rb 5
        have z6 := frozen_of_heap S9.out.rb 6
        have z7 := frozen_of_heap S9.out.rb 7
        have z8 := frozen_of_heap S9.out.rb 8
        have z9 := frozen_of_heap S9.out.rb 9
        dsimp only at d0 d1 d2 d3 d4 d5 d6 d7 d8 d9
        have hT := heap_useT S9.out.rb (.slice (some ⟨bw, 0, none⟩) L cp) h (fun Z => HeapBlk Z rv (.slice (some ⟨bw, 0, none⟩) L cp) h ∧ (∀ B, B ≤ rv → Below B X9 Z) ∧ ∀ g, g ≠ rv → Z.heap[g]? = X9.heap[g]?) (fun Z a b c => ⟨a, b, c⟩)
        have HrvZ := hid hT.1
        have HrZ := hid (S9.out.hp.turned (b := rv) (by have := S9.out.ne; omega) (by have := S9.out.ne; omega) hT.2.2 (hT.2.1 W.heap.size (by have := S9.out.ne; omega)))
        have RZ := hid (R9.out.of_block (hT.2.2 _ (by have := HGf.out; have := S9.out.lt; omega)))
        have HvZ : Hid (HeapBlk _ hv (.slice (some ⟨bw, 0, none⟩) L cp) h) := (hT.2.2 hv (by have := S9.out.ne; omega)).trans HvX9.out
        refine pick_skip (i := 6) rfl (w1 := (((((((((((X9).setCell ⟨rv, 0, none⟩ (.slice (some ⟨bw, 0, none⟩) L cp)).setCell ⟨rv, 1, none⟩ (.int .i64 h.size)).setCell ⟨rv, 2, none⟩ (.int .i64 h.to)).setCell ⟨rv, 3, none⟩ (.int .i64 h.bottom)).setCell ⟨rv, 4, none⟩ (.int .i64 h.top)).setCell ⟨rv, 5, none⟩ (.int .i64 h.scan)).setCell ⟨rv, 6, none⟩ (.int .i64 h.fb)).setCell ⟨rv, 7, none⟩ (.int .i64 h.ft)).setCell ⟨rv, 8, none⟩ (.int .i64 h.flips)).setCell ⟨rv, 9, none⟩ (.int .i64 h.touched))) rfl (by kernel_rfl) rfl rfl (by simp [go_sem, d0, d1, d2, d3, d4, d5, d6, d7, d8, d9, z0, z1, z2, z3, z4, z5, z6, z7, z8, z9]) HvZ.out ?_
        clear d0 d1 d2 d3 d4 d5 d6 d7 d8 d9 z0 z1 z2 z3 z4 z5 z6 z7 z8 z9 hT
        generalize (((((((((((X9).setCell ⟨rv, 0, none⟩ (.slice (some ⟨bw, 0, none⟩) L cp)).setCell ⟨rv, 1, none⟩ (.int .i64 h.size)).setCell ⟨rv, 2, none⟩ (.int .i64 h.to)).setCell ⟨rv, 3, none⟩ (.int .i64 h.bottom)).setCell ⟨rv, 4, none⟩ (.int .i64 h.top)).setCell ⟨rv, 5, none⟩ (.int .i64 h.scan)).setCell ⟨rv, 6, none⟩ (.int .i64 h.fb)).setCell ⟨rv, 7, none⟩ (.int .i64 h.ft)).setCell ⟨rv, 8, none⟩ (.int .i64 h.flips)).setCell ⟨rv, 9, none⟩ (.int .i64 h.touched)) = Z at *
        refine pick_op (i := 7) (v := .slice (some ⟨g, 0, none⟩) 4 gc) (by kernel_rfl) rfl (by kernel_rfl) (by kernel_rfl) rfl rfl (fun w' _ => by simp [go_sem]) HvZ.out (by simp [go_sem]; exact rfl) ?_
        refine pick_op (i := 8) (v := .int .i64 k2) (by kernel_rfl) rfl (by kernel_rfl) (by kernel_rfl) rfl rfl (fun w' _ => by simp [go_sem]) HvZ.out (by simp [go_sem]; exact rfl) ?_
        refine pick_op (i := 9) (v := .slice (some ⟨gf, 0, none⟩) j cf) (by kernel_rfl) rfl (by kernel_rfl) (by kernel_rfl) rfl rfl (fun w' _ => by simp [go_sem]) HvZ.out (by simp [go_sem]; exact rfl) ?_
        refine pick_op (i := 10) (v := .int .i64 mi) (by kernel_rfl) rfl (by kernel_rfl) (by kernel_rfl) rfl rfl (fun w' _ => by simp [go_sem]) HvZ.out (by simp [go_sem]; exact rfl) ?_
        refine pick_end (by kernel_rfl) ?_
        obtain ⟨y0, y1, y2, y3, y4, y5, y6, y7, y8, y9⟩ := HrvZ.out.cells
        go_wp2_with fail
        exact bodyPost_ret (v := .tuple #[heapV (.slice (some ⟨bw, 0, none⟩) L cp) h, .slice (some ⟨g, 0, none⟩) 4 gc, .int .i64 k2, .slice (some ⟨gf, 0, none⟩) j cf, .int .i64 mi]) (by simp [results, Try.results7, go_sem, y0, y1, y2, y3, y4, y5, y6, y7, y8, y9, heapV]) rfl ⟨bw, cp, g, gc, gf, cf, ws, h, rs, fs, k2, mi, by rw [HLL.out, HNf.out], HrZ.out, ⟨_, _, by rw [HNf.out], Or.inr ⟨gf, rfl, by have := HGf.out; have := HNe.out; omega, by rw [HNf.out, Nat.mul_one]; exact RZ.out⟩⟩, HG4.out⟩
      by_cases hm1 : m9 = 1
      · subst hm1
        clear hm0
        obtain ⟨i0, hi, hz0, hz1, hz2⟩ := info_parts info_int
        go_wp2_with (first
          | (at_builtin; refine wpList_append_own _ rfl _ _ 23 rfl M 3 i0 (.int .i64 0) 1 8 Try.underlying23 hi hz0 hz1 hz2 rfl (by decide) _ _ _ rfl (World.ownsRow.alloc HO9.out _) ⟨W9.heap.size, 0, none⟩ 1 1 [.int .i64 1] rfl rfl (cell_one_new W9 1) (fun u hu => by simp at hu; subst hu; rfl) (by have := HJn.out; unfold maxLen; omega) (by have := HJn.out; omega) (by have := HL9.out; simp; omega) ?_
             intro v1 w3 hown3 hgrow3 _
             have HS3 := hid ((HS9.out.keep ((Below.refl _ _).alloc (Nat.le_refl _) _)).grown hgrow3 (fun k hk => (HO9.out.lt k hk).1))
             have HO3 := hid hown3
             clear hown3 hgrow3
             obtain ⟨av1, cv1, rfl⟩ := own_sl HO3.out))
        have HGv : Hid (∃ g1, av1 = some ⟨g1, 0, none⟩) := by
          obtain ⟨-, ⟨h1, h2⟩ | ⟨g1, cap1, cur, h1, -⟩⟩ := HO3.out
          · simp at h1
          · cases h1
            exact ⟨g1, rfl⟩
        obtain ⟨g1, rfl⟩ := HGv.out
        have HNf : Hid ((fs ++ [1]).length = j + 1) := by show _ = _; rw [List.length_append, HJn.out.1]; rfl
        have HR3 := hid (row_of_owns HNf.out (by have := HO3.out; rw [List.map_append]; exact this))
        have HGf : Hid (M ≤ g1 ∧ rv + 1 < M) := ⟨HR3.out.2, HM.out⟩
        have R3 := hid HR3.out.1
        clear HS9 HO9 HO3 HR3 HGv
        obtain ⟨j1, hj1⟩ : ∃ j1, j + 1 = j1 := ⟨_, rfl⟩
        rw [hj1] at HNf R3 ⊢
        clear hj1
        go_wp2_with fail
        have hD : Below w3.heap.size w3 w3.drew := (Below.refl _ _).drew
        obtain ⟨D, hDe⟩ : ∃ D, w3.drew = D := ⟨_, rfl⟩
        rw [hDe] at hD
        have SD := hid (HS3.out.keep hD)
        have RD := hid (R3.out.of_block (hD.block _ R3.out.lt))
        have HvD : Hid (HeapBlk D hv (.slice (some ⟨bw, 0, none⟩) L cp) h) := by have e := SD.out.hb; rw [HLL.out] at e; exact e
        refine pick_begin (S := fun w => HeapBlk w hv (.slice (some ⟨bw, 0, none⟩) L cp) h) (by kernel_rfl) rfl rfl ?_
        rw [hDe]
        clear hDe hD HS3 R3
        have cS := HvD.out
        refine pick_op (i := 0) (v := .agg #[.slice (some ⟨bw, 0, none⟩) L cp, .int .i64 h.size, .int .i64 h.to, .int .i64 h.bottom, .int .i64 h.top, .int .i64 h.scan, .int .i64 h.fb, .int .i64 h.ft, .int .i64 h.flips, .int .i64 h.touched]) (by kernel_rfl) rfl (by kernel_rfl) (by kernel_rfl) rfl rfl (fun w' hw' => by obtain ⟨c0, c1, c2, c3, c4, c5, c6, c7, c8, c9⟩ := hw'.cells; simp [go_sem, c0, c1, c2, c3, c4, c5, c6, c7, c8, c9]) cS (by simp [go_sem]; exact rfl) ?_
        refine pick_op (i := 1) (v := .slice (some ⟨g, 0, none⟩) 4 gc) (by kernel_rfl) rfl (by kernel_rfl) (by kernel_rfl) rfl rfl (fun w' _ => by simp [go_sem]) cS (by simp [go_sem]; exact rfl) ?_
        refine pick_op (i := 2) (v := .int .i64 kd) (by kernel_rfl) rfl (by kernel_rfl) (by kernel_rfl) rfl rfl (fun w' _ => by simp [go_sem]) cS (by simp [go_sem]; exact rfl) ?_
        refine pick_op (i := 3) (v := .slice (some ⟨g1, 0, none⟩) j1 cv1) (by kernel_rfl) rfl (by kernel_rfl) (by kernel_rfl) rfl rfl (fun w' _ => by simp [go_sem]) cS (by simp [go_sem]; exact rfl) ?_
        refine pick_op (i := 4) (v := .pointer (some ⟨rv + 1, 0, none⟩)) (by kernel_rfl) rfl (by kernel_rfl) (by kernel_rfl) rfl rfl (fun w' _ => by simp [go_sem]) cS (by simp [go_sem]; exact rfl) ?_
        refine pick_enter (i := 5) (f := 28) (args := #[.pointer (some ⟨rv + 1, 0, none⟩), .int .i64 4]) rfl (by kernel_rfl) rfl rfl (by simp [go_sem]) ?_
        refine (SD.out.pick (by have := HQ.out; have := HJn.out; omega) 4 (by omega)).mono ?_
        rintro e X9 ⟨mi, rfl, hi0, hi1, hs2, ho2⟩
        have S9 := hid hs2
        have R9 := hid (RD.out.of_block (ho2.block _ (by have := HGf.out; have := SD.out.lt; omega)))
        have HvX9 : Hid (HeapBlk X9 hv (.slice (some ⟨bw, 0, none⟩) L cp) h) := by have e := S9.out.hb; rw [HLL.out] at e; exact e
        clear hs2 ho2 cS
        refine ⟨_, rfl, HvX9.out, ?_⟩
        refine pick_frame (by simp [go_sem]; exact rfl) ?_
        obtain ⟨d0, d1, d2, d3, d4, d5, d6, d7, d8, d9⟩ := S9.out.rb.cells
        have z0 := frozen_of_heap S9.out.rb 0
        have z1 := frozen_of_heap S9.out.rb 1
        have z2 := frozen_of_heap S9.out.rb 2
        have z3 := frozen_of_heap S9.out.rb 3
        have z4 := frozen_of_heap S9.out.rb 4
        have z5 := frozen_of_heap S9.out.rb 5
        have z6 := frozen_of_heap S9.out.rb 6
        have z7 := frozen_of_heap S9.out.rb 7
        have z8 := frozen_of_heap S9.out.rb 8
        have z9 := frozen_of_heap S9.out.rb 9
        dsimp only at d0 d1 d2 d3 d4 d5 d6 d7 d8 d9
        have hT := heap_useT S9.out.rb (.slice (some ⟨bw, 0, none⟩) L cp) h (fun Z => HeapBlk Z rv (.slice (some ⟨bw, 0, none⟩) L cp) h ∧ (∀ B, B ≤ rv → Below B X9 Z) ∧ ∀ g, g ≠ rv → Z.heap[g]? = X9.heap[g]?) (fun Z a b c => ⟨a, b, c⟩)
        have HrvZ := hid hT.1
        have HrZ := hid (S9.out.hp.turned (b := rv) (by have := S9.out.ne; omega) (by have := S9.out.ne; omega) hT.2.2 (hT.2.1 W.heap.size (by have := S9.out.ne; omega)))
        have RZ := hid (R9.out.of_block (hT.2.2 _ (by have := HGf.out; have := S9.out.lt; omega)))
        have HvZ : Hid (HeapBlk _ hv (.slice (some ⟨bw, 0, none⟩) L cp) h) := (hT.2.2 hv (by have := S9.out.ne; omega)).trans HvX9.out
        refine pick_skip (i := 6) rfl (w1 := (((((((((((X9).setCell ⟨rv, 0, none⟩ (.slice (some ⟨bw, 0, none⟩) L cp)).setCell ⟨rv, 1, none⟩ (.int .i64 h.size)).setCell ⟨rv, 2, none⟩ (.int .i64 h.to)).setCell ⟨rv, 3, none⟩ (.int .i64 h.bottom)).setCell ⟨rv, 4, none⟩ (.int .i64 h.top)).setCell ⟨rv, 5, none⟩ (.int .i64 h.scan)).setCell ⟨rv, 6, none⟩ (.int .i64 h.fb)).setCell ⟨rv, 7, none⟩ (.int .i64 h.ft)).setCell ⟨rv, 8, none⟩ (.int .i64 h.flips)).setCell ⟨rv, 9, none⟩ (.int .i64 h.touched))) rfl (by kernel_rfl) rfl rfl (by simp [go_sem, d0, d1, d2, d3, d4, d5, d6, d7, d8, d9, z0, z1, z2, z3, z4, z5, z6, z7, z8, z9]) HvZ.out ?_
        clear d0 d1 d2 d3 d4 d5 d6 d7 d8 d9 z0 z1 z2 z3 z4 z5 z6 z7 z8 z9 hT
        generalize (((((((((((X9).setCell ⟨rv, 0, none⟩ (.slice (some ⟨bw, 0, none⟩) L cp)).setCell ⟨rv, 1, none⟩ (.int .i64 h.size)).setCell ⟨rv, 2, none⟩ (.int .i64 h.to)).setCell ⟨rv, 3, none⟩ (.int .i64 h.bottom)).setCell ⟨rv, 4, none⟩ (.int .i64 h.top)).setCell ⟨rv, 5, none⟩ (.int .i64 h.scan)).setCell ⟨rv, 6, none⟩ (.int .i64 h.fb)).setCell ⟨rv, 7, none⟩ (.int .i64 h.ft)).setCell ⟨rv, 8, none⟩ (.int .i64 h.flips)).setCell ⟨rv, 9, none⟩ (.int .i64 h.touched)) = Z at *
        refine pick_op (i := 7) (v := .slice (some ⟨g, 0, none⟩) 4 gc) (by kernel_rfl) rfl (by kernel_rfl) (by kernel_rfl) rfl rfl (fun w' _ => by simp [go_sem]) HvZ.out (by simp [go_sem]; exact rfl) ?_
        refine pick_op (i := 8) (v := .int .i64 kd) (by kernel_rfl) rfl (by kernel_rfl) (by kernel_rfl) rfl rfl (fun w' _ => by simp [go_sem]) HvZ.out (by simp [go_sem]; exact rfl) ?_
        refine pick_op (i := 9) (v := .slice (some ⟨g1, 0, none⟩) j1 cv1) (by kernel_rfl) rfl (by kernel_rfl) (by kernel_rfl) rfl rfl (fun w' _ => by simp [go_sem]) HvZ.out (by simp [go_sem]; exact rfl) ?_
        refine pick_op (i := 10) (v := .int .i64 mi) (by kernel_rfl) rfl (by kernel_rfl) (by kernel_rfl) rfl rfl (fun w' _ => by simp [go_sem]) HvZ.out (by simp [go_sem]; exact rfl) ?_
        refine pick_end (by kernel_rfl) ?_
        obtain ⟨y0, y1, y2, y3, y4, y5, y6, y7, y8, y9⟩ := HrvZ.out.cells
        go_wp2_with fail
        exact bodyPost_ret (v := .tuple #[heapV (.slice (some ⟨bw, 0, none⟩) L cp) h, .slice (some ⟨g, 0, none⟩) 4 gc, .int .i64 kd, .slice (some ⟨g1, 0, none⟩) j1 cv1, .int .i64 mi]) (by simp [results, Try.results7, go_sem, y0, y1, y2, y3, y4, y5, y6, y7, y8, y9, heapV]) rfl ⟨bw, cp, g, gc, g1, cv1, ws, h, rs, (fs ++ [1]), kd, mi, by rw [HLL.out, HNf.out], HrZ.out, ⟨_, _, by rw [HNf.out], Or.inr ⟨g1, rfl, by have := HGf.out; have := HNe.out; omega, by rw [HNf.out, Nat.mul_one]; exact RZ.out⟩⟩, HG4.out⟩
      have HR9 := hid (row_of_owns HJn.out.1 HO9.out)
      have HGf : Hid (M ≤ gf ∧ rv + 1 < M) := ⟨HR9.out.2, HM.out⟩
      have HNf : Hid (fs.length = j) := HJn.out.1
      have R3 := hid HR9.out.1
      clear HO9 HR9
      have hm0d : (m9 == 0) = false := by simpa using hm0
      have hm1d : (m9 == 1) = false := by simpa using hm1
      clear hm0 hm1
      by_cases hm2 : m9 = 2
      · subst hm2
        go_wp2_with fail
        have hD : Below W9.heap.size W9 W9.drew := (Below.refl _ _).drew
        obtain ⟨D, hDe⟩ : ∃ D, W9.drew = D := ⟨_, rfl⟩
        rw [hDe] at hD
        have SD := hid (HS9.out.keep hD)
        have RD := hid (R3.out.of_block (hD.block _ R3.out.lt))
        have HvD : Hid (HeapBlk D hv (.slice (some ⟨bw, 0, none⟩) L cp) h) := by have e := SD.out.hb; rw [HLL.out] at e; exact e
        refine pick_begin (S := fun w => HeapBlk w hv (.slice (some ⟨bw, 0, none⟩) L cp) h) (by kernel_rfl) rfl rfl ?_
        rw [hDe]
        clear hDe hD HS9 R3
        have cS := HvD.out
        refine pick_op (i := 0) (v := .agg #[.slice (some ⟨bw, 0, none⟩) L cp, .int .i64 h.size, .int .i64 h.to, .int .i64 h.bottom, .int .i64 h.top, .int .i64 h.scan, .int .i64 h.fb, .int .i64 h.ft, .int .i64 h.flips, .int .i64 h.touched]) (by kernel_rfl) rfl (by kernel_rfl) (by kernel_rfl) rfl rfl (fun w' hw' => by obtain ⟨c0, c1, c2, c3, c4, c5, c6, c7, c8, c9⟩ := hw'.cells; simp [go_sem, c0, c1, c2, c3, c4, c5, c6, c7, c8, c9]) cS (by simp [go_sem]; exact rfl) ?_
        refine pick_op (i := 1) (v := .slice (some ⟨g, 0, none⟩) 4 gc) (by kernel_rfl) rfl (by kernel_rfl) (by kernel_rfl) rfl rfl (fun w' _ => by simp [go_sem]) cS (by simp [go_sem]; exact rfl) ?_
        refine pick_op (i := 2) (v := .int .i64 kd) (by kernel_rfl) rfl (by kernel_rfl) (by kernel_rfl) rfl rfl (fun w' _ => by simp [go_sem]) cS (by simp [go_sem]; exact rfl) ?_
        refine pick_op (i := 3) (v := .slice (some ⟨gf, 0, none⟩) j cf) (by kernel_rfl) rfl (by kernel_rfl) (by kernel_rfl) rfl rfl (fun w' _ => by simp [go_sem]) cS (by simp [go_sem]; exact rfl) ?_
        refine pick_op (i := 5) (v := .pointer (some ⟨rv + 1, 0, none⟩)) (by kernel_rfl) rfl (by kernel_rfl) (by kernel_rfl) rfl rfl (fun w' _ => by simp [go_sem]) cS (by simp [go_sem]; exact rfl) ?_
        refine pick_either (i := 4) (j := 6) (by kernel_rfl) ?_ ?_
        · have hb1 := (Below.refl D.heap.size D).alloc (Nat.le_refl _) (.cells #[.int .i64 (-1), .int .i64 20, .int .i64 21] 3)
          have S1 := hid (SD.out.keep hb1)
          have R1 := hid (RD.out.of_block (hb1.block _ RD.out.lt))
          have cN : Hid (∀ k, k < 3 → (D.alloc (.cells #[.int .i64 (-1), .int .i64 20, .int .i64 21] 3)).cell? ⟨D.heap.size, k, none⟩ = some (.int .i64 ([-1, 20, (21 : Int)].getD k 0))) := fun k hk => three_cell D _ _ _ hk
          have hnb : Hid (rv + 1 < D.heap.size ∧ rv < D.heap.size) := by have := SD.out.lt; show _ ∧ _; omega
          have Hv1 := hid (HvD.out.below hb1)
          refine ⟨_, .slice (some ⟨D.heap.size, 0, none⟩) 3 3, D.alloc (.cells #[.int .i64 (-1), .int .i64 20, .int .i64 21] 3), rfl, rfl, by simp [go_sem], Hv1.out, ?_⟩
          clear hb1
          generalize D.alloc (.cells #[.int .i64 (-1), .int .i64 20, .int .i64 21] 3) = X1 at *
          generalize D.heap.size = nb at *
          refine pick_frame (by simp [go_sem]; exact rfl) ?_
          refine pick_enter (i := 6) (f := 28) (args := #[.pointer (some ⟨rv + 1, 0, none⟩), .int .i64 3]) rfl (by kernel_rfl) rfl rfl (by simp [go_sem]) ?_
          refine (S1.out.pick (by have := HQ.out; have := HJn.out; omega) 3 (by omega)).mono ?_
          rintro e X2 ⟨m7, rfl, hi0, hi1, hs2, ho2⟩
          have S2 := hid hs2
          have R2 := hid (R1.out.of_block (ho2.block _ (by have := HGf.out; have := S1.out.lt; omega)))
          have HvX2 : Hid (HeapBlk X2 hv (.slice (some ⟨bw, 0, none⟩) L cp) h) := by have e := S2.out.hb; rw [HLL.out] at e; exact e
          obtain ⟨mk, rfl⟩ := Int.eq_ofNat_of_zero_le hi0
          have hmk : mk < 3 := by omega
          have cM : X2.cell? ⟨nb, mk, none⟩ = some (.int .i64 ([-1, 20, (21 : Int)].getD mk 0)) := (World.cell?_of_block (a := ⟨nb, mk, none⟩) (ho2.block nb (by have := hnb.out; omega))).trans (cN.out mk hmk)
          clear hs2 ho2 cS
          refine ⟨_, rfl, HvX2.out, ?_⟩
          refine pick_frame (by simp [go_sem]; exact rfl) ?_
          obtain ⟨x, hx⟩ : ∃ x, [-1, 20, (21 : Int)].getD mk 0 = x := ⟨_, rfl⟩
          rw [hx] at cM
          clear hx
          refine pick_op (i := 7) (v := .pointer (some ⟨nb, mk, none⟩)) (by kernel_rfl) rfl (by kernel_rfl) (by kernel_rfl) rfl rfl (fun w' _ => by simp [go_sem, hi0, hi1]) HvX2.out (by simp [go_sem]; exact rfl) ?_
          refine pick_more (fun w => HeapBlk w hv (.slice (some ⟨bw, 0, none⟩) L cp) h ∧ w.cell? ⟨nb, mk, none⟩ = some (.int .i64 x)) (fun w hw => hw.1) ?_
          refine pick_op (i := 8) (v := .int .i64 x) (by kernel_rfl) rfl (by kernel_rfl) (by kernel_rfl) rfl rfl (fun w' hw' => by simp [go_sem, hw'.2]) ⟨HvX2.out, cM⟩ (by simp [go_sem]; exact rfl) ?_
          obtain ⟨d0, d1, d2, d3, d4, d5, d6, d7, d8, d9⟩ := S2.out.rb.cells
          have z0 := frozen_of_heap S2.out.rb 0
          have z1 := frozen_of_heap S2.out.rb 1
          have z2 := frozen_of_heap S2.out.rb 2
          have z3 := frozen_of_heap S2.out.rb 3
          have z4 := frozen_of_heap S2.out.rb 4
          have z5 := frozen_of_heap S2.out.rb 5
          have z6 := frozen_of_heap S2.out.rb 6
          have z7 := frozen_of_heap S2.out.rb 7
          have z8 := frozen_of_heap S2.out.rb 8
          have z9 := frozen_of_heap S2.out.rb 9
          dsimp only at d0 d1 d2 d3 d4 d5 d6 d7 d8 d9
          have hT := heap_useT S2.out.rb (.slice (some ⟨bw, 0, none⟩) L cp) h (fun Z => HeapBlk Z rv (.slice (some ⟨bw, 0, none⟩) L cp) h ∧ (∀ B, B ≤ rv → Below B X2 Z) ∧ ∀ g, g ≠ rv → Z.heap[g]? = X2.heap[g]?) (fun Z a b c => ⟨a, b, c⟩)
          have HrvZ := hid hT.1
          have HrZ := hid (S2.out.hp.turned (b := rv) (by have := S2.out.ne; omega) (by have := S2.out.ne; omega) hT.2.2 (hT.2.1 W.heap.size (by have := S2.out.ne; omega)))
          have RZ := hid (R2.out.of_block (hT.2.2 _ (by have := HGf.out; have := S2.out.lt; omega)))
          have HvZ : Hid (HeapBlk _ hv (.slice (some ⟨bw, 0, none⟩) L cp) h) := (hT.2.2 hv (by have := S2.out.ne; omega)).trans HvX2.out
          have cZ : (((((((((((X2).setCell ⟨rv, 0, none⟩ (.slice (some ⟨bw, 0, none⟩) L cp)).setCell ⟨rv, 1, none⟩ (.int .i64 h.size)).setCell ⟨rv, 2, none⟩ (.int .i64 h.to)).setCell ⟨rv, 3, none⟩ (.int .i64 h.bottom)).setCell ⟨rv, 4, none⟩ (.int .i64 h.top)).setCell ⟨rv, 5, none⟩ (.int .i64 h.scan)).setCell ⟨rv, 6, none⟩ (.int .i64 h.fb)).setCell ⟨rv, 7, none⟩ (.int .i64 h.ft)).setCell ⟨rv, 8, none⟩ (.int .i64 h.flips)).setCell ⟨rv, 9, none⟩ (.int .i64 h.touched)).cell? ⟨nb, mk, none⟩ = some (.int .i64 x) := (World.cell?_of_block (a := ⟨nb, mk, none⟩) (hT.2.2 nb (by have := hnb.out; omega))).trans cM
          refine pick_skip (i := 9) rfl (w1 := (((((((((((X2).setCell ⟨rv, 0, none⟩ (.slice (some ⟨bw, 0, none⟩) L cp)).setCell ⟨rv, 1, none⟩ (.int .i64 h.size)).setCell ⟨rv, 2, none⟩ (.int .i64 h.to)).setCell ⟨rv, 3, none⟩ (.int .i64 h.bottom)).setCell ⟨rv, 4, none⟩ (.int .i64 h.top)).setCell ⟨rv, 5, none⟩ (.int .i64 h.scan)).setCell ⟨rv, 6, none⟩ (.int .i64 h.fb)).setCell ⟨rv, 7, none⟩ (.int .i64 h.ft)).setCell ⟨rv, 8, none⟩ (.int .i64 h.flips)).setCell ⟨rv, 9, none⟩ (.int .i64 h.touched))) rfl (by kernel_rfl) rfl rfl (by simp [go_sem, d0, d1, d2, d3, d4, d5, d6, d7, d8, d9, z0, z1, z2, z3, z4, z5, z6, z7, z8, z9]) ⟨HvZ.out, cZ⟩ ?_
          clear d0 d1 d2 d3 d4 d5 d6 d7 d8 d9 z0 z1 z2 z3 z4 z5 z6 z7 z8 z9 hT
          generalize (((((((((((X2).setCell ⟨rv, 0, none⟩ (.slice (some ⟨bw, 0, none⟩) L cp)).setCell ⟨rv, 1, none⟩ (.int .i64 h.size)).setCell ⟨rv, 2, none⟩ (.int .i64 h.to)).setCell ⟨rv, 3, none⟩ (.int .i64 h.bottom)).setCell ⟨rv, 4, none⟩ (.int .i64 h.top)).setCell ⟨rv, 5, none⟩ (.int .i64 h.scan)).setCell ⟨rv, 6, none⟩ (.int .i64 h.fb)).setCell ⟨rv, 7, none⟩ (.int .i64 h.ft)).setCell ⟨rv, 8, none⟩ (.int .i64 h.flips)).setCell ⟨rv, 9, none⟩ (.int .i64 h.touched)) = Z at *
          refine pick_op (i := 10) (v := .slice (some ⟨g, 0, none⟩) 4 gc) (by kernel_rfl) rfl (by kernel_rfl) (by kernel_rfl) rfl rfl (fun w' _ => by simp [go_sem]) ⟨HvZ.out, cZ⟩ (by simp [go_sem]; exact rfl) ?_
          refine pick_op (i := 11) (v := .int .i64 kd) (by kernel_rfl) rfl (by kernel_rfl) (by kernel_rfl) rfl rfl (fun w' _ => by simp [go_sem]) ⟨HvZ.out, cZ⟩ (by simp [go_sem]; exact rfl) ?_
          refine pick_op (i := 12) (v := .slice (some ⟨gf, 0, none⟩) j cf) (by kernel_rfl) rfl (by kernel_rfl) (by kernel_rfl) rfl rfl (fun w' _ => by simp [go_sem]) ⟨HvZ.out, cZ⟩ (by simp [go_sem]; exact rfl) ?_
          refine pick_op (i := 13) (v := .int .i64 x) (by kernel_rfl) rfl (by kernel_rfl) (by kernel_rfl) rfl rfl (fun w' _ => by simp [go_sem]) ⟨HvZ.out, cZ⟩ (by simp [go_sem]; exact rfl) ?_
          clear cZ cM
          refine pick_end (by kernel_rfl) ?_
          obtain ⟨y0, y1, y2, y3, y4, y5, y6, y7, y8, y9⟩ := HrvZ.out.cells
          go_wp2_with fail
          exact bodyPost_ret (v := .tuple #[heapV (.slice (some ⟨bw, 0, none⟩) L cp) h, .slice (some ⟨g, 0, none⟩) 4 gc, .int .i64 kd, .slice (some ⟨gf, 0, none⟩) j cf, .int .i64 x]) (by simp [results, Try.results7, go_sem, y0, y1, y2, y3, y4, y5, y6, y7, y8, y9, heapV]) rfl ⟨bw, cp, g, gc, gf, cf, ws, h, rs, fs, kd, x, by rw [HLL.out, HNf.out], HrZ.out, ⟨_, _, by rw [HNf.out], Or.inr ⟨gf, rfl, by have := HGf.out; have := HNe.out; omega, by rw [HNf.out, Nat.mul_one]; exact RZ.out⟩⟩, HG4.out⟩
        · refine ⟨_, 28, #[.pointer (some ⟨rv + 1, 0, none⟩), .int .i64 3], rfl, rfl, by simp [go_sem], ?_⟩
          refine (SD.out.pick (by have := HQ.out; have := HJn.out; omega) 3 (by omega)).mono ?_
          rintro e X1 ⟨m7, rfl, hi0, hi1, hs2, ho2⟩
          have S1 := hid hs2
          have R1 := hid (RD.out.of_block (ho2.block _ (by have := HGf.out; have := SD.out.lt; omega)))
          have HvX1 : Hid (HeapBlk X1 hv (.slice (some ⟨bw, 0, none⟩) L cp) h) := by have e := S1.out.hb; rw [HLL.out] at e; exact e
          obtain ⟨mk, rfl⟩ := Int.eq_ofNat_of_zero_le hi0
          have hmk : mk < 3 := by omega
          clear hs2 ho2 cS
          refine ⟨_, rfl, HvX1.out, ?_⟩
          refine pick_frame (by simp [go_sem]; exact rfl) ?_
          refine pick_mkSk (i := 4) (j := 9) (by kernel_rfl) ?_ ?_
          · have hb1 := (Below.refl X1.heap.size X1).alloc (Nat.le_refl _) (.cells #[.int .i64 (-1), .int .i64 20, .int .i64 21] 3)
            have S2 := hid (S1.out.keep hb1)
            have R2 := hid (R1.out.of_block (hb1.block _ R1.out.lt))
            have HvX2 := hid (HvX1.out.below hb1)
            have cM := three_cell X1 (-1) 20 21 hmk
            have hnb : Hid (rv + 1 < X1.heap.size ∧ rv < X1.heap.size) := by have := S1.out.lt; show _ ∧ _; omega
            refine ⟨_, .slice (some ⟨X1.heap.size, 0, none⟩) 3 3, X1.alloc (.cells #[.int .i64 (-1), .int .i64 20, .int .i64 21] 3), rfl, rfl, by simp [go_sem], HvX2.out, ?_⟩
            clear hb1
            generalize X1.alloc (.cells #[.int .i64 (-1), .int .i64 20, .int .i64 21] 3) = X2 at *
            generalize X1.heap.size = nb at *
            refine pick_frame (by simp [go_sem]; exact rfl) ?_
            obtain ⟨x, hx⟩ : ∃ x, [-1, 20, (21 : Int)].getD mk 0 = x := ⟨_, rfl⟩
            rw [hx] at cM
            clear hx
            refine pick_op (i := 7) (v := .pointer (some ⟨nb, mk, none⟩)) (by kernel_rfl) rfl (by kernel_rfl) (by kernel_rfl) rfl rfl (fun w' _ => by simp [go_sem, hi0, hi1]) HvX2.out (by simp [go_sem]; exact rfl) ?_
            refine pick_more (fun w => HeapBlk w hv (.slice (some ⟨bw, 0, none⟩) L cp) h ∧ w.cell? ⟨nb, mk, none⟩ = some (.int .i64 x)) (fun w hw => hw.1) ?_
            refine pick_op (i := 8) (v := .int .i64 x) (by kernel_rfl) rfl (by kernel_rfl) (by kernel_rfl) rfl rfl (fun w' hw' => by simp [go_sem, hw'.2]) ⟨HvX2.out, cM⟩ (by simp [go_sem]; exact rfl) ?_
            obtain ⟨d0, d1, d2, d3, d4, d5, d6, d7, d8, d9⟩ := S2.out.rb.cells
            have z0 := frozen_of_heap S2.out.rb 0
            have z1 := frozen_of_heap S2.out.rb 1
            have z2 := frozen_of_heap S2.out.rb 2
            have z3 := frozen_of_heap S2.out.rb 3
            have z4 := frozen_of_heap S2.out.rb 4
            have z5 := frozen_of_heap S2.out.rb 5
            have z6 := frozen_of_heap S2.out.rb 6
            have z7 := frozen_of_heap S2.out.rb 7
            have z8 := frozen_of_heap S2.out.rb 8
            have z9 := frozen_of_heap S2.out.rb 9
            dsimp only at d0 d1 d2 d3 d4 d5 d6 d7 d8 d9
            have hT := heap_useT S2.out.rb (.slice (some ⟨bw, 0, none⟩) L cp) h (fun Z => HeapBlk Z rv (.slice (some ⟨bw, 0, none⟩) L cp) h ∧ (∀ B, B ≤ rv → Below B X2 Z) ∧ ∀ g, g ≠ rv → Z.heap[g]? = X2.heap[g]?) (fun Z a b c => ⟨a, b, c⟩)
            have HrvZ := hid hT.1
            have HrZ := hid (S2.out.hp.turned (b := rv) (by have := S2.out.ne; omega) (by have := S2.out.ne; omega) hT.2.2 (hT.2.1 W.heap.size (by have := S2.out.ne; omega)))
            have RZ := hid (R2.out.of_block (hT.2.2 _ (by have := HGf.out; have := S2.out.lt; omega)))
            have HvZ : Hid (HeapBlk _ hv (.slice (some ⟨bw, 0, none⟩) L cp) h) := (hT.2.2 hv (by have := S2.out.ne; omega)).trans HvX2.out
            have cZ : (((((((((((X2).setCell ⟨rv, 0, none⟩ (.slice (some ⟨bw, 0, none⟩) L cp)).setCell ⟨rv, 1, none⟩ (.int .i64 h.size)).setCell ⟨rv, 2, none⟩ (.int .i64 h.to)).setCell ⟨rv, 3, none⟩ (.int .i64 h.bottom)).setCell ⟨rv, 4, none⟩ (.int .i64 h.top)).setCell ⟨rv, 5, none⟩ (.int .i64 h.scan)).setCell ⟨rv, 6, none⟩ (.int .i64 h.fb)).setCell ⟨rv, 7, none⟩ (.int .i64 h.ft)).setCell ⟨rv, 8, none⟩ (.int .i64 h.flips)).setCell ⟨rv, 9, none⟩ (.int .i64 h.touched)).cell? ⟨nb, mk, none⟩ = some (.int .i64 x) := (World.cell?_of_block (a := ⟨nb, mk, none⟩) (hT.2.2 nb (by have := hnb.out; omega))).trans cM
            refine pick_skip (i := 9) rfl (w1 := (((((((((((X2).setCell ⟨rv, 0, none⟩ (.slice (some ⟨bw, 0, none⟩) L cp)).setCell ⟨rv, 1, none⟩ (.int .i64 h.size)).setCell ⟨rv, 2, none⟩ (.int .i64 h.to)).setCell ⟨rv, 3, none⟩ (.int .i64 h.bottom)).setCell ⟨rv, 4, none⟩ (.int .i64 h.top)).setCell ⟨rv, 5, none⟩ (.int .i64 h.scan)).setCell ⟨rv, 6, none⟩ (.int .i64 h.fb)).setCell ⟨rv, 7, none⟩ (.int .i64 h.ft)).setCell ⟨rv, 8, none⟩ (.int .i64 h.flips)).setCell ⟨rv, 9, none⟩ (.int .i64 h.touched))) rfl (by kernel_rfl) rfl rfl (by simp [go_sem, d0, d1, d2, d3, d4, d5, d6, d7, d8, d9, z0, z1, z2, z3, z4, z5, z6, z7, z8, z9]) ⟨HvZ.out, cZ⟩ ?_
            clear d0 d1 d2 d3 d4 d5 d6 d7 d8 d9 z0 z1 z2 z3 z4 z5 z6 z7 z8 z9 hT
            generalize (((((((((((X2).setCell ⟨rv, 0, none⟩ (.slice (some ⟨bw, 0, none⟩) L cp)).setCell ⟨rv, 1, none⟩ (.int .i64 h.size)).setCell ⟨rv, 2, none⟩ (.int .i64 h.to)).setCell ⟨rv, 3, none⟩ (.int .i64 h.bottom)).setCell ⟨rv, 4, none⟩ (.int .i64 h.top)).setCell ⟨rv, 5, none⟩ (.int .i64 h.scan)).setCell ⟨rv, 6, none⟩ (.int .i64 h.fb)).setCell ⟨rv, 7, none⟩ (.int .i64 h.ft)).setCell ⟨rv, 8, none⟩ (.int .i64 h.flips)).setCell ⟨rv, 9, none⟩ (.int .i64 h.touched)) = Z at *
            refine pick_op (i := 10) (v := .slice (some ⟨g, 0, none⟩) 4 gc) (by kernel_rfl) rfl (by kernel_rfl) (by kernel_rfl) rfl rfl (fun w' _ => by simp [go_sem]) ⟨HvZ.out, cZ⟩ (by simp [go_sem]; exact rfl) ?_
            refine pick_op (i := 11) (v := .int .i64 kd) (by kernel_rfl) rfl (by kernel_rfl) (by kernel_rfl) rfl rfl (fun w' _ => by simp [go_sem]) ⟨HvZ.out, cZ⟩ (by simp [go_sem]; exact rfl) ?_
            refine pick_op (i := 12) (v := .slice (some ⟨gf, 0, none⟩) j cf) (by kernel_rfl) rfl (by kernel_rfl) (by kernel_rfl) rfl rfl (fun w' _ => by simp [go_sem]) ⟨HvZ.out, cZ⟩ (by simp [go_sem]; exact rfl) ?_
            refine pick_op (i := 13) (v := .int .i64 x) (by kernel_rfl) rfl (by kernel_rfl) (by kernel_rfl) rfl rfl (fun w' _ => by simp [go_sem]) ⟨HvZ.out, cZ⟩ (by simp [go_sem]; exact rfl) ?_
            clear cZ cM
            refine pick_end (by kernel_rfl) ?_
            obtain ⟨y0, y1, y2, y3, y4, y5, y6, y7, y8, y9⟩ := HrvZ.out.cells
            go_wp2_with fail
            exact bodyPost_ret (v := .tuple #[heapV (.slice (some ⟨bw, 0, none⟩) L cp) h, .slice (some ⟨g, 0, none⟩) 4 gc, .int .i64 kd, .slice (some ⟨gf, 0, none⟩) j cf, .int .i64 x]) (by simp [results, Try.results7, go_sem, y0, y1, y2, y3, y4, y5, y6, y7, y8, y9, heapV]) rfl ⟨bw, cp, g, gc, gf, cf, ws, h, rs, fs, kd, x, by rw [HLL.out, HNf.out], HrZ.out, ⟨_, _, by rw [HNf.out], Or.inr ⟨gf, rfl, by have := HGf.out; have := HNe.out; omega, by rw [HNf.out, Nat.mul_one]; exact RZ.out⟩⟩, HG4.out⟩
          · obtain ⟨d0, d1, d2, d3, d4, d5, d6, d7, d8, d9⟩ := S1.out.rb.cells
            have z0 := frozen_of_heap S1.out.rb 0
            have z1 := frozen_of_heap S1.out.rb 1
            have z2 := frozen_of_heap S1.out.rb 2
            have z3 := frozen_of_heap S1.out.rb 3
            have z4 := frozen_of_heap S1.out.rb 4
            have z5 := frozen_of_heap S1.out.rb 5
            have z6 := frozen_of_heap S1.out.rb 6
            have z7 := frozen_of_heap S1.out.rb 7
            have z8 := frozen_of_heap S1.out.rb 8
            have z9 := frozen_of_heap S1.out.rb 9
            dsimp only at d0 d1 d2 d3 d4 d5 d6 d7 d8 d9
            have hT := heap_useT S1.out.rb (.slice (some ⟨bw, 0, none⟩) L cp) h (fun Z => HeapBlk Z rv (.slice (some ⟨bw, 0, none⟩) L cp) h ∧ (∀ B, B ≤ rv → Below B X1 Z) ∧ ∀ g, g ≠ rv → Z.heap[g]? = X1.heap[g]?) (fun Z a b c => ⟨a, b, c⟩)
            have HrvZ := hid hT.1
            have HrZ := hid (S1.out.hp.turned (b := rv) (by have := S1.out.ne; omega) (by have := S1.out.ne; omega) hT.2.2 (hT.2.1 W.heap.size (by have := S1.out.ne; omega)))
            have RZ := hid (R1.out.of_block (hT.2.2 _ (by have := HGf.out; have := S1.out.lt; omega)))
            have HvZ : Hid (HeapBlk _ hv (.slice (some ⟨bw, 0, none⟩) L cp) h) := (hT.2.2 hv (by have := S1.out.ne; omega)).trans HvX1.out
            refine ⟨_, (((((((((((X1).setCell ⟨rv, 0, none⟩ (.slice (some ⟨bw, 0, none⟩) L cp)).setCell ⟨rv, 1, none⟩ (.int .i64 h.size)).setCell ⟨rv, 2, none⟩ (.int .i64 h.to)).setCell ⟨rv, 3, none⟩ (.int .i64 h.bottom)).setCell ⟨rv, 4, none⟩ (.int .i64 h.top)).setCell ⟨rv, 5, none⟩ (.int .i64 h.scan)).setCell ⟨rv, 6, none⟩ (.int .i64 h.fb)).setCell ⟨rv, 7, none⟩ (.int .i64 h.ft)).setCell ⟨rv, 8, none⟩ (.int .i64 h.flips)).setCell ⟨rv, 9, none⟩ (.int .i64 h.touched)), rfl, rfl, rfl, by simp [go_sem, d0, d1, d2, d3, d4, d5, d6, d7, d8, d9, z0, z1, z2, z3, z4, z5, z6, z7, z8, z9], HvZ.out, ?_⟩
            clear d0 d1 d2 d3 d4 d5 d6 d7 d8 d9 z0 z1 z2 z3 z4 z5 z6 z7 z8 z9 hT
            generalize (((((((((((X1).setCell ⟨rv, 0, none⟩ (.slice (some ⟨bw, 0, none⟩) L cp)).setCell ⟨rv, 1, none⟩ (.int .i64 h.size)).setCell ⟨rv, 2, none⟩ (.int .i64 h.to)).setCell ⟨rv, 3, none⟩ (.int .i64 h.bottom)).setCell ⟨rv, 4, none⟩ (.int .i64 h.top)).setCell ⟨rv, 5, none⟩ (.int .i64 h.scan)).setCell ⟨rv, 6, none⟩ (.int .i64 h.fb)).setCell ⟨rv, 7, none⟩ (.int .i64 h.ft)).setCell ⟨rv, 8, none⟩ (.int .i64 h.flips)).setCell ⟨rv, 9, none⟩ (.int .i64 h.touched)) = Z at *
            refine pick_op (i := 10) (v := .slice (some ⟨g, 0, none⟩) 4 gc) (by kernel_rfl) rfl (by kernel_rfl) (by kernel_rfl) rfl rfl (fun w' _ => by simp [go_sem]) HvZ.out (by simp [go_sem]; exact rfl) ?_
            refine pick_op (i := 11) (v := .int .i64 kd) (by kernel_rfl) rfl (by kernel_rfl) (by kernel_rfl) rfl rfl (fun w' _ => by simp [go_sem]) HvZ.out (by simp [go_sem]; exact rfl) ?_
            refine pick_op (i := 12) (v := .slice (some ⟨gf, 0, none⟩) j cf) (by kernel_rfl) rfl (by kernel_rfl) (by kernel_rfl) rfl rfl (fun w' _ => by simp [go_sem]) HvZ.out (by simp [go_sem]; exact rfl) ?_
            have hb1 := (Below.refl Z.heap.size Z).alloc (Nat.le_refl _) (.cells #[.int .i64 (-1), .int .i64 20, .int .i64 21] 3)
            have HrvY := hid (HrvZ.out.below hb1)
            have HrY := hid (HrZ.out.keep hb1)
            have HvY := hid (HvZ.out.below hb1)
            have RY := hid (RZ.out.of_block (hb1.block _ RZ.out.lt))
            have cM := three_cell Z (-1) 20 21 hmk
            refine pick_make (i := 4) (v := .slice (some ⟨Z.heap.size, 0, none⟩) 3 3) (w1 := Z.alloc (.cells #[.int .i64 (-1), .int .i64 20, .int .i64 21] 3)) rfl (by kernel_rfl) rfl rfl (by simp [go_sem]) HvY.out (by simp [go_sem]; exact rfl) ?_
            clear hb1
            generalize Z.alloc (.cells #[.int .i64 (-1), .int .i64 20, .int .i64 21] 3) = Y at *
            generalize Z.heap.size = nb at *
            obtain ⟨x, hx⟩ : ∃ x, [-1, 20, (21 : Int)].getD mk 0 = x := ⟨_, rfl⟩
            rw [hx] at cM
            clear hx
            refine pick_op (i := 7) (v := .pointer (some ⟨nb, mk, none⟩)) (by kernel_rfl) rfl (by kernel_rfl) (by kernel_rfl) rfl rfl (fun w' _ => by simp [go_sem, hi0, hi1]) HvY.out (by simp [go_sem]; exact rfl) ?_
            refine pick_make (i := 8) (v := .int .i64 x) (w1 := Y) rfl (by kernel_rfl) rfl rfl (by simp [go_sem, cM]) HvY.out (by simp [go_sem]; exact rfl) ?_
            refine pick_op (i := 13) (v := .int .i64 x) (by kernel_rfl) rfl (by kernel_rfl) (by kernel_rfl) rfl rfl (fun w' _ => by simp [go_sem]) HvY.out (by simp [go_sem]; exact rfl) ?_
            clear cM
            refine pick_end (by kernel_rfl) ?_
            obtain ⟨y0, y1, y2, y3, y4, y5, y6, y7, y8, y9⟩ := HrvY.out.cells
            go_wp2_with fail
            exact bodyPost_ret (v := .tuple #[heapV (.slice (some ⟨bw, 0, none⟩) L cp) h, .slice (some ⟨g, 0, none⟩) 4 gc, .int .i64 kd, .slice (some ⟨gf, 0, none⟩) j cf, .int .i64 x]) (by simp [results, Try.results7, go_sem, y0, y1, y2, y3, y4, y5, y6, y7, y8, y9, heapV]) rfl ⟨bw, cp, g, gc, gf, cf, ws, h, rs, fs, kd, x, by rw [HLL.out, HNf.out], HrY.out, ⟨_, _, by rw [HNf.out], Or.inr ⟨gf, rfl, by have := HGf.out; have := HNe.out; omega, by rw [HNf.out, Nat.mul_one]; exact RY.out⟩⟩, HG4.out⟩
      have hm2d : (m9 == 2) = false := by simpa using hm2
      clear hm2
      go_wp2_with fail
      have hD : Below W9.heap.size W9 W9.drew := (Below.refl _ _).drew
      obtain ⟨D, hDe⟩ : ∃ D, W9.drew = D := ⟨_, rfl⟩
      rw [hDe] at hD
      have SD := hid (HS9.out.keep hD)
      have RD := hid (R3.out.of_block (hD.block _ R3.out.lt))
      have HvD : Hid (HeapBlk D hv (.slice (some ⟨bw, 0, none⟩) L cp) h) := by have e := SD.out.hb; rw [HLL.out] at e; exact e
      refine pick_begin (S := fun w => HeapBlk w hv (.slice (some ⟨bw, 0, none⟩) L cp) h) (by kernel_rfl) rfl rfl ?_
      rw [hDe]
      clear hDe hD HS9 R3
      have cS := HvD.out
      refine pick_op (i := 0) (v := .agg #[.slice (some ⟨bw, 0, none⟩) L cp, .int .i64 h.size, .int .i64 h.to, .int .i64 h.bottom, .int .i64 h.top, .int .i64 h.scan, .int .i64 h.fb, .int .i64 h.ft, .int .i64 h.flips, .int .i64 h.touched]) (by kernel_rfl) rfl (by kernel_rfl) (by kernel_rfl) rfl rfl (fun w' hw' => by obtain ⟨c0, c1, c2, c3, c4, c5, c6, c7, c8, c9⟩ := hw'.cells; simp [go_sem, c0, c1, c2, c3, c4, c5, c6, c7, c8, c9]) cS (by simp [go_sem]; exact rfl) ?_
      refine pick_op (i := 1) (v := .slice (some ⟨g, 0, none⟩) 4 gc) (by kernel_rfl) rfl (by kernel_rfl) (by kernel_rfl) rfl rfl (fun w' _ => by simp [go_sem]) cS (by simp [go_sem]; exact rfl) ?_
      refine pick_op (i := 2) (v := .int .i64 kd) (by kernel_rfl) rfl (by kernel_rfl) (by kernel_rfl) rfl rfl (fun w' _ => by simp [go_sem]) cS (by simp [go_sem]; exact rfl) ?_
      refine pick_op (i := 3) (v := .slice (some ⟨gf, 0, none⟩) j cf) (by kernel_rfl) rfl (by kernel_rfl) (by kernel_rfl) rfl rfl (fun w' _ => by simp [go_sem]) cS (by simp [go_sem]; exact rfl) ?_
      refine pick_op (i := 4) (v := .pointer (some ⟨rv + 1, 0, none⟩)) (by kernel_rfl) rfl (by kernel_rfl) (by kernel_rfl) rfl rfl (fun w' _ => by simp [go_sem]) cS (by simp [go_sem]; exact rfl) ?_
      refine pick_enter (i := 5) (f := 28) (args := #[.pointer (some ⟨rv + 1, 0, none⟩), .int .i64 4]) rfl (by kernel_rfl) rfl rfl (by simp [go_sem]) ?_
      refine (SD.out.pick (by have := HQ.out; have := HJn.out; omega) 4 (by omega)).mono ?_
      rintro e X9 ⟨mi, rfl, hi0, hi1, hs2, ho2⟩
      have S9 := hid hs2
      have R9 := hid (RD.out.of_block (ho2.block _ (by have := HGf.out; have := SD.out.lt; omega)))
      have HvX9 : Hid (HeapBlk X9 hv (.slice (some ⟨bw, 0, none⟩) L cp) h) := by have e := S9.out.hb; rw [HLL.out] at e; exact e
      clear hs2 ho2 cS
      refine ⟨_, rfl, HvX9.out, ?_⟩
      refine pick_frame (by simp [go_sem]; exact rfl) ?_
      obtain ⟨d0, d1, d2, d3, d4, d5, d6, d7, d8, d9⟩ := S9.out.rb.cells
      have z0 := frozen_of_heap S9.out.rb 0
      have z1 := frozen_of_heap S9.out.rb 1
      have z2 := frozen_of_heap S9.out.rb 2
      have z3 := frozen_of_heap S9.out.rb 3
      have z4 := frozen_of_heap S9.out.rb 4
      have z5 := frozen_of_heap S9.out.rb 5
      have z6 := frozen_of_heap S9.out.rb 6
      have z7 := frozen_of_heap S9.out.rb 7
      have z8 := frozen_of_heap S9.out.rb 8
      have z9 := frozen_of_heap S9.out.rb 9
      dsimp only at d0 d1 d2 d3 d4 d5 d6 d7 d8 d9
      have hT := heap_useT S9.out.rb (.slice (some ⟨bw, 0, none⟩) L cp) h (fun Z => HeapBlk Z rv (.slice (some ⟨bw, 0, none⟩) L cp) h ∧ (∀ B, B ≤ rv → Below B X9 Z) ∧ ∀ g, g ≠ rv → Z.heap[g]? = X9.heap[g]?) (fun Z a b c => ⟨a, b, c⟩)
      have HrvZ := hid hT.1
      have HrZ := hid (S9.out.hp.turned (b := rv) (by have := S9.out.ne; omega) (by have := S9.out.ne; omega) hT.2.2 (hT.2.1 W.heap.size (by have := S9.out.ne; omega)))
      have RZ := hid (R9.out.of_block (hT.2.2 _ (by have := HGf.out; have := S9.out.lt; omega)))
      have HvZ : Hid (HeapBlk _ hv (.slice (some ⟨bw, 0, none⟩) L cp) h) := (hT.2.2 hv (by have := S9.out.ne; omega)).trans HvX9.out
      refine pick_skip (i := 6) rfl (w1 := (((((((((((X9).setCell ⟨rv, 0, none⟩ (.slice (some ⟨bw, 0, none⟩) L cp)).setCell ⟨rv, 1, none⟩ (.int .i64 h.size)).setCell ⟨rv, 2, none⟩ (.int .i64 h.to)).setCell ⟨rv, 3, none⟩ (.int .i64 h.bottom)).setCell ⟨rv, 4, none⟩ (.int .i64 h.top)).setCell ⟨rv, 5, none⟩ (.int .i64 h.scan)).setCell ⟨rv, 6, none⟩ (.int .i64 h.fb)).setCell ⟨rv, 7, none⟩ (.int .i64 h.ft)).setCell ⟨rv, 8, none⟩ (.int .i64 h.flips)).setCell ⟨rv, 9, none⟩ (.int .i64 h.touched))) rfl (by kernel_rfl) rfl rfl (by simp [go_sem, d0, d1, d2, d3, d4, d5, d6, d7, d8, d9, z0, z1, z2, z3, z4, z5, z6, z7, z8, z9]) HvZ.out ?_
      clear d0 d1 d2 d3 d4 d5 d6 d7 d8 d9 z0 z1 z2 z3 z4 z5 z6 z7 z8 z9 hT
      generalize (((((((((((X9).setCell ⟨rv, 0, none⟩ (.slice (some ⟨bw, 0, none⟩) L cp)).setCell ⟨rv, 1, none⟩ (.int .i64 h.size)).setCell ⟨rv, 2, none⟩ (.int .i64 h.to)).setCell ⟨rv, 3, none⟩ (.int .i64 h.bottom)).setCell ⟨rv, 4, none⟩ (.int .i64 h.top)).setCell ⟨rv, 5, none⟩ (.int .i64 h.scan)).setCell ⟨rv, 6, none⟩ (.int .i64 h.fb)).setCell ⟨rv, 7, none⟩ (.int .i64 h.ft)).setCell ⟨rv, 8, none⟩ (.int .i64 h.flips)).setCell ⟨rv, 9, none⟩ (.int .i64 h.touched)) = Z at *
      refine pick_op (i := 7) (v := .slice (some ⟨g, 0, none⟩) 4 gc) (by kernel_rfl) rfl (by kernel_rfl) (by kernel_rfl) rfl rfl (fun w' _ => by simp [go_sem]) HvZ.out (by simp [go_sem]; exact rfl) ?_
      refine pick_op (i := 8) (v := .int .i64 kd) (by kernel_rfl) rfl (by kernel_rfl) (by kernel_rfl) rfl rfl (fun w' _ => by simp [go_sem]) HvZ.out (by simp [go_sem]; exact rfl) ?_
      refine pick_op (i := 9) (v := .slice (some ⟨gf, 0, none⟩) j cf) (by kernel_rfl) rfl (by kernel_rfl) (by kernel_rfl) rfl rfl (fun w' _ => by simp [go_sem]) HvZ.out (by simp [go_sem]; exact rfl) ?_
      refine pick_op (i := 10) (v := .int .i64 mi) (by kernel_rfl) rfl (by kernel_rfl) (by kernel_rfl) rfl rfl (fun w' _ => by simp [go_sem]) HvZ.out (by simp [go_sem]; exact rfl) ?_
      refine pick_end (by kernel_rfl) ?_
      obtain ⟨y0, y1, y2, y3, y4, y5, y6, y7, y8, y9⟩ := HrvZ.out.cells
      go_wp2_with fail
      exact bodyPost_ret (v := .tuple #[heapV (.slice (some ⟨bw, 0, none⟩) L cp) h, .slice (some ⟨g, 0, none⟩) 4 gc, .int .i64 kd, .slice (some ⟨gf, 0, none⟩) j cf, .int .i64 mi]) (by simp [results, Try.results7, go_sem, y0, y1, y2, y3, y4, y5, y6, y7, y8, y9, heapV]) rfl ⟨bw, cp, g, gc, gf, cf, ws, h, rs, fs, kd, mi, by rw [HLL.out, HNf.out], HrZ.out, ⟨_, _, by rw [HNf.out], Or.inr ⟨gf, rfl, by have := HGf.out; have := HNe.out; omega, by rw [HNf.out, Nat.mul_one]; exact RZ.out⟩⟩, HG4.out⟩
end Go.Proofs.Ytebpgglegnljgaa

namespace Go.Proofs.Ytebpgglegnljgaa
open Go.RowKit

structure GraphG (bs xs : List Int) (h : HpN) (K : Nat) : Prop where
  ends : Ends bs xs K
  ylen : (tellsRun bs xs xs.length []).2.length = xs.length
  olen : (graphRun bs K (tellsRun bs xs xs.length []).1).2.length ≤ 8000
  flen : ∀ i, i < (graphRun bs K (tellsRun bs xs xs.length []).1).2.length → (fieldsOf (graphRun bs K (tellsRun bs xs xs.length []).1).2 i).length ≤ 5
  calls : ∀ B g cp B2 rg rc W, bs.length ≤ cp → SliceR 3 1 B W (.slice (some ⟨g, 0, none⟩) bs.length cp) bs.length (intCells bs) → SliceR 3 1 B2 W (.slice (some ⟨rg, 0, none⟩) xs.length rc) xs.length (intCells xs) → Calls Try.prog 8 #[heapV (.slice (some ⟨g, 0, none⟩) bs.length cp) h, .slice (some ⟨rg, 0, none⟩) xs.length rc] W (ToldGI W (graphRun bs K (tellsRun bs xs xs.length []).1).2 (tellsRun bs xs xs.length []).2 true)

theorem graph_good {bs S xs : List Int} {h : HpN} (ok : OkHeap bs S h) (hro : ∀ i, i < xs.length → wordOkZ S h (xs.getD i 0) = true) (hn : xs.length ≤ 20) : ∃ K, GraphG bs xs h K := by
  have ho := ok.ord
  obtain ⟨o1, o2, o3, o4, o5, o6, o7, o8, o9, o10, o11, o12, o13⟩ := id ho
  have hN0 : bs.length ≠ 0 := by omega
  have hN8 : bs.length ≤ 8000 := by omega
  have hki : implOk bs h = true := by rw [← ok_same ho]; exact ok_spec ok
  have hrr : implRoots S h xs = true := by
    unfold implRoots
    rw [List.all_eq_true]
    exact fun k hk => hro k (List.mem_range.1 hk)
  have ILg : ∀ B g cp W, bs.length ≤ cp → SliceR 3 1 B W (.slice (some ⟨g, 0, none⟩) bs.length cp) bs.length (intCells bs) → ∀ X, Below W.heap.size W X → Calls Try.prog 30 #[heapV (.slice (some ⟨g, 0, none⟩) bs.length cp) h] X fun e w' => ∃ gb, e = .returned (.tuple #[layV (.slice (some ⟨g, 0, none⟩) bs.length cp) h (.slice (some ⟨gb, 0, none⟩) bs.length bs.length), .bool true]) ∧ Hid (ISt g 0 gb bs.length bs S w') ∧ Below X.heap.size X w' := fun B g cp W hcp hs X hX => (layOut_calls g 0 cp bs.length bs h X rfl ho hcp (row_atC hN0 hs hX).1 (row_atC hN0 hs hX).2).mono (by
    rintro e w' ⟨hres, hb'⟩
    rcases hres with ⟨e1, _⟩ | ⟨S', gb, e1, _, e2, _, e3⟩
    · rw [hki] at e1
      cases e1
    · rw [ok.impl] at e1
      cases e1
      exact ⟨gb, e2, e3, hb'⟩)
  have IRt : ∀ g cp B2 rg rc W, SliceR 3 1 B2 W (.slice (some ⟨rg, 0, none⟩) xs.length rc) xs.length (intCells xs) → ∀ (X : World) (gb : Nat), Below W.heap.size W X → ISt g 0 gb bs.length bs S X → Calls Try.prog 31 #[layV (.slice (some ⟨g, 0, none⟩) bs.length cp) h (.slice (some ⟨gb, 0, none⟩) bs.length bs.length), .slice (some ⟨rg, 0, none⟩) xs.length rc] X fun e w' => e = .returned (.bool true) ∧ Below X.heap.size X w' := fun g cp B2 rg rc W hr X gb hX hI => by
    have e := rootsOk_calls (some ⟨rg, 0, none⟩) rc g 0 cp gb bs.length bs S h xs X ho hI (hr.below hX).intSlice (by omega)
    rw [hrr, decide_eq_true hn] at e
    exact e
  have hle : ∀ i, i < xs.length → Leads bs S (xs.getD i 0) := fun i hi => leads_of (by have := hro i hi; rw [used_same ok] at this; exact this)
  obtain ⟨K, hK⟩ := ends_some ok hle
  have ht := Met.tells ok (met := []) ⟨List.nodup_nil, fun a ha => by cases ha⟩ hle xs.length (Nat.le_refl _)
  have hyl := ht.2.2
  have hg := ht.1.graph ok K hK.1
  have hKN : (graphRun bs K (tellsRun bs xs xs.length []).1).2.length ≤ 8000 := by
    rw [hg.2.2]
    by_cases h0 : K = 0
    · omega
    · have h1 := hK.1 (K - 1) (by omega)
      have h2 := (ht.1.graph ok (K - 1) (fun j hj => hK.1 j (by omega))).1.short ok
      omega
  refine ⟨K, hK, hyl, hKN, fun i hi => graph_small ok ht.1 K hK.1 i (by rw [hg.2.2] at hi; exact hi), fun B g cp B2 rg rc W hcp hs hr => ?_⟩
  have HW : Wds g 0 bs.length bs W := ⟨rfl, (row_atC hN0 hs (Below.refl _ _)).1, (row_atC hN0 hs (Below.refl _ _)).2⟩
  have HLs : ListAt rg 0 xs W := ⟨fun h0 => (row_atC (by omega) hr (Below.refl _ _)).1, fun k hk => (row_atC (by omega) hr (Below.refl _ _)).2 k hk⟩
  exact (iGraph_good g 0 cp bs.length h rg xs.length rc W bs S xs ok HW hN8 hcp HLs rfl hn hle (ILg B g cp W hcp hs) (IRt g cp B2 rg rc W hr)).mono (fun _ _ => toldGI_some hK hyl)

theorem ok_good {bs S : List Int} {h : HpN} (ok : OkHeap bs S h) (B g cp : Nat) (W : World) (hcp : bs.length ≤ cp) (hs : SliceR 3 1 B W (.slice (some ⟨g, 0, none⟩) bs.length cp) bs.length (intCells bs)) : Calls Try.prog 15 #[heapV (.slice (some ⟨g, 0, none⟩) bs.length cp) h] W fun e w' => e = .returned (.bool true) ∧ Below W.heap.size W w' := by
  refine iOk_calls (fun w hb => ?_)
  have ho := ok.ord
  have h0 : bs.length ≠ 0 := by obtain ⟨o1, o2, o3, _⟩ := ho; omega
  have hki : implOk bs h = true := by rw [← ok_same ho]; exact ok_spec ok
  refine (layOut_calls g 0 cp bs.length bs h w rfl ho hcp (row_atC h0 hs hb).1 (row_atC h0 hs hb).2).mono ?_
  rintro e w' ⟨hres, hb'⟩
  refine ⟨?_, hb'⟩
  rcases hres with ⟨e1, rfl⟩ | ⟨S, gb, _, e1, rfl, _⟩
  · rw [hki] at e1
    cases e1
  · exact ⟨_, _, _, _, _, _, _, rfl⟩
end Go.Proofs.Ytebpgglegnljgaa
