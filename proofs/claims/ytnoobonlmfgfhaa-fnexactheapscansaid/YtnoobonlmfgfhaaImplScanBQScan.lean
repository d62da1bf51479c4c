/- The program's HeapScan. -/
import Derived.Test.YtnoobonlmfgfhaaSpecScanBQScan
import Derived.Test.YtnoobonlmfgfhaaImplHeapF
namespace Go.Proofs.Ytnoobonlmfgfhaa
open Go.RowKit

set_option maxRecDepth 100000 in
theorem iOk_calls {v : Value} {h : HpN} {W : World} {R : Bool} (H : ∀ w, Below W.heap.size W w → Calls Try.prog 40 #[heapV v h] w fun e w' => (∃ (a a' : Option Addr) (n c n' c' : Nat) (h' : HpN), e = .returned (.tuple #[layV (.slice a n c) h' (.slice a' n' c'), .bool R])) ∧ Below w.heap.size w w') :
    Calls Try.prog 12 #[heapV v h] W fun e w' => e = .returned (.bool R) ∧ Below W.heap.size W w' := by
  have HH := hid H
  clear H
  obtain ⟨g1, g2, g3, g4, g5, g6, g7, g8, g9⟩ := h
  unfold heapV at *
  dsimp only at *
  go_enter Try.func12, Try.ntmps12
  go_wp2_with fail
  have k0 := (Below.refl W.heap.size W).alloc (Nat.le_refl _) (.cells #[v, .int .i64 g1, .int .i64 g2, .int .i64 g3, .int .i64 g4, .int .i64 g5, .int .i64 g6, .int .i64 g7, .int .i64 g8, .int .i64 g9] 27)
  refine (HH.out _ k0).mono ?_
  rintro e W1 ⟨⟨a, a', n, c, n', c', ⟨i1, i2, i3, i4, i5, i6, i7, i8, i9⟩, rfl⟩, hb⟩
  unfold layV
  dsimp only
  have HB := hid (k0.trans (hb.mono k0.size))
  clear hb k0 HH
  go_wp2_with fail
  go_ret
  exact ⟨rfl, HB.out.alloc HB.out.size _⟩

set_option maxHeartbeats 8000000 in
set_option maxRecDepth 100000 in
theorem iScan_below (b off cap N : Nat) (h : HpN) (x : Int) (w : World)
    (hx : x < 0) :
    Calls Try.prog 25 #[heapV (.slice (some ⟨b, off, none⟩) N cap) h, .int .i64 x] w fun e w' => e = .returned (.tuple #[noHeap, .bool false]) ∧ Below w.heap.size w w' := by
  obtain ⟨g1, g2, g3, g4, g5, g6, g7, g8, g9⟩ := h
  unfold heapV at *
  dsimp only at *
  obtain ⟨W0, hW0, hA, hR, k2⟩ := both_new w (.slice (some ⟨b, off, none⟩) N cap) ⟨g1, g2, g3, g4, g5, g6, g7, g8, g9⟩
  dsimp only at hW0
  have HB6 := hid k2
  have HR6 := hid hR
  clear hA hR k2
  obtain ⟨c0, c1, c2, c3, c4, c5, c6, c7, c8, c9⟩ := HR6.out.cells
  dsimp only at c0 c1 c2 c3 c4 c5 c6 c7 c8 c9
  have z0 := frozen_of_heap HR6.out 0
  have z1 := frozen_of_heap HR6.out 1
  have z2 := frozen_of_heap HR6.out 2
  have z3 := frozen_of_heap HR6.out 3
  have z4 := frozen_of_heap HR6.out 4
  have z5 := frozen_of_heap HR6.out 5
  have z6 := frozen_of_heap HR6.out 6
  have z7 := frozen_of_heap HR6.out 7
  have z8 := frozen_of_heap HR6.out 8
  have z9 := frozen_of_heap HR6.out 9
  go_enter Try.func25, Try.ntmps25
  go_wp2_with fail
  refine heap_use HR6.out (.slice none 0 0) ⟨0, 0, 0, 0, 0, 0, 0, 0, 0⟩ _ ?_
  intro W7 hL hb7 _ _
  obtain ⟨y0, y1, y2, y3, y4, y5, y6, y7, y8, y9⟩ := hL.cells
  dsimp only at y0 y1 y2 y3 y4 y5 y6 y7 y8 y9
  exact bodyPost_ret (v := .tuple #[noHeap, .bool false]) (by simp [results, Try.results25, go_sem, y0, y1, y2, y3, y4, y5, y6, y7, y8, y9, noHeap, heapV]) rfl ⟨rfl, HB6.out.trans (hb7 _ (Nat.le_succ _))⟩

set_option maxHeartbeats 8000000 in
set_option maxRecDepth 100000 in
theorem iScan_above (b off cap N : Nat) (h : HpN) (x : Int) (w : World)
    (hx : 4000 < x) (hd : decide (x < 0) = false) :
    Calls Try.prog 25 #[heapV (.slice (some ⟨b, off, none⟩) N cap) h, .int .i64 x] w fun e w' => e = .returned (.tuple #[noHeap, .bool false]) ∧ Below w.heap.size w w' := by
  obtain ⟨g1, g2, g3, g4, g5, g6, g7, g8, g9⟩ := h
  unfold heapV at *
  dsimp only at *
  obtain ⟨W0, hW0, hA, hR, k2⟩ := both_new w (.slice (some ⟨b, off, none⟩) N cap) ⟨g1, g2, g3, g4, g5, g6, g7, g8, g9⟩
  dsimp only at hW0
  have HB6 := hid k2
  have HR6 := hid hR
  clear hA hR k2
  obtain ⟨c0, c1, c2, c3, c4, c5, c6, c7, c8, c9⟩ := HR6.out.cells
  dsimp only at c0 c1 c2 c3 c4 c5 c6 c7 c8 c9
  have z0 := frozen_of_heap HR6.out 0
  have z1 := frozen_of_heap HR6.out 1
  have z2 := frozen_of_heap HR6.out 2
  have z3 := frozen_of_heap HR6.out 3
  have z4 := frozen_of_heap HR6.out 4
  have z5 := frozen_of_heap HR6.out 5
  have z6 := frozen_of_heap HR6.out 6
  have z7 := frozen_of_heap HR6.out 7
  have z8 := frozen_of_heap HR6.out 8
  have z9 := frozen_of_heap HR6.out 9
  go_enter Try.func25, Try.ntmps25
  go_wp2_with fail
  refine heap_use HR6.out (.slice none 0 0) ⟨0, 0, 0, 0, 0, 0, 0, 0, 0⟩ _ ?_
  intro W7 hL hb7 _ _
  obtain ⟨y0, y1, y2, y3, y4, y5, y6, y7, y8, y9⟩ := hL.cells
  dsimp only at y0 y1 y2 y3 y4 y5 y6 y7 y8 y9
  exact bodyPost_ret (v := .tuple #[noHeap, .bool false]) (by simp [results, Try.results25, go_sem, y0, y1, y2, y3, y4, y5, y6, y7, y8, y9, noHeap, heapV]) rfl ⟨rfl, HB6.out.trans (hb7 _ (Nat.le_succ _))⟩

set_option maxHeartbeats 8000000 in
set_option maxRecDepth 100000 in
theorem iScan_notOk (b off cap N : Nat) (h : HpN) (x : Int) (w : World)
    (hd : decide (x < 0) = false) (hd2 : decide (4000 < x) = false)
    (HOk : Hid (∀ X, Below w.heap.size w X → Calls Try.prog 12 #[heapV (.slice (some ⟨b, off, none⟩) N cap) h] X fun e w' => e = .returned (.bool false) ∧ Below X.heap.size X w')) :
    Calls Try.prog 25 #[heapV (.slice (some ⟨b, off, none⟩) N cap) h, .int .i64 x] w fun e w' => e = .returned (.tuple #[noHeap, .bool false]) ∧ Below w.heap.size w w' := by
  obtain ⟨g1, g2, g3, g4, g5, g6, g7, g8, g9⟩ := h
  unfold heapV at *
  dsimp only at *
  obtain ⟨W0, hW0, hA, hR, k2⟩ := both_new w (.slice (some ⟨b, off, none⟩) N cap) ⟨g1, g2, g3, g4, g5, g6, g7, g8, g9⟩
  dsimp only at hW0
  have HW0 := hid hW0
  clear hW0
  go_enter Try.func25, Try.ntmps25
  go_wp2_with fail
  rw [HW0.out]
  have hlt := heap_lt hA
  obtain ⟨v0, v1, v2, v3, v4, v5, v6, v7, v8, v9⟩ := hA.later (B := W0.heap.size) hlt
  dsimp only at v0 v1 v2 v3 v4 v5 v6 v7 v8 v9
  have HA := hid hA
  have HR := hid hR
  have HK2 := hid k2
  clear hA hR k2 HW0
  have KB : Hid (∀ X : Later W0.heap.size W0, Below w.heap.size w X.w ∧ w.heap.size ≤ X.w.heap.size) := fun X => by
    have k := HK2.out.trans (X.h.mono HK2.out.size)
    exact ⟨k, k.size⟩
  clear v0 v1 v2 v3 v4 v5 v6 v7 v8 v9
  refine (HOk.out _ HK2.out).mono ?_
  rintro e W6 ⟨rfl, hb6⟩
  have HB6 := hid (HK2.out.trans (hb6.mono HK2.out.size))
  have HR6 := hid (HR.out.below hb6)
  have HA6 := hid (HA.out.below hb6)
  clear hb6
  obtain ⟨c0, c1, c2, c3, c4, c5, c6, c7, c8, c9⟩ := HR6.out.cells
  dsimp only at c0 c1 c2 c3 c4 c5 c6 c7 c8 c9
  have z0 := frozen_of_heap HR6.out 0
  have z1 := frozen_of_heap HR6.out 1
  have z2 := frozen_of_heap HR6.out 2
  have z3 := frozen_of_heap HR6.out 3
  have z4 := frozen_of_heap HR6.out 4
  have z5 := frozen_of_heap HR6.out 5
  have z6 := frozen_of_heap HR6.out 6
  have z7 := frozen_of_heap HR6.out 7
  have z8 := frozen_of_heap HR6.out 8
  have z9 := frozen_of_heap HR6.out 9
  go_wp2_with fail
  refine heap_use HR6.out (.slice none 0 0) ⟨0, 0, 0, 0, 0, 0, 0, 0, 0⟩ _ ?_
  intro W7 hL hb7 _ _
  obtain ⟨y0, y1, y2, y3, y4, y5, y6, y7, y8, y9⟩ := hL.cells
  dsimp only at y0 y1 y2 y3 y4 y5 y6 y7 y8 y9
  exact bodyPost_ret (v := .tuple #[noHeap, .bool false]) (by simp [results, Try.results25, go_sem, y0, y1, y2, y3, y4, y5, y6, y7, y8, y9, noHeap, heapV]) rfl ⟨rfl, HB6.out.trans (hb7 _ (Nat.le_succ _))⟩

set_option maxHeartbeats 8000000 in
set_option maxRecDepth 100000 in
theorem iScan_good (b off cap N : Nat) (h : HpN) (x : Int) (w : World)
    (hd : decide (x < 0) = false) (hd2 : decide (4000 < x) = false) (s0 : CN) (o : Option CN)
    (HOk : Hid (∀ X, Below w.heap.size w X → Calls Try.prog 12 #[heapV (.slice (some ⟨b, off, none⟩) N cap) h] X fun e w' => e = .returned (.bool true) ∧ Below X.heap.size X w'))
    (HOp : Hid (∀ X, Below w.heap.size w X → Calls Try.prog 48 #[heapV (.slice (some ⟨b, off, none⟩) N cap) h] X fun e w' => ∃ bc bw cap' : Nat, e = .returned (.pointer (some ⟨bc, 0, none⟩)) ∧ ColAt X bc bw N cap' s0 w' ∧ X.heap.size ≤ bc ∧ X.heap.size ≤ bw))
    (HLk : Hid (∀ (X w0 : World) (bc bw cap' : Nat), ColAt w0 bc bw N cap' s0 X → Calls Try.prog 57 #[.pointer (some ⟨bc, 0, none⟩), .int .i64 x] X (LookPost w0 bc bw N cap' o)))
    (HTd : Hid (∀ (s1 : CN) (X w0 : World) (bc bw cap' : Nat), o = some s1 → ColAt w0 bc bw N cap' s1 X → Calls Try.prog 51 #[.pointer (some ⟨bc, 0, none⟩)] X fun e w' => e = .returned (heapV (.slice (some ⟨bw, 0, none⟩) N cap') { s1.h with touched := touchZ s1 }) ∧ Below X.heap.size X w')) :
    Calls Try.prog 25 #[heapV (.slice (some ⟨b, off, none⟩) N cap) h, .int .i64 x] w (ScanTold N w o) := by
  obtain ⟨g1, g2, g3, g4, g5, g6, g7, g8, g9⟩ := h
  unfold heapV at *
  dsimp only at *
  obtain ⟨W0, hW0, hA, hR, k2⟩ := both_new w (.slice (some ⟨b, off, none⟩) N cap) ⟨g1, g2, g3, g4, g5, g6, g7, g8, g9⟩
  dsimp only at hW0
  have HW0 := hid hW0
  clear hW0
  go_enter Try.func25, Try.ntmps25
  go_wp2_with fail
  rw [HW0.out]
  have hlt := heap_lt hA
  obtain ⟨v0, v1, v2, v3, v4, v5, v6, v7, v8, v9⟩ := hA.later (B := W0.heap.size) hlt
  dsimp only at v0 v1 v2 v3 v4 v5 v6 v7 v8 v9
  have HA := hid hA
  have HR := hid hR
  have HK2 := hid k2
  clear hA hR k2 HW0
  have KB : Hid (∀ X : Later W0.heap.size W0, Below w.heap.size w X.w ∧ w.heap.size ≤ X.w.heap.size) := fun X => by
    have k := HK2.out.trans (X.h.mono HK2.out.size)
    exact ⟨k, k.size⟩
  clear v0 v1 v2 v3 v4 v5 v6 v7 v8 v9
  refine (HOk.out _ HK2.out).mono ?_
  rintro e W6 ⟨rfl, hb6⟩
  have HB6 := hid (HK2.out.trans (hb6.mono HK2.out.size))
  have HR6 := hid (HR.out.below hb6)
  have HA6 := hid (HA.out.below hb6)
  clear hb6
  obtain ⟨c0, c1, c2, c3, c4, c5, c6, c7, c8, c9⟩ := HA6.out.cells
  dsimp only at c0 c1 c2 c3 c4 c5 c6 c7 c8 c9
  go_wp2_with fail
  refine (HOp.out _ HB6.out).mono ?_
  rintro e W7 ⟨bc, bw, cap', rfl, hW7, hlo, hlo2⟩
  have HW7 := hid hW7
  have hlt6 := heap_lt HR6.out
  clear hW7 HOp HA6 c0 c1 c2 c3 c4 c5 c6 c7 c8 c9
  have HLk' := hid (HLk.out _ _ _ _ _ HW7.out)
  clear HLk HW7
  go_wp2_with fail
  cases o with
  | none =>
    refine HLk'.out.mono ?_
    rintro e W8 ⟨rfl, s1, hC8⟩
    have HB8 := hid (HB6.out.trans ((Col.frame hC8).below hlo hlo2 |>.mono HB6.out.size))
    have HR8 := hid (HR6.out.below ((Col.frame hC8).below hlo hlo2))
    clear hC8 HR6 HB6 HTd HLk'
    obtain ⟨c0, c1, c2, c3, c4, c5, c6, c7, c8, c9⟩ := HR8.out.cells
    dsimp only at c0 c1 c2 c3 c4 c5 c6 c7 c8 c9
    have z0 := frozen_of_heap HR8.out 0
    have z1 := frozen_of_heap HR8.out 1
    have z2 := frozen_of_heap HR8.out 2
    have z3 := frozen_of_heap HR8.out 3
    have z4 := frozen_of_heap HR8.out 4
    have z5 := frozen_of_heap HR8.out 5
    have z6 := frozen_of_heap HR8.out 6
    have z7 := frozen_of_heap HR8.out 7
    have z8 := frozen_of_heap HR8.out 8
    have z9 := frozen_of_heap HR8.out 9
    go_wp2_with fail
    refine heap_use HR8.out (.slice none 0 0) ⟨0, 0, 0, 0, 0, 0, 0, 0, 0⟩ _ ?_
    intro W7 hL hb7 _ _
    obtain ⟨y0, y1, y2, y3, y4, y5, y6, y7, y8, y9⟩ := hL.cells
    dsimp only at y0 y1 y2 y3 y4 y5 y6 y7 y8 y9
    exact bodyPost_ret (v := .tuple #[noHeap, .bool false]) (by simp [results, Try.results25, go_sem, y0, y1, y2, y3, y4, y5, y6, y7, y8, y9, noHeap, heapV]) rfl ⟨rfl, HB8.out.trans (hb7 _ (Nat.le_succ _))⟩
  | some s1 =>
    refine HLk'.out.mono ?_
    rintro e W8 ⟨rfl, hC8⟩
    have HW8 := hid hC8
    have HTd' := hid (HTd.out s1 W8 W6 bc bw cap' rfl HW8.out)
    clear hC8 HLk' HTd
    obtain ⟨i9, hi9⟩ : ∃ i9, touchZ s1 = i9 := ⟨_, rfl⟩
    have HI9 := hid hi9
    rw [hi9] at HTd'
    clear hi9
    go_wp2_with fail
    refine HTd'.out.mono ?_
    rintro e W9 ⟨rfl, hb9⟩
    have HW9 := hid (Col.keep HW8.out hb9)
    have HR9 := hid (HR6.out.below (HW9.out.frame.below hlo hlo2))
    have HB9 := hid (HB6.out.trans ((HW9.out.frame.below hlo hlo2).mono HB6.out.size))
    obtain ⟨c0, c1, c2, c3, c4, c5, c6, c7, c8, c9⟩ := HR9.out.cells
    dsimp only at c0 c1 c2 c3 c4 c5 c6 c7 c8 c9
    have z0 := frozen_of_heap HR9.out 0
    have z1 := frozen_of_heap HR9.out 1
    have z2 := frozen_of_heap HR9.out 2
    have z3 := frozen_of_heap HR9.out 3
    have z4 := frozen_of_heap HR9.out 4
    have z5 := frozen_of_heap HR9.out 5
    have z6 := frozen_of_heap HR9.out 6
    have z7 := frozen_of_heap HR9.out 7
    have z8 := frozen_of_heap HR9.out 8
    have z9 := frozen_of_heap HR9.out 9
    clear hb9 HTd' HW8 HR6 HB6
    go_wp2_with fail
    refine heap_use HR9.out (.slice (some ⟨bw, 0, none⟩) N cap') ⟨s1.h.size, s1.h.to, s1.h.bottom, s1.h.top, s1.h.scan, s1.h.fb, s1.h.ft, s1.h.flips, i9⟩ _ ?_
    intro W10 hL hb10 _ hoth
    obtain ⟨y0, y1, y2, y3, y4, y5, y6, y7, y8, y9⟩ := hL.cells
    dsimp only at y0 y1 y2 y3 y4 y5 y6 y7 y8 y9
    refine bodyPost_ret (v := .tuple #[heapV (.slice (some ⟨bw, 0, none⟩) N cap') ⟨s1.h.size, s1.h.to, s1.h.bottom, s1.h.top, s1.h.scan, s1.h.fb, s1.h.ft, s1.h.flips, i9⟩, .bool true]) (by simp [results, Try.results25, go_sem, y0, y1, y2, y3, y4, y5, y6, y7, y8, y9, heapV]) rfl ?_
    exact ⟨bw, cap', by rw [HI9.out], HW9.out.row.of_block (hoth _ (by omega)), by have := HB9.out.size; omega, HB9.out.trans (hb10 _ (Nat.le_succ _))⟩

end Go.Proofs.Ytnoobonlmfgfhaa
