/- The specification's HeapScan. -/
import Derived.Test.YtnoobonlmfgfhaaGHeapScan1
import Derived.Test.YtnoobonlmfgfhaaSpecWkFQScan
namespace Go.Proofs.Ytnoobonlmfgfhaa
open Go.RowKit

/-- A heap is told. -/
def HeapTold (N : Nat) (w : World) (ws : List Int) (h1 : HpN) (e : Ending) (w' : World) : Prop :=
  ∃ bw cap' : Nat, e = .returned (.tuple #[heapV (.slice (some ⟨bw, 0, none⟩) N cap') h1, .bool true]) ∧ CellRow 3 w' bw N (intCells ws) ∧ w.heap.size ≤ bw ∧ Below w.heap.size w w'

/-- What looking through so many objects of a heap comes to. -/
def ScanTold (N : Nat) (w : World) (o : Option CN) (e : Ending) (w' : World) : Prop :=
  match o with
  | some s => HeapTold N w s.ws { s.h with touched := touchZ s } e w'
  | none => e = .returned (.tuple #[noHeap, .bool false]) ∧ Below w.heap.size w w'

set_option maxHeartbeats 8000000 in
set_option maxRecDepth 100000 in
theorem sScan_notOk (b off cap N : Nat) (h : HpN) (x : Int) (w : World)
    (HOk : Hid (∀ X, Below w.heap.size w X → Calls Try.prog 10 #[heapV (.slice (some ⟨b, off, none⟩) N cap) h] X fun e w' => e = .returned (.bool false) ∧ Below X.heap.size X w')) :
    Calls Try.prog 24 #[heapV (.slice (some ⟨b, off, none⟩) N cap) h, .int .i64 x] w fun e w' => e = .returned (.tuple #[noHeap, .bool false]) ∧ Below w.heap.size w w' := by
  obtain ⟨g1, g2, g3, g4, g5, g6, g7, g8, g9⟩ := h
  unfold heapV at *
  dsimp only at *
  obtain ⟨W0, hW0, hA, hR, k2⟩ := both_new w (.slice (some ⟨b, off, none⟩) N cap) ⟨g1, g2, g3, g4, g5, g6, g7, g8, g9⟩
  dsimp only at hW0
  have HW0 := hid hW0
  clear hW0
  go_enter Try.func24, Try.ntmps24
  go_wp2_with fail
  rw [HW0.out]
  have hlt := heap_lt hA
  obtain ⟨v0, v1, v2, v3, v4, v5, v6, v7, v8, v9⟩ := hA.later (B := W0.heap.size) hlt
  dsimp only at v0 v1 v2 v3 v4 v5 v6 v7 v8 v9
  have HA := hid hA
  have HR := hid hR
  have HK2 := hid k2
  clear hA hR k2 HW0
  have KB : Hid (∀ X : Later W0.heap.size W0, Below w.heap.size w X.w ∧ w.heap.size ≤ X.w.heap.size) := fun X => by
    have k := HK2.out.trans (X.h.mono HK2.out.size)
    exact ⟨k, k.size⟩
  clear v0 v1 v2 v3 v4 v5 v6 v7 v8 v9
  refine (HOk.out _ HK2.out).mono ?_
  rintro e W6 ⟨rfl, hb6⟩
  have HB6 := hid (HK2.out.trans (hb6.mono HK2.out.size))
  have HR6 := hid (HR.out.below hb6)
  have HA6 := hid (HA.out.below hb6)
  clear hb6
  obtain ⟨c0, c1, c2, c3, c4, c5, c6, c7, c8, c9⟩ := HR6.out.cells
  dsimp only at c0 c1 c2 c3 c4 c5 c6 c7 c8 c9
  have z0 := frozen_of_heap HR6.out 0
  have z1 := frozen_of_heap HR6.out 1
  have z2 := frozen_of_heap HR6.out 2
  have z3 := frozen_of_heap HR6.out 3
  have z4 := frozen_of_heap HR6.out 4
  have z5 := frozen_of_heap HR6.out 5
  have z6 := frozen_of_heap HR6.out 6
  have z7 := frozen_of_heap HR6.out 7
  have z8 := frozen_of_heap HR6.out 8
  have z9 := frozen_of_heap HR6.out 9
  go_wp2_with fail
  refine heap_use HR6.out (.slice none 0 0) ⟨0, 0, 0, 0, 0, 0, 0, 0, 0⟩ _ ?_
  intro W7 hL hb7 _ _
  obtain ⟨y0, y1, y2, y3, y4, y5, y6, y7, y8, y9⟩ := hL.cells
  dsimp only at y0 y1 y2 y3 y4 y5 y6 y7 y8 y9
  exact bodyPost_ret (v := .tuple #[noHeap, .bool false]) (by simp [results, Try.results24, go_sem, y0, y1, y2, y3, y4, y5, y6, y7, y8, y9, noHeap, heapV]) rfl ⟨rfl, HB6.out.trans (hb7 _ (Nat.le_succ _))⟩

set_option maxHeartbeats 8000000 in
set_option maxRecDepth 100000 in
theorem sScan_below (b off cap N : Nat) (h : HpN) (x : Int) (w : World)
    (hx : x < 0)
    (HOk : Hid (∀ X, Below w.heap.size w X → Calls Try.prog 10 #[heapV (.slice (some ⟨b, off, none⟩) N cap) h] X fun e w' => e = .returned (.bool true) ∧ Below X.heap.size X w')) :
    Calls Try.prog 24 #[heapV (.slice (some ⟨b, off, none⟩) N cap) h, .int .i64 x] w fun e w' => e = .returned (.tuple #[noHeap, .bool false]) ∧ Below w.heap.size w w' := by
  obtain ⟨g1, g2, g3, g4, g5, g6, g7, g8, g9⟩ := h
  unfold heapV at *
  dsimp only at *
  obtain ⟨W0, hW0, hA, hR, k2⟩ := both_new w (.slice (some ⟨b, off, none⟩) N cap) ⟨g1, g2, g3, g4, g5, g6, g7, g8, g9⟩
  dsimp only at hW0
  have HW0 := hid hW0
  clear hW0
  go_enter Try.func24, Try.ntmps24
  go_wp2_with fail
  rw [HW0.out]
  have hlt := heap_lt hA
  obtain ⟨v0, v1, v2, v3, v4, v5, v6, v7, v8, v9⟩ := hA.later (B := W0.heap.size) hlt
  dsimp only at v0 v1 v2 v3 v4 v5 v6 v7 v8 v9
  have HA := hid hA
  have HR := hid hR
  have HK2 := hid k2
  clear hA hR k2 HW0
  have KB : Hid (∀ X : Later W0.heap.size W0, Below w.heap.size w X.w ∧ w.heap.size ≤ X.w.heap.size) := fun X => by
    have k := HK2.out.trans (X.h.mono HK2.out.size)
    exact ⟨k, k.size⟩
  clear v0 v1 v2 v3 v4 v5 v6 v7 v8 v9
  refine (HOk.out _ HK2.out).mono ?_
  rintro e W6 ⟨rfl, hb6⟩
  have HB6 := hid (HK2.out.trans (hb6.mono HK2.out.size))
  have HR6 := hid (HR.out.below hb6)
  have HA6 := hid (HA.out.below hb6)
  clear hb6
  obtain ⟨c0, c1, c2, c3, c4, c5, c6, c7, c8, c9⟩ := HR6.out.cells
  dsimp only at c0 c1 c2 c3 c4 c5 c6 c7 c8 c9
  have z0 := frozen_of_heap HR6.out 0
  have z1 := frozen_of_heap HR6.out 1
  have z2 := frozen_of_heap HR6.out 2
  have z3 := frozen_of_heap HR6.out 3
  have z4 := frozen_of_heap HR6.out 4
  have z5 := frozen_of_heap HR6.out 5
  have z6 := frozen_of_heap HR6.out 6
  have z7 := frozen_of_heap HR6.out 7
  have z8 := frozen_of_heap HR6.out 8
  have z9 := frozen_of_heap HR6.out 9
  go_wp2_with fail
  refine heap_use HR6.out (.slice none 0 0) ⟨0, 0, 0, 0, 0, 0, 0, 0, 0⟩ _ ?_
  intro W7 hL hb7 _ _
  obtain ⟨y0, y1, y2, y3, y4, y5, y6, y7, y8, y9⟩ := hL.cells
  dsimp only at y0 y1 y2 y3 y4 y5 y6 y7 y8 y9
  exact bodyPost_ret (v := .tuple #[noHeap, .bool false]) (by simp [results, Try.results24, go_sem, y0, y1, y2, y3, y4, y5, y6, y7, y8, y9, noHeap, heapV]) rfl ⟨rfl, HB6.out.trans (hb7 _ (Nat.le_succ _))⟩

set_option maxHeartbeats 8000000 in
set_option maxRecDepth 100000 in
theorem sScan_above (b off cap N : Nat) (h : HpN) (x : Int) (w : World)
    (hx : 4000 < x) (hd : decide (x < 0) = false)
    (HOk : Hid (∀ X, Below w.heap.size w X → Calls Try.prog 10 #[heapV (.slice (some ⟨b, off, none⟩) N cap) h] X fun e w' => e = .returned (.bool true) ∧ Below X.heap.size X w')) :
    Calls Try.prog 24 #[heapV (.slice (some ⟨b, off, none⟩) N cap) h, .int .i64 x] w fun e w' => e = .returned (.tuple #[noHeap, .bool false]) ∧ Below w.heap.size w w' := by
  obtain ⟨g1, g2, g3, g4, g5, g6, g7, g8, g9⟩ := h
  unfold heapV at *
  dsimp only at *
  obtain ⟨W0, hW0, hA, hR, k2⟩ := both_new w (.slice (some ⟨b, off, none⟩) N cap) ⟨g1, g2, g3, g4, g5, g6, g7, g8, g9⟩
  dsimp only at hW0
  have HW0 := hid hW0
  clear hW0
  go_enter Try.func24, Try.ntmps24
  go_wp2_with fail
  rw [HW0.out]
  have hlt := heap_lt hA
  obtain ⟨v0, v1, v2, v3, v4, v5, v6, v7, v8, v9⟩ := hA.later (B := W0.heap.size) hlt
  dsimp only at v0 v1 v2 v3 v4 v5 v6 v7 v8 v9
  have HA := hid hA
  have HR := hid hR
  have HK2 := hid k2
  clear hA hR k2 HW0
  have KB : Hid (∀ X : Later W0.heap.size W0, Below w.heap.size w X.w ∧ w.heap.size ≤ X.w.heap.size) := fun X => by
    have k := HK2.out.trans (X.h.mono HK2.out.size)
    exact ⟨k, k.size⟩
  clear v0 v1 v2 v3 v4 v5 v6 v7 v8 v9
  refine (HOk.out _ HK2.out).mono ?_
  rintro e W6 ⟨rfl, hb6⟩
  have HB6 := hid (HK2.out.trans (hb6.mono HK2.out.size))
  have HR6 := hid (HR.out.below hb6)
  have HA6 := hid (HA.out.below hb6)
  clear hb6
  obtain ⟨c0, c1, c2, c3, c4, c5, c6, c7, c8, c9⟩ := HR6.out.cells
  dsimp only at c0 c1 c2 c3 c4 c5 c6 c7 c8 c9
  have z0 := frozen_of_heap HR6.out 0
  have z1 := frozen_of_heap HR6.out 1
  have z2 := frozen_of_heap HR6.out 2
  have z3 := frozen_of_heap HR6.out 3
  have z4 := frozen_of_heap HR6.out 4
  have z5 := frozen_of_heap HR6.out 5
  have z6 := frozen_of_heap HR6.out 6
  have z7 := frozen_of_heap HR6.out 7
  have z8 := frozen_of_heap HR6.out 8
  have z9 := frozen_of_heap HR6.out 9
  go_wp2_with fail
  refine heap_use HR6.out (.slice none 0 0) ⟨0, 0, 0, 0, 0, 0, 0, 0, 0⟩ _ ?_
  intro W7 hL hb7 _ _
  obtain ⟨y0, y1, y2, y3, y4, y5, y6, y7, y8, y9⟩ := hL.cells
  dsimp only at y0 y1 y2 y3 y4 y5 y6 y7 y8 y9
  exact bodyPost_ret (v := .tuple #[noHeap, .bool false]) (by simp [results, Try.results24, go_sem, y0, y1, y2, y3, y4, y5, y6, y7, y8, y9, noHeap, heapV]) rfl ⟨rfl, HB6.out.trans (hb7 _ (Nat.le_succ _))⟩

set_option maxHeartbeats 8000000 in
set_option maxRecDepth 100000 in
theorem sScan_good (b off cap N : Nat) (h : HpN) (x : Int) (w : World)
    (n : Nat) (hn : x = n) (hn4 : n ≤ 4000) (hd : decide (x < 0) = false) (hd2 : decide (4000 < x) = false) (s0 : CN)
    (HOk : Hid (∀ X, Below w.heap.size w X → Calls Try.prog 10 #[heapV (.slice (some ⟨b, off, none⟩) N cap) h] X fun e w' => e = .returned (.bool true) ∧ Below X.heap.size X w'))
    (HOp : Hid (∀ X, Below w.heap.size w X → Calls Try.prog 43 #[heapV (.slice (some ⟨b, off, none⟩) N cap) h] X fun e w' => ∃ bm bw cap' : Nat, e = .returned (.pointer (some ⟨bm, 0, none⟩)) ∧ Wk X bm bw N cap' s0 false w' ∧ X.heap.size ≤ bm ∧ X.heap.size ≤ bw))
    (HSn : Hid (∀ (q : Nat) (s' : CN) (X w0 : World) (bm bw cap' : Nat), scanRun q s0 = some s' → Wk w0 bm bw N cap' s' false X → Calls Try.prog 56 #[.pointer (some ⟨bm, 0, none⟩)] X (ScanPost w0 bm bw N cap' (scanOne s')))) :
    Calls Try.prog 24 #[heapV (.slice (some ⟨b, off, none⟩) N cap) h, .int .i64 x] w (ScanTold N w (scanRun n s0)) := by
  obtain ⟨R, hR⟩ : ∃ R, scanRun n s0 = R := ⟨_, rfl⟩
  rw [hR]
  have HR0 := hid hR
  have HN := hid hn
  have HN4 := hid hn4
  clear hR hn hn4
  obtain ⟨g1, g2, g3, g4, g5, g6, g7, g8, g9⟩ := h
  unfold heapV at *
  dsimp only at *
  obtain ⟨W0, hW0, hA, hR, k2⟩ := both_new w (.slice (some ⟨b, off, none⟩) N cap) ⟨g1, g2, g3, g4, g5, g6, g7, g8, g9⟩
  dsimp only at hW0
  have HW0 := hid hW0
  clear hW0
  go_enter Try.func24, Try.ntmps24
  go_wp2_with fail
  rw [HW0.out]
  have hlt := heap_lt hA
  obtain ⟨v0, v1, v2, v3, v4, v5, v6, v7, v8, v9⟩ := hA.later (B := W0.heap.size) hlt
  dsimp only at v0 v1 v2 v3 v4 v5 v6 v7 v8 v9
  have HA := hid hA
  have HR := hid hR
  have HK2 := hid k2
  clear hA hR k2 HW0
  have KB : Hid (∀ X : Later W0.heap.size W0, Below w.heap.size w X.w ∧ w.heap.size ≤ X.w.heap.size) := fun X => by
    have k := HK2.out.trans (X.h.mono HK2.out.size)
    exact ⟨k, k.size⟩
  clear v0 v1 v2 v3 v4 v5 v6 v7 v8 v9
  refine (HOk.out _ HK2.out).mono ?_
  rintro e W6 ⟨rfl, hb6⟩
  have HB6 := hid (HK2.out.trans (hb6.mono HK2.out.size))
  have HR6 := hid (HR.out.below hb6)
  have HA6 := hid (HA.out.below hb6)
  clear hb6
  obtain ⟨c0, c1, c2, c3, c4, c5, c6, c7, c8, c9⟩ := HA6.out.cells
  dsimp only at c0 c1 c2 c3 c4 c5 c6 c7 c8 c9
  go_wp2_with fail
  refine (HOp.out _ HB6.out).mono ?_
  rintro e W7 ⟨bm, bw, cap', rfl, hW7, hlo, hlo2⟩
  have HW7 := hid hW7
  have hlt6 := heap_lt HR6.out
  clear hW7 HOp HA6 c0 c1 c2 c3 c4 c5 c6 c7 c8 c9
  go_wp2_with fail
  go_loopw [7] (fun i wr => ∃ (ii : Int) (q : Nat), i = .int .i64 ii ∧ Hid (ii = (q : Int) ∧ q ≤ n) ∧ ((∃ s', Hid (scanRun q s0 = some s') ∧ Hid (Wk W6 bm bw N cap' s' false wr)) ∨ (Hid (scanRun q s0 = none) ∧ ∃ s', Hid (Wk W6 bm bw N cap' s' true wr)))) (fun i _ => n - (intOf i).toNat)
  case atStart => exact ⟨0, 0, rfl, ⟨rfl, by omega⟩, Or.inl ⟨_, rfl, HW7.out⟩⟩
  case round =>
    obtain ⟨ii, q, rfl, HQ, hcase⟩ := hrel
    clear HW7
    by_cases hlt : ii < x
    · have hqn : q < n := by have := HQ.out; have := HN.out; omega
      have hs : n - (intOf (.int .i64 (ii + 1))).toNat < n - (intOf (.int .i64 ii)).toNat := by have := HQ.out; simp only [intOf]; omega
      have hw : Hid (wrap64 (ii + 1) = ii + 1) := by have := HQ.out; have := HN4.out; show _ = _; unfold wrap64; omega
      rcases hcase with ⟨s', HK, HI⟩ | ⟨HK, s', HI⟩
      · have HSc := hid (HSn.out q s' wr W6 bm bw cap' HK.out HI.out)
        obtain ⟨o, ho⟩ : ∃ o, scanOne s' = o := ⟨_, rfl⟩
        rw [ho] at HSc
        have HNx : Hid (scanRun (q + 1) s0 = o) := by show _ = _; unfold scanRun; rw [HK.out]; exact ho
        clear ho HI
        go_wp2_with fail
        refine HSc.out.mono ?_
        rintro e W8 ⟨rfl, hC8⟩
        have HC8 := hid hC8
        clear hC8 HSc
        go_wp2_with fail
        try rw [hw.out]
        cases o with
        | some s2 => exact ⟨⟨ii + 1, q + 1, rfl, ⟨by have := HQ.out; push_cast; omega, by omega⟩, Or.inl ⟨s2, HNx.out, HC8.out⟩⟩, hs⟩
        | none => exact ⟨⟨ii + 1, q + 1, rfl, ⟨by have := HQ.out; push_cast; omega, by omega⟩, Or.inr ⟨HNx.out, HC8.out⟩⟩, hs⟩
      · have HSc := hid (sscan_full HI.out)
        have HNx : Hid (scanRun (q + 1) s0 = none) := scanRun_none HK.out 1
        clear HI
        go_wp2_with fail
        refine HSc.out.mono ?_
        rintro e W8 ⟨rfl, hC8⟩
        have HC8 := hid hC8
        clear hC8 HSc
        go_wp2_with fail
        try rw [hw.out]
        exact ⟨⟨ii + 1, q + 1, rfl, ⟨by have := HQ.out; push_cast; omega, by omega⟩, Or.inr ⟨HNx.out, s', HC8.out⟩⟩, hs⟩
    · have hqn : q = n := by have := HQ.out; have := HN.out; omega
      rcases hcase with ⟨s', HK, HI⟩ | ⟨HK, s', HI⟩
      · have HF : Hid (R = some s') := by have h := HK.out; rw [hqn, HR0.out] at h; exact h
        have HR8 := hid (HR6.out.below (HI.out.frame.below hlo hlo2))
        have HB8 := hid (HB6.out.trans ((HI.out.frame.below hlo hlo2).mono HB6.out.size))
        obtain ⟨d0, d1, d2, d3, d4, d5, d6, d7, d8, d9, d10⟩ := HI.out.blk.cells
        obtain ⟨tau, htau⟩ : ∃ tau, touchZ s' = tau := ⟨_, rfl⟩
        rw [htau] at d9
        have HTau := hid htau
        clear htau
        obtain ⟨c0, c1, c2, c3, c4, c5, c6, c7, c8, c9⟩ := HR8.out.cells
        dsimp only at c0 c1 c2 c3 c4 c5 c6 c7 c8 c9
        have z0 := frozen_of_heap HR8.out 0
        have z1 := frozen_of_heap HR8.out 1
        have z2 := frozen_of_heap HR8.out 2
        have z3 := frozen_of_heap HR8.out 3
        have z4 := frozen_of_heap HR8.out 4
        have z5 := frozen_of_heap HR8.out 5
        have z6 := frozen_of_heap HR8.out 6
        have z7 := frozen_of_heap HR8.out 7
        have z8 := frozen_of_heap HR8.out 8
        have z9 := frozen_of_heap HR8.out 9
        clear HR6 HB6
        go_wp2_with fail
        refine heap_use HR8.out (.slice (some ⟨bw, 0, none⟩) N cap') ⟨s'.h.size, s'.h.to, s'.h.bottom, s'.h.top, s'.h.scan, s'.h.fb, s'.h.ft, s'.h.flips, tau⟩ _ ?_
        intro W9 hL hb9 _ hoth
        obtain ⟨y0, y1, y2, y3, y4, y5, y6, y7, y8, y9⟩ := hL.cells
        dsimp only at y0 y1 y2 y3 y4 y5 y6 y7 y8 y9
        refine bodyPost_ret (v := .tuple #[heapV (.slice (some ⟨bw, 0, none⟩) N cap') ⟨s'.h.size, s'.h.to, s'.h.bottom, s'.h.top, s'.h.scan, s'.h.fb, s'.h.ft, s'.h.flips, tau⟩, .bool true]) (by simp [results, Try.results24, go_sem, y0, y1, y2, y3, y4, y5, y6, y7, y8, y9, heapV]) rfl ?_
        rw [HF.out]
        exact ⟨bw, cap', by rw [HTau.out], HI.out.row.of_block (hoth _ (by omega)), by have := HB8.out.size; omega, HB8.out.trans (hb9 _ (Nat.le_succ _))⟩
      · have HF : Hid (R = none) := by have h := HK.out; rw [hqn, HR0.out] at h; exact h
        have HR8 := hid (HR6.out.below (HI.out.frame.below hlo hlo2))
        have HB8 := hid (HB6.out.trans ((HI.out.frame.below hlo hlo2).mono HB6.out.size))
        have d10 := HI.out.blk.cells.2.2.2.2.2.2.2.2.2.2
        obtain ⟨c0, c1, c2, c3, c4, c5, c6, c7, c8, c9⟩ := HR8.out.cells
        dsimp only at c0 c1 c2 c3 c4 c5 c6 c7 c8 c9
        have z0 := frozen_of_heap HR8.out 0
        have z1 := frozen_of_heap HR8.out 1
        have z2 := frozen_of_heap HR8.out 2
        have z3 := frozen_of_heap HR8.out 3
        have z4 := frozen_of_heap HR8.out 4
        have z5 := frozen_of_heap HR8.out 5
        have z6 := frozen_of_heap HR8.out 6
        have z7 := frozen_of_heap HR8.out 7
        have z8 := frozen_of_heap HR8.out 8
        have z9 := frozen_of_heap HR8.out 9
        clear HR6 HB6
        go_wp2_with fail
        refine heap_use HR8.out (.slice none 0 0) ⟨0, 0, 0, 0, 0, 0, 0, 0, 0⟩ _ ?_
        intro W9 hL hb9 _ _
        obtain ⟨y0, y1, y2, y3, y4, y5, y6, y7, y8, y9⟩ := hL.cells
        dsimp only at y0 y1 y2 y3 y4 y5 y6 y7 y8 y9
        refine bodyPost_ret (v := .tuple #[noHeap, .bool false]) (by simp [results, Try.results24, go_sem, y0, y1, y2, y3, y4, y5, y6, y7, y8, y9, noHeap, heapV]) rfl ?_
        rw [HF.out]
        exact ⟨rfl, HB8.out.trans (hb9 _ (Nat.le_succ _))⟩

end Go.Proofs.Ytnoobonlmfgfhaa
