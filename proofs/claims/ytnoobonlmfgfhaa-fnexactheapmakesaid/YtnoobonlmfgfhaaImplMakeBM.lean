/- The program's HeapMake. -/
import Derived.Test.YtnoobonlmfgfhaaMakeCallsM
import Derived.Test.YtnoobonlmfgfhaaImplRootsM
import Derived.Test.YtnoobonlmfgfhaaSpecWkFM
import Derived.Deep.Cut
namespace Go.Proofs.Ytnoobonlmfgfhaa
open Go.RowKit
set_option linter.unusedVariables false

/-- What making an object of a heap comes to. -/
def MakeTold (N n : Nat) (w : World) (o : Option (List Int × CN)) (e : Ending) (w' : World) : Prop :=
  match o with
  | some (ys, s) => ∃ bw cap' g c : Nat, e = .returned (.tuple #[heapV (.slice (some ⟨bw, 0, none⟩) N cap') { s.h with touched := touchZ s }, .slice (some ⟨g, 0, none⟩) n c, .int .i64 (makeZ 0 s.h.top), .bool true]) ∧ CellRow 3 w' bw N (intCells s.ws) ∧ CellRow 3 w' g n (intCells ys) ∧ g ≠ bw ∧ w.heap.size ≤ bw ∧ w.heap.size ≤ g ∧ Below w.heap.size w w'
  | none => e = .returned (.tuple #[noHeap, .slice none 0 0, .int .i64 0, .bool false]) ∧ Below w.heap.size w w'

set_option maxHeartbeats 4000000 in
set_option maxRecDepth 100000 in
theorem iMake_notOk (b off cap N : Nat) (h : HpN) (rg n rc fg nf fc : Nat) (kind mi fz : Int) (w : World)
    (HLy : Hid (∀ X, Below w.heap.size w X → Calls Try.prog 40 #[heapV (.slice (some ⟨b, off, none⟩) N cap) h] X fun e w' => e = .returned (.tuple #[noLay, .bool false]) ∧ Below X.heap.size X w')) :
    Calls Try.prog 16 #[heapV (.slice (some ⟨b, off, none⟩) N cap) h, .slice (some ⟨rg, 0, none⟩) n rc, .int .i64 kind, .slice (some ⟨fg, 0, none⟩) nf fc, .int .i64 mi] w fun e w' => e = .returned (.tuple #[noHeap, .slice none 0 0, .int .i64 0, .bool false]) ∧ Below w.heap.size w w' := by
  obtain ⟨g1, g2, g3, g4, g5, g6, g7, g8, g9⟩ := h
  unfold heapV at *
  dsimp only at *
  obtain ⟨W0, hW0, hA, hR, k2⟩ := both_new w (.slice (some ⟨b, off, none⟩) N cap) ⟨g1, g2, g3, g4, g5, g6, g7, g8, g9⟩
  dsimp only at hW0
  have HW0 := hid hW0
  have HA := hid hA
  have HR := hid hR
  have HK2 := hid k2
  clear hW0 hA hR k2
  go_enter Try.func16, Try.ntmps16
  go_wp2_with fail
  rw [HW0.out]
  refine (HLy.out _ HK2.out).mono ?_
  rintro e W1 ⟨rfl, hb1⟩
  unfold noLay layV
  dsimp only
  have k1 := HK2.out.trans (hb1.mono HK2.out.size)
  have HB6 := hid (k1.alloc k1.size (.cells #[.slice none 0 0, .int .i64 0, .int .i64 0, .int .i64 0, .int .i64 0, .int .i64 0, .int .i64 0, .int .i64 0, .int .i64 0, .int .i64 0, .slice none 0 0] 59))
  have hR1 := HR.out.below hb1
  have HR6 := hid (hR1.below ((Below.refl _ W1).alloc (Nat.le_refl _) (.cells #[.slice none 0 0, .int .i64 0, .int .i64 0, .int .i64 0, .int .i64 0, .int .i64 0, .int .i64 0, .int .i64 0, .int .i64 0, .int .i64 0, .slice none 0 0] 59)))
  have hltR := heap_lt hR1
  clear k1 hb1 HW0 HA HR HK2 HLy
  clear hR1
  go_upto_if 56 with fail
  generalize W1.alloc (.cells #[.slice none 0 0, .int .i64 0, .int .i64 0, .int .i64 0, .int .i64 0, .int .i64 0, .int .i64 0, .int .i64 0, .int .i64 0, .int .i64 0, .slice none 0 0] 59) = W2 at *
  obtain ⟨c0, c1, c2, c3, c4, c5, c6, c7, c8, c9⟩ := HR6.out.cells
  dsimp only at c0 c1 c2 c3 c4 c5 c6 c7 c8 c9
  have z0 := frozen_of_heap HR6.out 0
  have z1 := frozen_of_heap HR6.out 1
  have z2 := frozen_of_heap HR6.out 2
  have z3 := frozen_of_heap HR6.out 3
  have z4 := frozen_of_heap HR6.out 4
  have z5 := frozen_of_heap HR6.out 5
  have z6 := frozen_of_heap HR6.out 6
  have z7 := frozen_of_heap HR6.out 7
  have z8 := frozen_of_heap HR6.out 8
  have z9 := frozen_of_heap HR6.out 9
  go_wp2_with fail
  refine heap_use HR6.out (.slice none 0 0) ⟨0, 0, 0, 0, 0, 0, 0, 0, 0⟩ _ ?_
  intro W7z hL hb7 _ _
  obtain ⟨y0, y1, y2, y3, y4, y5, y6, y7, y8, y9⟩ := hL.cells
  dsimp only at y0 y1 y2 y3 y4 y5 y6 y7 y8 y9
  exact bodyPost_ret (v := .tuple #[noHeap, .slice none 0 0, .int .i64 0, .bool false]) (by simp [results, Try.results16, go_sem, y0, y1, y2, y3, y4, y5, y6, y7, y8, y9, noHeap, heapV]) rfl ⟨rfl, HB6.out.trans (hb7 _ (Nat.le_succ _))⟩

set_option maxHeartbeats 4000000 in
set_option maxRecDepth 100000 in
theorem iMake_kind (b off cap N : Nat) (h : HpN) (rg n rc fg nf fc : Nat) (kind mi fz : Int) (w : World)
    (ws S : List Int) (hz : (fz == 0) = true) (hz2 : fz = 0)
    (HLy : Hid (∀ X, Below w.heap.size w X → Calls Try.prog 40 #[heapV (.slice (some ⟨b, off, none⟩) N cap) h] X fun e w' => ∃ gb, e = .returned (.tuple #[layV (.slice (some ⟨b, off, none⟩) N cap) h (.slice (some ⟨gb, 0, none⟩) N N), .bool true]) ∧ Hid (ISt b off gb N ws S w') ∧ Below X.heap.size X w'))
    (HFd : Hid (∀ X, Calls Try.prog 45 #[.int .i64 kind] X fun e w' => e = .returned (.int .i64 fz) ∧ X = w')) :
    Calls Try.prog 16 #[heapV (.slice (some ⟨b, off, none⟩) N cap) h, .slice (some ⟨rg, 0, none⟩) n rc, .int .i64 kind, .slice (some ⟨fg, 0, none⟩) nf fc, .int .i64 mi] w fun e w' => e = .returned (.tuple #[noHeap, .slice none 0 0, .int .i64 0, .bool false]) ∧ Below w.heap.size w w' := by
  obtain ⟨g1, g2, g3, g4, g5, g6, g7, g8, g9⟩ := h
  unfold heapV at *
  dsimp only at *
  obtain ⟨W0, hW0, hA, hR, k2⟩ := both_new w (.slice (some ⟨b, off, none⟩) N cap) ⟨g1, g2, g3, g4, g5, g6, g7, g8, g9⟩
  dsimp only at hW0
  have HW0 := hid hW0
  have HA := hid hA
  have HR := hid hR
  have HK2 := hid k2
  clear hW0 hA hR k2
  go_enter Try.func16, Try.ntmps16
  go_wp2_with fail
  rw [HW0.out]
  refine (HLy.out _ HK2.out).mono ?_
  rintro e W1 ⟨gb, rfl, HI, hb1⟩
  unfold layV at *
  dsimp only at *
  have k1 := HK2.out.trans (hb1.mono HK2.out.size)
  have HB2 := hid (k1.alloc k1.size (.cells #[.slice (some ⟨b, off, none⟩) N cap, .int .i64 g1, .int .i64 g2, .int .i64 g3, .int .i64 g4, .int .i64 g5, .int .i64 g6, .int .i64 g7, .int .i64 g8, .int .i64 g9, .slice (some ⟨gb, 0, none⟩) N N] 59))
  have HR2 := hid ((HR.out.below hb1).below ((Below.refl _ W1).alloc (Nat.le_refl _) (.cells #[.slice (some ⟨b, off, none⟩) N cap, .int .i64 g1, .int .i64 g2, .int .i64 g3, .int .i64 g4, .int .i64 g5, .int .i64 g6, .int .i64 g7, .int .i64 g8, .int .i64 g9, .slice (some ⟨gb, 0, none⟩) N N] 59)))
  have hA1 := HA.out.below hb1
  have HA2 := hid (hA1.below ((Below.refl _ W1).alloc (Nat.le_refl _) (.cells #[.slice (some ⟨b, off, none⟩) N cap, .int .i64 g1, .int .i64 g2, .int .i64 g3, .int .i64 g4, .int .i64 g5, .int .i64 g6, .int .i64 g7, .int .i64 g8, .int .i64 g9, .slice (some ⟨gb, 0, none⟩) N N] 59)))
  have HI2 := hid (HI.out.kept ((Below.refl _ W1).alloc (Nat.le_refl _) (.cells #[.slice (some ⟨b, off, none⟩) N cap, .int .i64 g1, .int .i64 g2, .int .i64 g3, .int .i64 g4, .int .i64 g5, .int .i64 g6, .int .i64 g7, .int .i64 g8, .int .i64 g9, .slice (some ⟨gb, 0, none⟩) N N] 59)))
  have HL2 : Hid ((W1.alloc (.cells #[.slice (some ⟨b, off, none⟩) N cap, .int .i64 g1, .int .i64 g2, .int .i64 g3, .int .i64 g4, .int .i64 g5, .int .i64 g6, .int .i64 g7, .int .i64 g8, .int .i64 g9, .slice (some ⟨gb, 0, none⟩) N N] 59)).heap[W1.heap.size]? = some (.cells #[.slice (some ⟨b, off, none⟩) N cap, .int .i64 g1, .int .i64 g2, .int .i64 g3, .int .i64 g4, .int .i64 g5, .int .i64 g6, .int .i64 g7, .int .i64 g8, .int .i64 g9, .slice (some ⟨gb, 0, none⟩) N N] 59)) := (MapKept.heap_alloc W1 _).1
  clear k1 hb1 HW0 HA HR HK2 HLy HI hA1
  go_wp2_with fail
  generalize W1.alloc (.cells #[.slice (some ⟨b, off, none⟩) N cap, .int .i64 g1, .int .i64 g2, .int .i64 g3, .int .i64 g4, .int .i64 g5, .int .i64 g6, .int .i64 g7, .int .i64 g8, .int .i64 g9, .slice (some ⟨gb, 0, none⟩) N N] 59) = W2 at *
  refine (HFd.out _).mono ?_
  rintro e W3 ⟨rfl, rfl⟩
  have HR6 := HR2
  have HB6 := HB2
  clear HR2 HB2 HA2 HI2
  go_upto_if 56 with fail
  obtain ⟨c0, c1, c2, c3, c4, c5, c6, c7, c8, c9⟩ := HR6.out.cells
  dsimp only at c0 c1 c2 c3 c4 c5 c6 c7 c8 c9
  have z0 := frozen_of_heap HR6.out 0
  have z1 := frozen_of_heap HR6.out 1
  have z2 := frozen_of_heap HR6.out 2
  have z3 := frozen_of_heap HR6.out 3
  have z4 := frozen_of_heap HR6.out 4
  have z5 := frozen_of_heap HR6.out 5
  have z6 := frozen_of_heap HR6.out 6
  have z7 := frozen_of_heap HR6.out 7
  have z8 := frozen_of_heap HR6.out 8
  have z9 := frozen_of_heap HR6.out 9
  go_wp2_with fail
  refine heap_use HR6.out (.slice none 0 0) ⟨0, 0, 0, 0, 0, 0, 0, 0, 0⟩ _ ?_
  intro W7z hL hb7 _ _
  obtain ⟨y0, y1, y2, y3, y4, y5, y6, y7, y8, y9⟩ := hL.cells
  dsimp only at y0 y1 y2 y3 y4 y5 y6 y7 y8 y9
  exact bodyPost_ret (v := .tuple #[noHeap, .slice none 0 0, .int .i64 0, .bool false]) (by simp [results, Try.results16, go_sem, y0, y1, y2, y3, y4, y5, y6, y7, y8, y9, noHeap, heapV]) rfl ⟨rfl, HB6.out.trans (hb7 _ (Nat.le_succ _))⟩

set_option maxHeartbeats 4000000 in
set_option maxRecDepth 100000 in
theorem iMake_len (b off cap N : Nat) (h : HpN) (rg n rc fg nf fc : Nat) (kind mi fz : Int) (w : World)
    (ws S : List Int) (hz : (fz == 0) = false) (hz2 : ¬ fz = 0) (hl : ((nf : Int) != fz) = true) (hl2 : ¬ (nf : Int) = fz)
    (HLy : Hid (∀ X, Below w.heap.size w X → Calls Try.prog 40 #[heapV (.slice (some ⟨b, off, none⟩) N cap) h] X fun e w' => ∃ gb, e = .returned (.tuple #[layV (.slice (some ⟨b, off, none⟩) N cap) h (.slice (some ⟨gb, 0, none⟩) N N), .bool true]) ∧ Hid (ISt b off gb N ws S w') ∧ Below X.heap.size X w'))
    (HFd : Hid (∀ X, Calls Try.prog 45 #[.int .i64 kind] X fun e w' => e = .returned (.int .i64 fz) ∧ X = w')) :
    Calls Try.prog 16 #[heapV (.slice (some ⟨b, off, none⟩) N cap) h, .slice (some ⟨rg, 0, none⟩) n rc, .int .i64 kind, .slice (some ⟨fg, 0, none⟩) nf fc, .int .i64 mi] w fun e w' => e = .returned (.tuple #[noHeap, .slice none 0 0, .int .i64 0, .bool false]) ∧ Below w.heap.size w w' := by
  obtain ⟨g1, g2, g3, g4, g5, g6, g7, g8, g9⟩ := h
  unfold heapV at *
  dsimp only at *
  obtain ⟨W0, hW0, hA, hR, k2⟩ := both_new w (.slice (some ⟨b, off, none⟩) N cap) ⟨g1, g2, g3, g4, g5, g6, g7, g8, g9⟩
  dsimp only at hW0
  have HW0 := hid hW0
  have HA := hid hA
  have HR := hid hR
  have HK2 := hid k2
  clear hW0 hA hR k2
  go_enter Try.func16, Try.ntmps16
  go_wp2_with fail
  rw [HW0.out]
  refine (HLy.out _ HK2.out).mono ?_
  rintro e W1 ⟨gb, rfl, HI, hb1⟩
  unfold layV at *
  dsimp only at *
  have k1 := HK2.out.trans (hb1.mono HK2.out.size)
  have HB2 := hid (k1.alloc k1.size (.cells #[.slice (some ⟨b, off, none⟩) N cap, .int .i64 g1, .int .i64 g2, .int .i64 g3, .int .i64 g4, .int .i64 g5, .int .i64 g6, .int .i64 g7, .int .i64 g8, .int .i64 g9, .slice (some ⟨gb, 0, none⟩) N N] 59))
  have HR2 := hid ((HR.out.below hb1).below ((Below.refl _ W1).alloc (Nat.le_refl _) (.cells #[.slice (some ⟨b, off, none⟩) N cap, .int .i64 g1, .int .i64 g2, .int .i64 g3, .int .i64 g4, .int .i64 g5, .int .i64 g6, .int .i64 g7, .int .i64 g8, .int .i64 g9, .slice (some ⟨gb, 0, none⟩) N N] 59)))
  have hA1 := HA.out.below hb1
  have HA2 := hid (hA1.below ((Below.refl _ W1).alloc (Nat.le_refl _) (.cells #[.slice (some ⟨b, off, none⟩) N cap, .int .i64 g1, .int .i64 g2, .int .i64 g3, .int .i64 g4, .int .i64 g5, .int .i64 g6, .int .i64 g7, .int .i64 g8, .int .i64 g9, .slice (some ⟨gb, 0, none⟩) N N] 59)))
  have HI2 := hid (HI.out.kept ((Below.refl _ W1).alloc (Nat.le_refl _) (.cells #[.slice (some ⟨b, off, none⟩) N cap, .int .i64 g1, .int .i64 g2, .int .i64 g3, .int .i64 g4, .int .i64 g5, .int .i64 g6, .int .i64 g7, .int .i64 g8, .int .i64 g9, .slice (some ⟨gb, 0, none⟩) N N] 59)))
  have HL2 : Hid ((W1.alloc (.cells #[.slice (some ⟨b, off, none⟩) N cap, .int .i64 g1, .int .i64 g2, .int .i64 g3, .int .i64 g4, .int .i64 g5, .int .i64 g6, .int .i64 g7, .int .i64 g8, .int .i64 g9, .slice (some ⟨gb, 0, none⟩) N N] 59)).heap[W1.heap.size]? = some (.cells #[.slice (some ⟨b, off, none⟩) N cap, .int .i64 g1, .int .i64 g2, .int .i64 g3, .int .i64 g4, .int .i64 g5, .int .i64 g6, .int .i64 g7, .int .i64 g8, .int .i64 g9, .slice (some ⟨gb, 0, none⟩) N N] 59)) := (MapKept.heap_alloc W1 _).1
  clear k1 hb1 HW0 HA HR HK2 HLy HI hA1
  go_wp2_with fail
  generalize W1.alloc (.cells #[.slice (some ⟨b, off, none⟩) N cap, .int .i64 g1, .int .i64 g2, .int .i64 g3, .int .i64 g4, .int .i64 g5, .int .i64 g6, .int .i64 g7, .int .i64 g8, .int .i64 g9, .slice (some ⟨gb, 0, none⟩) N N] 59) = W2 at *
  refine (HFd.out _).mono ?_
  rintro e W3 ⟨rfl, rfl⟩
  go_wp2_with fail
  refine (HFd.out _).mono ?_
  rintro e W3 ⟨rfl, rfl⟩
  have HR6 := HR2
  have HB6 := HB2
  clear HR2 HB2 HA2 HI2
  go_upto_if 56 with fail
  obtain ⟨c0, c1, c2, c3, c4, c5, c6, c7, c8, c9⟩ := HR6.out.cells
  dsimp only at c0 c1 c2 c3 c4 c5 c6 c7 c8 c9
  have z0 := frozen_of_heap HR6.out 0
  have z1 := frozen_of_heap HR6.out 1
  have z2 := frozen_of_heap HR6.out 2
  have z3 := frozen_of_heap HR6.out 3
  have z4 := frozen_of_heap HR6.out 4
  have z5 := frozen_of_heap HR6.out 5
  have z6 := frozen_of_heap HR6.out 6
  have z7 := frozen_of_heap HR6.out 7
  have z8 := frozen_of_heap HR6.out 8
  have z9 := frozen_of_heap HR6.out 9
  go_wp2_with fail
  refine heap_use HR6.out (.slice none 0 0) ⟨0, 0, 0, 0, 0, 0, 0, 0, 0⟩ _ ?_
  intro W7z hL hb7 _ _
  obtain ⟨y0, y1, y2, y3, y4, y5, y6, y7, y8, y9⟩ := hL.cells
  dsimp only at y0 y1 y2 y3 y4 y5 y6 y7 y8 y9
  exact bodyPost_ret (v := .tuple #[noHeap, .slice none 0 0, .int .i64 0, .bool false]) (by simp [results, Try.results16, go_sem, y0, y1, y2, y3, y4, y5, y6, y7, y8, y9, noHeap, heapV]) rfl ⟨rfl, HB6.out.trans (hb7 _ (Nat.le_succ _))⟩

set_option maxHeartbeats 4000000 in
set_option maxRecDepth 100000 in
theorem iMake_neg (b off cap N : Nat) (h : HpN) (rg n rc fg nf fc : Nat) (kind mi fz : Int) (w : World)
    (ws S : List Int) (hz : (fz == 0) = false) (hz2 : ¬ fz = 0) (hl : ((nf : Int) != fz) = false) (hl2 : (nf : Int) = fz) (hm : mi < 0)
    (HLy : Hid (∀ X, Below w.heap.size w X → Calls Try.prog 40 #[heapV (.slice (some ⟨b, off, none⟩) N cap) h] X fun e w' => ∃ gb, e = .returned (.tuple #[layV (.slice (some ⟨b, off, none⟩) N cap) h (.slice (some ⟨gb, 0, none⟩) N N), .bool true]) ∧ Hid (ISt b off gb N ws S w') ∧ Below X.heap.size X w'))
    (HFd : Hid (∀ X, Calls Try.prog 45 #[.int .i64 kind] X fun e w' => e = .returned (.int .i64 fz) ∧ X = w')) :
    Calls Try.prog 16 #[heapV (.slice (some ⟨b, off, none⟩) N cap) h, .slice (some ⟨rg, 0, none⟩) n rc, .int .i64 kind, .slice (some ⟨fg, 0, none⟩) nf fc, .int .i64 mi] w fun e w' => e = .returned (.tuple #[noHeap, .slice none 0 0, .int .i64 0, .bool false]) ∧ Below w.heap.size w w' := by
  obtain ⟨g1, g2, g3, g4, g5, g6, g7, g8, g9⟩ := h
  unfold heapV at *
  dsimp only at *
  obtain ⟨W0, hW0, hA, hR, k2⟩ := both_new w (.slice (some ⟨b, off, none⟩) N cap) ⟨g1, g2, g3, g4, g5, g6, g7, g8, g9⟩
  dsimp only at hW0
  have HW0 := hid hW0
  have HA := hid hA
  have HR := hid hR
  have HK2 := hid k2
  clear hW0 hA hR k2
  go_enter Try.func16, Try.ntmps16
  go_wp2_with fail
  rw [HW0.out]
  refine (HLy.out _ HK2.out).mono ?_
  rintro e W1 ⟨gb, rfl, HI, hb1⟩
  unfold layV at *
  dsimp only at *
  have k1 := HK2.out.trans (hb1.mono HK2.out.size)
  have HB2 := hid (k1.alloc k1.size (.cells #[.slice (some ⟨b, off, none⟩) N cap, .int .i64 g1, .int .i64 g2, .int .i64 g3, .int .i64 g4, .int .i64 g5, .int .i64 g6, .int .i64 g7, .int .i64 g8, .int .i64 g9, .slice (some ⟨gb, 0, none⟩) N N] 59))
  have HR2 := hid ((HR.out.below hb1).below ((Below.refl _ W1).alloc (Nat.le_refl _) (.cells #[.slice (some ⟨b, off, none⟩) N cap, .int .i64 g1, .int .i64 g2, .int .i64 g3, .int .i64 g4, .int .i64 g5, .int .i64 g6, .int .i64 g7, .int .i64 g8, .int .i64 g9, .slice (some ⟨gb, 0, none⟩) N N] 59)))
  have hA1 := HA.out.below hb1
  have HA2 := hid (hA1.below ((Below.refl _ W1).alloc (Nat.le_refl _) (.cells #[.slice (some ⟨b, off, none⟩) N cap, .int .i64 g1, .int .i64 g2, .int .i64 g3, .int .i64 g4, .int .i64 g5, .int .i64 g6, .int .i64 g7, .int .i64 g8, .int .i64 g9, .slice (some ⟨gb, 0, none⟩) N N] 59)))
  have HI2 := hid (HI.out.kept ((Below.refl _ W1).alloc (Nat.le_refl _) (.cells #[.slice (some ⟨b, off, none⟩) N cap, .int .i64 g1, .int .i64 g2, .int .i64 g3, .int .i64 g4, .int .i64 g5, .int .i64 g6, .int .i64 g7, .int .i64 g8, .int .i64 g9, .slice (some ⟨gb, 0, none⟩) N N] 59)))
  have HL2 : Hid ((W1.alloc (.cells #[.slice (some ⟨b, off, none⟩) N cap, .int .i64 g1, .int .i64 g2, .int .i64 g3, .int .i64 g4, .int .i64 g5, .int .i64 g6, .int .i64 g7, .int .i64 g8, .int .i64 g9, .slice (some ⟨gb, 0, none⟩) N N] 59)).heap[W1.heap.size]? = some (.cells #[.slice (some ⟨b, off, none⟩) N cap, .int .i64 g1, .int .i64 g2, .int .i64 g3, .int .i64 g4, .int .i64 g5, .int .i64 g6, .int .i64 g7, .int .i64 g8, .int .i64 g9, .slice (some ⟨gb, 0, none⟩) N N] 59)) := (MapKept.heap_alloc W1 _).1
  clear k1 hb1 HW0 HA HR HK2 HLy HI hA1
  go_wp2_with fail
  generalize W1.alloc (.cells #[.slice (some ⟨b, off, none⟩) N cap, .int .i64 g1, .int .i64 g2, .int .i64 g3, .int .i64 g4, .int .i64 g5, .int .i64 g6, .int .i64 g7, .int .i64 g8, .int .i64 g9, .slice (some ⟨gb, 0, none⟩) N N] 59) = W2 at *
  refine (HFd.out _).mono ?_
  rintro e W3 ⟨rfl, rfl⟩
  go_wp2_with fail
  refine (HFd.out _).mono ?_
  rintro e W3 ⟨rfl, rfl⟩
  have HR6 := HR2
  have HB6 := HB2
  clear HR2 HB2 HA2 HI2
  go_upto_if 56 with fail
  obtain ⟨c0, c1, c2, c3, c4, c5, c6, c7, c8, c9⟩ := HR6.out.cells
  dsimp only at c0 c1 c2 c3 c4 c5 c6 c7 c8 c9
  have z0 := frozen_of_heap HR6.out 0
  have z1 := frozen_of_heap HR6.out 1
  have z2 := frozen_of_heap HR6.out 2
  have z3 := frozen_of_heap HR6.out 3
  have z4 := frozen_of_heap HR6.out 4
  have z5 := frozen_of_heap HR6.out 5
  have z6 := frozen_of_heap HR6.out 6
  have z7 := frozen_of_heap HR6.out 7
  have z8 := frozen_of_heap HR6.out 8
  have z9 := frozen_of_heap HR6.out 9
  go_wp2_with fail
  refine heap_use HR6.out (.slice none 0 0) ⟨0, 0, 0, 0, 0, 0, 0, 0, 0⟩ _ ?_
  intro W7z hL hb7 _ _
  obtain ⟨y0, y1, y2, y3, y4, y5, y6, y7, y8, y9⟩ := hL.cells
  dsimp only at y0 y1 y2 y3 y4 y5 y6 y7 y8 y9
  exact bodyPost_ret (v := .tuple #[noHeap, .slice none 0 0, .int .i64 0, .bool false]) (by simp [results, Try.results16, go_sem, y0, y1, y2, y3, y4, y5, y6, y7, y8, y9, noHeap, heapV]) rfl ⟨rfl, HB6.out.trans (hb7 _ (Nat.le_succ _))⟩

set_option maxHeartbeats 4000000 in
set_option maxRecDepth 100000 in
theorem iMake_big (b off cap N : Nat) (h : HpN) (rg n rc fg nf fc : Nat) (kind mi fz : Int) (w : World)
    (ws S : List Int) (hz : (fz == 0) = false) (hz2 : ¬ fz = 0) (hl : ((nf : Int) != fz) = false) (hl2 : (nf : Int) = fz) (hm : ¬ mi < 0) (hb : 20 < mi)
    (HLy : Hid (∀ X, Below w.heap.size w X → Calls Try.prog 40 #[heapV (.slice (some ⟨b, off, none⟩) N cap) h] X fun e w' => ∃ gb, e = .returned (.tuple #[layV (.slice (some ⟨b, off, none⟩) N cap) h (.slice (some ⟨gb, 0, none⟩) N N), .bool true]) ∧ Hid (ISt b off gb N ws S w') ∧ Below X.heap.size X w'))
    (HFd : Hid (∀ X, Calls Try.prog 45 #[.int .i64 kind] X fun e w' => e = .returned (.int .i64 fz) ∧ X = w')) :
    Calls Try.prog 16 #[heapV (.slice (some ⟨b, off, none⟩) N cap) h, .slice (some ⟨rg, 0, none⟩) n rc, .int .i64 kind, .slice (some ⟨fg, 0, none⟩) nf fc, .int .i64 mi] w fun e w' => e = .returned (.tuple #[noHeap, .slice none 0 0, .int .i64 0, .bool false]) ∧ Below w.heap.size w w' := by
  obtain ⟨g1, g2, g3, g4, g5, g6, g7, g8, g9⟩ := h
  unfold heapV at *
  dsimp only at *
  obtain ⟨W0, hW0, hA, hR, k2⟩ := both_new w (.slice (some ⟨b, off, none⟩) N cap) ⟨g1, g2, g3, g4, g5, g6, g7, g8, g9⟩
  dsimp only at hW0
  have HW0 := hid hW0
  have HA := hid hA
  have HR := hid hR
  have HK2 := hid k2
  clear hW0 hA hR k2
  go_enter Try.func16, Try.ntmps16
  go_wp2_with fail
  rw [HW0.out]
  refine (HLy.out _ HK2.out).mono ?_
  rintro e W1 ⟨gb, rfl, HI, hb1⟩
  unfold layV at *
  dsimp only at *
  have k1 := HK2.out.trans (hb1.mono HK2.out.size)
  have HB2 := hid (k1.alloc k1.size (.cells #[.slice (some ⟨b, off, none⟩) N cap, .int .i64 g1, .int .i64 g2, .int .i64 g3, .int .i64 g4, .int .i64 g5, .int .i64 g6, .int .i64 g7, .int .i64 g8, .int .i64 g9, .slice (some ⟨gb, 0, none⟩) N N] 59))
  have HR2 := hid ((HR.out.below hb1).below ((Below.refl _ W1).alloc (Nat.le_refl _) (.cells #[.slice (some ⟨b, off, none⟩) N cap, .int .i64 g1, .int .i64 g2, .int .i64 g3, .int .i64 g4, .int .i64 g5, .int .i64 g6, .int .i64 g7, .int .i64 g8, .int .i64 g9, .slice (some ⟨gb, 0, none⟩) N N] 59)))
  have hA1 := HA.out.below hb1
  have HA2 := hid (hA1.below ((Below.refl _ W1).alloc (Nat.le_refl _) (.cells #[.slice (some ⟨b, off, none⟩) N cap, .int .i64 g1, .int .i64 g2, .int .i64 g3, .int .i64 g4, .int .i64 g5, .int .i64 g6, .int .i64 g7, .int .i64 g8, .int .i64 g9, .slice (some ⟨gb, 0, none⟩) N N] 59)))
  have HI2 := hid (HI.out.kept ((Below.refl _ W1).alloc (Nat.le_refl _) (.cells #[.slice (some ⟨b, off, none⟩) N cap, .int .i64 g1, .int .i64 g2, .int .i64 g3, .int .i64 g4, .int .i64 g5, .int .i64 g6, .int .i64 g7, .int .i64 g8, .int .i64 g9, .slice (some ⟨gb, 0, none⟩) N N] 59)))
  have HL2 : Hid ((W1.alloc (.cells #[.slice (some ⟨b, off, none⟩) N cap, .int .i64 g1, .int .i64 g2, .int .i64 g3, .int .i64 g4, .int .i64 g5, .int .i64 g6, .int .i64 g7, .int .i64 g8, .int .i64 g9, .slice (some ⟨gb, 0, none⟩) N N] 59)).heap[W1.heap.size]? = some (.cells #[.slice (some ⟨b, off, none⟩) N cap, .int .i64 g1, .int .i64 g2, .int .i64 g3, .int .i64 g4, .int .i64 g5, .int .i64 g6, .int .i64 g7, .int .i64 g8, .int .i64 g9, .slice (some ⟨gb, 0, none⟩) N N] 59)) := (MapKept.heap_alloc W1 _).1
  clear k1 hb1 HW0 HA HR HK2 HLy HI hA1
  go_wp2_with fail
  generalize W1.alloc (.cells #[.slice (some ⟨b, off, none⟩) N cap, .int .i64 g1, .int .i64 g2, .int .i64 g3, .int .i64 g4, .int .i64 g5, .int .i64 g6, .int .i64 g7, .int .i64 g8, .int .i64 g9, .slice (some ⟨gb, 0, none⟩) N N] 59) = W2 at *
  refine (HFd.out _).mono ?_
  rintro e W3 ⟨rfl, rfl⟩
  go_wp2_with fail
  refine (HFd.out _).mono ?_
  rintro e W3 ⟨rfl, rfl⟩
  have HR6 := HR2
  have HB6 := HB2
  clear HR2 HB2 HA2 HI2
  go_upto_if 56 with fail
  obtain ⟨c0, c1, c2, c3, c4, c5, c6, c7, c8, c9⟩ := HR6.out.cells
  dsimp only at c0 c1 c2 c3 c4 c5 c6 c7 c8 c9
  have z0 := frozen_of_heap HR6.out 0
  have z1 := frozen_of_heap HR6.out 1
  have z2 := frozen_of_heap HR6.out 2
  have z3 := frozen_of_heap HR6.out 3
  have z4 := frozen_of_heap HR6.out 4
  have z5 := frozen_of_heap HR6.out 5
  have z6 := frozen_of_heap HR6.out 6
  have z7 := frozen_of_heap HR6.out 7
  have z8 := frozen_of_heap HR6.out 8
  have z9 := frozen_of_heap HR6.out 9
  go_wp2_with fail
  refine heap_use HR6.out (.slice none 0 0) ⟨0, 0, 0, 0, 0, 0, 0, 0, 0⟩ _ ?_
  intro W7z hL hb7 _ _
  obtain ⟨y0, y1, y2, y3, y4, y5, y6, y7, y8, y9⟩ := hL.cells
  dsimp only at y0 y1 y2 y3 y4 y5 y6 y7 y8 y9
  exact bodyPost_ret (v := .tuple #[noHeap, .slice none 0 0, .int .i64 0, .bool false]) (by simp [results, Try.results16, go_sem, y0, y1, y2, y3, y4, y5, y6, y7, y8, y9, noHeap, heapV]) rfl ⟨rfl, HB6.out.trans (hb7 _ (Nat.le_succ _))⟩

set_option maxHeartbeats 4000000 in
set_option maxRecDepth 100000 in
theorem iMake_roots (b off cap N : Nat) (h : HpN) (rg n rc fg nf fc : Nat) (kind mi fz : Int) (w : World)
    (ws S : List Int) (hz : (fz == 0) = false) (hz2 : ¬ fz = 0) (hl : ((nf : Int) != fz) = false) (hl2 : (nf : Int) = fz) (hm : ¬ mi < 0) (hb : ¬ 20 < mi)
    (HLy : Hid (∀ X, Below w.heap.size w X → Calls Try.prog 40 #[heapV (.slice (some ⟨b, off, none⟩) N cap) h] X fun e w' => ∃ gb, e = .returned (.tuple #[layV (.slice (some ⟨b, off, none⟩) N cap) h (.slice (some ⟨gb, 0, none⟩) N N), .bool true]) ∧ Hid (ISt b off gb N ws S w') ∧ Below X.heap.size X w'))
    (HFd : Hid (∀ X, Calls Try.prog 45 #[.int .i64 kind] X fun e w' => e = .returned (.int .i64 fz) ∧ X = w'))
    (HRt : Hid (∀ (X : World) (gb : Nat), Below w.heap.size w X → ISt b off gb N ws S X → Calls Try.prog 46 #[layV (.slice (some ⟨b, off, none⟩) N cap) h (.slice (some ⟨gb, 0, none⟩) N N), .slice (some ⟨rg, 0, none⟩) n rc] X fun e w' => e = .returned (.bool false) ∧ Below X.heap.size X w')) :
    Calls Try.prog 16 #[heapV (.slice (some ⟨b, off, none⟩) N cap) h, .slice (some ⟨rg, 0, none⟩) n rc, .int .i64 kind, .slice (some ⟨fg, 0, none⟩) nf fc, .int .i64 mi] w fun e w' => e = .returned (.tuple #[noHeap, .slice none 0 0, .int .i64 0, .bool false]) ∧ Below w.heap.size w w' := by
  obtain ⟨g1, g2, g3, g4, g5, g6, g7, g8, g9⟩ := h
  unfold heapV at *
  dsimp only at *
  obtain ⟨W0, hW0, hA, hR, k2⟩ := both_new w (.slice (some ⟨b, off, none⟩) N cap) ⟨g1, g2, g3, g4, g5, g6, g7, g8, g9⟩
  dsimp only at hW0
  have HW0 := hid hW0
  have HA := hid hA
  have HR := hid hR
  have HK2 := hid k2
  clear hW0 hA hR k2
  go_enter Try.func16, Try.ntmps16
  go_wp2_with fail
  rw [HW0.out]
  refine (HLy.out _ HK2.out).mono ?_
  rintro e W1 ⟨gb, rfl, HI, hb1⟩
  unfold layV at *
  dsimp only at *
  have k1 := HK2.out.trans (hb1.mono HK2.out.size)
  have HB2 := hid (k1.alloc k1.size (.cells #[.slice (some ⟨b, off, none⟩) N cap, .int .i64 g1, .int .i64 g2, .int .i64 g3, .int .i64 g4, .int .i64 g5, .int .i64 g6, .int .i64 g7, .int .i64 g8, .int .i64 g9, .slice (some ⟨gb, 0, none⟩) N N] 59))
  have HR2 := hid ((HR.out.below hb1).below ((Below.refl _ W1).alloc (Nat.le_refl _) (.cells #[.slice (some ⟨b, off, none⟩) N cap, .int .i64 g1, .int .i64 g2, .int .i64 g3, .int .i64 g4, .int .i64 g5, .int .i64 g6, .int .i64 g7, .int .i64 g8, .int .i64 g9, .slice (some ⟨gb, 0, none⟩) N N] 59)))
  have hA1 := HA.out.below hb1
  have HA2 := hid (hA1.below ((Below.refl _ W1).alloc (Nat.le_refl _) (.cells #[.slice (some ⟨b, off, none⟩) N cap, .int .i64 g1, .int .i64 g2, .int .i64 g3, .int .i64 g4, .int .i64 g5, .int .i64 g6, .int .i64 g7, .int .i64 g8, .int .i64 g9, .slice (some ⟨gb, 0, none⟩) N N] 59)))
  have HI2 := hid (HI.out.kept ((Below.refl _ W1).alloc (Nat.le_refl _) (.cells #[.slice (some ⟨b, off, none⟩) N cap, .int .i64 g1, .int .i64 g2, .int .i64 g3, .int .i64 g4, .int .i64 g5, .int .i64 g6, .int .i64 g7, .int .i64 g8, .int .i64 g9, .slice (some ⟨gb, 0, none⟩) N N] 59)))
  have HL2 : Hid ((W1.alloc (.cells #[.slice (some ⟨b, off, none⟩) N cap, .int .i64 g1, .int .i64 g2, .int .i64 g3, .int .i64 g4, .int .i64 g5, .int .i64 g6, .int .i64 g7, .int .i64 g8, .int .i64 g9, .slice (some ⟨gb, 0, none⟩) N N] 59)).heap[W1.heap.size]? = some (.cells #[.slice (some ⟨b, off, none⟩) N cap, .int .i64 g1, .int .i64 g2, .int .i64 g3, .int .i64 g4, .int .i64 g5, .int .i64 g6, .int .i64 g7, .int .i64 g8, .int .i64 g9, .slice (some ⟨gb, 0, none⟩) N N] 59)) := (MapKept.heap_alloc W1 _).1
  clear k1 hb1 HW0 HA HR HK2 HLy HI hA1
  go_wp2_with fail
  generalize W1.alloc (.cells #[.slice (some ⟨b, off, none⟩) N cap, .int .i64 g1, .int .i64 g2, .int .i64 g3, .int .i64 g4, .int .i64 g5, .int .i64 g6, .int .i64 g7, .int .i64 g8, .int .i64 g9, .slice (some ⟨gb, 0, none⟩) N N] 59) = W2 at *
  refine (HFd.out _).mono ?_
  rintro e W3 ⟨rfl, rfl⟩
  go_wp2_with fail
  refine (HFd.out _).mono ?_
  rintro e W3 ⟨rfl, rfl⟩
  have l0 := cell_of_heap HL2.out 0
  have l1 := cell_of_heap HL2.out 1
  have l2 := cell_of_heap HL2.out 2
  have l3 := cell_of_heap HL2.out 3
  have l4 := cell_of_heap HL2.out 4
  have l5 := cell_of_heap HL2.out 5
  have l6 := cell_of_heap HL2.out 6
  have l7 := cell_of_heap HL2.out 7
  have l8 := cell_of_heap HL2.out 8
  have l9 := cell_of_heap HL2.out 9
  have l10 := cell_of_heap HL2.out 10
  simp at l0 l1 l2 l3 l4 l5 l6 l7 l8 l9 l10
  go_wp2_with fail
  refine (HRt.out _ _ HB2.out HI2.out).mono ?_
  rintro e W4 ⟨rfl, hb4⟩
  have HB4 := hid (HB2.out.trans (hb4.mono HB2.out.size))
  have HR4 := hid (HR2.out.below hb4)
  have HA4 := hid (HA2.out.below hb4)
  have HI4 := hid (HI2.out.kept hb4)
  have HL4 := hid ((hb4.block _ (heap_lt HL2.out)).trans HL2.out)
  clear l0 l1 l2 l3 l4 l5 l6 l7 l8 l9 l10
  clear hb4 HB2 HR2 HA2 HI2 HL2 HRt
  have HR6 := HR4
  have HB6 := HB4
  clear HR4 HB4 HA4 HI4 HL4
  obtain ⟨c0, c1, c2, c3, c4, c5, c6, c7, c8, c9⟩ := HR6.out.cells
  dsimp only at c0 c1 c2 c3 c4 c5 c6 c7 c8 c9
  have z0 := frozen_of_heap HR6.out 0
  have z1 := frozen_of_heap HR6.out 1
  have z2 := frozen_of_heap HR6.out 2
  have z3 := frozen_of_heap HR6.out 3
  have z4 := frozen_of_heap HR6.out 4
  have z5 := frozen_of_heap HR6.out 5
  have z6 := frozen_of_heap HR6.out 6
  have z7 := frozen_of_heap HR6.out 7
  have z8 := frozen_of_heap HR6.out 8
  have z9 := frozen_of_heap HR6.out 9
  go_wp2_with fail
  refine heap_use HR6.out (.slice none 0 0) ⟨0, 0, 0, 0, 0, 0, 0, 0, 0⟩ _ ?_
  intro W7z hL hb7 _ _
  obtain ⟨y0, y1, y2, y3, y4, y5, y6, y7, y8, y9⟩ := hL.cells
  dsimp only at y0 y1 y2 y3 y4 y5 y6 y7 y8 y9
  exact bodyPost_ret (v := .tuple #[noHeap, .slice none 0 0, .int .i64 0, .bool false]) (by simp [results, Try.results16, go_sem, y0, y1, y2, y3, y4, y5, y6, y7, y8, y9, noHeap, heapV]) rfl ⟨rfl, HB6.out.trans (hb7 _ (Nat.le_succ _))⟩

set_option maxHeartbeats 4000000 in
set_option maxRecDepth 100000 in
theorem iMake_fields (b off cap N : Nat) (h : HpN) (rg n rc fg nf fc : Nat) (kind mi fz : Int) (w : World)
    (ws S : List Int) (hz : (fz == 0) = false) (hz2 : ¬ fz = 0) (hl : ((nf : Int) != fz) = false) (hl2 : (nf : Int) = fz) (hm : ¬ mi < 0) (hb : ¬ 20 < mi)
    (HLy : Hid (∀ X, Below w.heap.size w X → Calls Try.prog 40 #[heapV (.slice (some ⟨b, off, none⟩) N cap) h] X fun e w' => ∃ gb, e = .returned (.tuple #[layV (.slice (some ⟨b, off, none⟩) N cap) h (.slice (some ⟨gb, 0, none⟩) N N), .bool true]) ∧ Hid (ISt b off gb N ws S w') ∧ Below X.heap.size X w'))
    (HFd : Hid (∀ X, Calls Try.prog 45 #[.int .i64 kind] X fun e w' => e = .returned (.int .i64 fz) ∧ X = w'))
    (HRt : Hid (∀ (X : World) (gb : Nat), Below w.heap.size w X → ISt b off gb N ws S X → Calls Try.prog 46 #[layV (.slice (some ⟨b, off, none⟩) N cap) h (.slice (some ⟨gb, 0, none⟩) N N), .slice (some ⟨rg, 0, none⟩) n rc] X fun e w' => e = .returned (.bool true) ∧ Below X.heap.size X w'))
    (HFa : Hid (∀ (X : World) (gb : Nat), Below w.heap.size w X → ISt b off gb N ws S X → Calls Try.prog 47 #[layV (.slice (some ⟨b, off, none⟩) N cap) h (.slice (some ⟨gb, 0, none⟩) N N), .slice (some ⟨fg, 0, none⟩) nf fc] X fun e w' => e = .returned (.bool false) ∧ Below X.heap.size X w')) :
    Calls Try.prog 16 #[heapV (.slice (some ⟨b, off, none⟩) N cap) h, .slice (some ⟨rg, 0, none⟩) n rc, .int .i64 kind, .slice (some ⟨fg, 0, none⟩) nf fc, .int .i64 mi] w fun e w' => e = .returned (.tuple #[noHeap, .slice none 0 0, .int .i64 0, .bool false]) ∧ Below w.heap.size w w' := by
  obtain ⟨g1, g2, g3, g4, g5, g6, g7, g8, g9⟩ := h
  unfold heapV at *
  dsimp only at *
  obtain ⟨W0, hW0, hA, hR, k2⟩ := both_new w (.slice (some ⟨b, off, none⟩) N cap) ⟨g1, g2, g3, g4, g5, g6, g7, g8, g9⟩
  dsimp only at hW0
  have HW0 := hid hW0
  have HA := hid hA
  have HR := hid hR
  have HK2 := hid k2
  clear hW0 hA hR k2
  go_enter Try.func16, Try.ntmps16
  go_wp2_with fail
  rw [HW0.out]
  refine (HLy.out _ HK2.out).mono ?_
  rintro e W1 ⟨gb, rfl, HI, hb1⟩
  unfold layV at *
  dsimp only at *
  have k1 := HK2.out.trans (hb1.mono HK2.out.size)
  have HB2 := hid (k1.alloc k1.size (.cells #[.slice (some ⟨b, off, none⟩) N cap, .int .i64 g1, .int .i64 g2, .int .i64 g3, .int .i64 g4, .int .i64 g5, .int .i64 g6, .int .i64 g7, .int .i64 g8, .int .i64 g9, .slice (some ⟨gb, 0, none⟩) N N] 59))
  have HR2 := hid ((HR.out.below hb1).below ((Below.refl _ W1).alloc (Nat.le_refl _) (.cells #[.slice (some ⟨b, off, none⟩) N cap, .int .i64 g1, .int .i64 g2, .int .i64 g3, .int .i64 g4, .int .i64 g5, .int .i64 g6, .int .i64 g7, .int .i64 g8, .int .i64 g9, .slice (some ⟨gb, 0, none⟩) N N] 59)))
  have hA1 := HA.out.below hb1
  have HA2 := hid (hA1.below ((Below.refl _ W1).alloc (Nat.le_refl _) (.cells #[.slice (some ⟨b, off, none⟩) N cap, .int .i64 g1, .int .i64 g2, .int .i64 g3, .int .i64 g4, .int .i64 g5, .int .i64 g6, .int .i64 g7, .int .i64 g8, .int .i64 g9, .slice (some ⟨gb, 0, none⟩) N N] 59)))
  have HI2 := hid (HI.out.kept ((Below.refl _ W1).alloc (Nat.le_refl _) (.cells #[.slice (some ⟨b, off, none⟩) N cap, .int .i64 g1, .int .i64 g2, .int .i64 g3, .int .i64 g4, .int .i64 g5, .int .i64 g6, .int .i64 g7, .int .i64 g8, .int .i64 g9, .slice (some ⟨gb, 0, none⟩) N N] 59)))
  have HL2 : Hid ((W1.alloc (.cells #[.slice (some ⟨b, off, none⟩) N cap, .int .i64 g1, .int .i64 g2, .int .i64 g3, .int .i64 g4, .int .i64 g5, .int .i64 g6, .int .i64 g7, .int .i64 g8, .int .i64 g9, .slice (some ⟨gb, 0, none⟩) N N] 59)).heap[W1.heap.size]? = some (.cells #[.slice (some ⟨b, off, none⟩) N cap, .int .i64 g1, .int .i64 g2, .int .i64 g3, .int .i64 g4, .int .i64 g5, .int .i64 g6, .int .i64 g7, .int .i64 g8, .int .i64 g9, .slice (some ⟨gb, 0, none⟩) N N] 59)) := (MapKept.heap_alloc W1 _).1
  clear k1 hb1 HW0 HA HR HK2 HLy HI hA1
  go_wp2_with fail
  generalize W1.alloc (.cells #[.slice (some ⟨b, off, none⟩) N cap, .int .i64 g1, .int .i64 g2, .int .i64 g3, .int .i64 g4, .int .i64 g5, .int .i64 g6, .int .i64 g7, .int .i64 g8, .int .i64 g9, .slice (some ⟨gb, 0, none⟩) N N] 59) = W2 at *
  refine (HFd.out _).mono ?_
  rintro e W3 ⟨rfl, rfl⟩
  go_wp2_with fail
  refine (HFd.out _).mono ?_
  rintro e W3 ⟨rfl, rfl⟩
  have l0 := cell_of_heap HL2.out 0
  have l1 := cell_of_heap HL2.out 1
  have l2 := cell_of_heap HL2.out 2
  have l3 := cell_of_heap HL2.out 3
  have l4 := cell_of_heap HL2.out 4
  have l5 := cell_of_heap HL2.out 5
  have l6 := cell_of_heap HL2.out 6
  have l7 := cell_of_heap HL2.out 7
  have l8 := cell_of_heap HL2.out 8
  have l9 := cell_of_heap HL2.out 9
  have l10 := cell_of_heap HL2.out 10
  simp at l0 l1 l2 l3 l4 l5 l6 l7 l8 l9 l10
  go_wp2_with fail
  refine (HRt.out _ _ HB2.out HI2.out).mono ?_
  rintro e W4 ⟨rfl, hb4⟩
  have HB4 := hid (HB2.out.trans (hb4.mono HB2.out.size))
  have HR4 := hid (HR2.out.below hb4)
  have HA4 := hid (HA2.out.below hb4)
  have HI4 := hid (HI2.out.kept hb4)
  have HL4 := hid ((hb4.block _ (heap_lt HL2.out)).trans HL2.out)
  clear l0 l1 l2 l3 l4 l5 l6 l7 l8 l9 l10
  clear hb4 HB2 HR2 HA2 HI2 HL2 HRt
  have l0 := cell_of_heap HL4.out 0
  have l1 := cell_of_heap HL4.out 1
  have l2 := cell_of_heap HL4.out 2
  have l3 := cell_of_heap HL4.out 3
  have l4 := cell_of_heap HL4.out 4
  have l5 := cell_of_heap HL4.out 5
  have l6 := cell_of_heap HL4.out 6
  have l7 := cell_of_heap HL4.out 7
  have l8 := cell_of_heap HL4.out 8
  have l9 := cell_of_heap HL4.out 9
  have l10 := cell_of_heap HL4.out 10
  simp at l0 l1 l2 l3 l4 l5 l6 l7 l8 l9 l10
  go_wp2_with fail
  refine (HFa.out _ _ HB4.out HI4.out).mono ?_
  rintro e W6 ⟨rfl, hb6⟩
  have HB6 := hid (HB4.out.trans (hb6.mono HB4.out.size))
  have HR6 := hid (HR4.out.below hb6)
  have HA6 := hid (HA4.out.below hb6)
  clear l0 l1 l2 l3 l4 l5 l6 l7 l8 l9 l10
  clear hb6 HB4 HR4 HA4 HI4 HL4 HFa
  obtain ⟨c0, c1, c2, c3, c4, c5, c6, c7, c8, c9⟩ := HR6.out.cells
  dsimp only at c0 c1 c2 c3 c4 c5 c6 c7 c8 c9
  have z0 := frozen_of_heap HR6.out 0
  have z1 := frozen_of_heap HR6.out 1
  have z2 := frozen_of_heap HR6.out 2
  have z3 := frozen_of_heap HR6.out 3
  have z4 := frozen_of_heap HR6.out 4
  have z5 := frozen_of_heap HR6.out 5
  have z6 := frozen_of_heap HR6.out 6
  have z7 := frozen_of_heap HR6.out 7
  have z8 := frozen_of_heap HR6.out 8
  have z9 := frozen_of_heap HR6.out 9
  go_wp2_with fail
  refine heap_use HR6.out (.slice none 0 0) ⟨0, 0, 0, 0, 0, 0, 0, 0, 0⟩ _ ?_
  intro W7z hL hb7 _ _
  obtain ⟨y0, y1, y2, y3, y4, y5, y6, y7, y8, y9⟩ := hL.cells
  dsimp only at y0 y1 y2 y3 y4 y5 y6 y7 y8 y9
  exact bodyPost_ret (v := .tuple #[noHeap, .slice none 0 0, .int .i64 0, .bool false]) (by simp [results, Try.results16, go_sem, y0, y1, y2, y3, y4, y5, y6, y7, y8, y9, noHeap, heapV]) rfl ⟨rfl, HB6.out.trans (hb7 _ (Nat.le_succ _))⟩

set_option maxHeartbeats 4000000 in
set_option maxRecDepth 100000 in
theorem iMake_good (b off cap N : Nat) (h : HpN) (rg n rc fg nf fc : Nat) (kind mi fz : Int) (w : World)
    (ws S : List Int) (hz : (fz == 0) = false) (hz2 : ¬ fz = 0) (hl : ((nf : Int) != fz) = false) (hl2 : (nf : Int) = fz) (hm : ¬ mi < 0) (hb : ¬ 20 < mi) (xs fs : List Int) (s0 : CN) (o : Option (List Int × CN))
    (HLy : Hid (∀ X, Below w.heap.size w X → Calls Try.prog 40 #[heapV (.slice (some ⟨b, off, none⟩) N cap) h] X fun e w' => ∃ gb, e = .returned (.tuple #[layV (.slice (some ⟨b, off, none⟩) N cap) h (.slice (some ⟨gb, 0, none⟩) N N), .bool true]) ∧ Hid (ISt b off gb N ws S w') ∧ Below X.heap.size X w'))
    (HFd : Hid (∀ X, Calls Try.prog 45 #[.int .i64 kind] X fun e w' => e = .returned (.int .i64 fz) ∧ X = w'))
    (HRt : Hid (∀ (X : World) (gb : Nat), Below w.heap.size w X → ISt b off gb N ws S X → Calls Try.prog 46 #[layV (.slice (some ⟨b, off, none⟩) N cap) h (.slice (some ⟨gb, 0, none⟩) N N), .slice (some ⟨rg, 0, none⟩) n rc] X fun e w' => e = .returned (.bool true) ∧ Below X.heap.size X w'))
    (HFa : Hid (∀ (X : World) (gb : Nat), Below w.heap.size w X → ISt b off gb N ws S X → Calls Try.prog 47 #[layV (.slice (some ⟨b, off, none⟩) N cap) h (.slice (some ⟨gb, 0, none⟩) N N), .slice (some ⟨fg, 0, none⟩) nf fc] X fun e w' => e = .returned (.bool true) ∧ Below X.heap.size X w'))
    (HOp : Hid (∀ X, Below w.heap.size w X → Calls Try.prog 48 #[heapV (.slice (some ⟨b, off, none⟩) N cap) h] X fun e w' => ∃ bc bw cap' : Nat, e = .returned (.pointer (some ⟨bc, 0, none⟩)) ∧ ColAt X bc bw N cap' s0 w' ∧ X.heap.size ≤ bc ∧ X.heap.size ≤ bw))
    (HCl : Hid (∀ X, Below w.heap.size w X → Calls Try.prog 49 #[.slice (some ⟨rg, 0, none⟩) n rc] X fun e w' => ∃ g c, e = .returned (.slice (some ⟨g, 0, none⟩) n c) ∧ Hid (CellRow 3 w' g n (intCells xs)) ∧ X.heap.size ≤ g ∧ Below X.heap.size X w'))
    (HCf : Hid (∀ X, Below w.heap.size w X → Calls Try.prog 49 #[.slice (some ⟨fg, 0, none⟩) nf fc] X fun e w' => ∃ g c, e = .returned (.slice (some ⟨g, 0, none⟩) nf c) ∧ Hid (CellRow 3 w' g nf (intCells fs)) ∧ X.heap.size ≤ g ∧ Below X.heap.size X w'))
    (HNw : Hid (∀ (X : World) (bc bw cap' g c gf c2 : Nat), ColAt X bc bw N cap' s0 X → gf ≠ bc → gf ≠ bw → g ≠ bc → g ≠ bw → gf ≠ g → CellRow 3 X gf nf (intCells fs) → CellRow 3 X g n (intCells xs) → Calls Try.prog 50 #[.pointer (some ⟨bc, 0, none⟩), .slice (some ⟨g, 0, none⟩) n c, .int .i64 kind, .slice (some ⟨gf, 0, none⟩) nf c2, .int .i64 mi] X (NewPost X bc bw N cap' g n gf o)))
    (HTd : Hid (∀ (ys : List Int) (s1 : CN) (X w0 : World) (bc bw cap' : Nat), o = some (ys, s1) → ColAt w0 bc bw N cap' s1 X → Calls Try.prog 51 #[.pointer (some ⟨bc, 0, none⟩)] X fun e w' => e = .returned (heapV (.slice (some ⟨bw, 0, none⟩) N cap') { s1.h with touched := touchZ s1 }) ∧ Below X.heap.size X w')) :
    Calls Try.prog 16 #[heapV (.slice (some ⟨b, off, none⟩) N cap) h, .slice (some ⟨rg, 0, none⟩) n rc, .int .i64 kind, .slice (some ⟨fg, 0, none⟩) nf fc, .int .i64 mi] w (MakeTold N n w o) := by
  obtain ⟨g1, g2, g3, g4, g5, g6, g7, g8, g9⟩ := h
  unfold heapV at *
  dsimp only at *
  obtain ⟨W0, hW0, hA, hR, k2⟩ := both_new w (.slice (some ⟨b, off, none⟩) N cap) ⟨g1, g2, g3, g4, g5, g6, g7, g8, g9⟩
  dsimp only at hW0
  have HW0 := hid hW0
  have HA := hid hA
  have HR := hid hR
  have HK2 := hid k2
  clear hW0 hA hR k2
  go_enter Try.func16, Try.ntmps16
  go_wp2_with fail
  rw [HW0.out]
  refine (HLy.out _ HK2.out).mono ?_
  rintro e W1 ⟨gb, rfl, HI, hb1⟩
  unfold layV at *
  dsimp only at *
  have k1 := HK2.out.trans (hb1.mono HK2.out.size)
  have HB2 := hid (k1.alloc k1.size (.cells #[.slice (some ⟨b, off, none⟩) N cap, .int .i64 g1, .int .i64 g2, .int .i64 g3, .int .i64 g4, .int .i64 g5, .int .i64 g6, .int .i64 g7, .int .i64 g8, .int .i64 g9, .slice (some ⟨gb, 0, none⟩) N N] 59))
  have HR2 := hid ((HR.out.below hb1).below ((Below.refl _ W1).alloc (Nat.le_refl _) (.cells #[.slice (some ⟨b, off, none⟩) N cap, .int .i64 g1, .int .i64 g2, .int .i64 g3, .int .i64 g4, .int .i64 g5, .int .i64 g6, .int .i64 g7, .int .i64 g8, .int .i64 g9, .slice (some ⟨gb, 0, none⟩) N N] 59)))
  have hA1 := HA.out.below hb1
  have HA2 := hid (hA1.below ((Below.refl _ W1).alloc (Nat.le_refl _) (.cells #[.slice (some ⟨b, off, none⟩) N cap, .int .i64 g1, .int .i64 g2, .int .i64 g3, .int .i64 g4, .int .i64 g5, .int .i64 g6, .int .i64 g7, .int .i64 g8, .int .i64 g9, .slice (some ⟨gb, 0, none⟩) N N] 59)))
  have HI2 := hid (HI.out.kept ((Below.refl _ W1).alloc (Nat.le_refl _) (.cells #[.slice (some ⟨b, off, none⟩) N cap, .int .i64 g1, .int .i64 g2, .int .i64 g3, .int .i64 g4, .int .i64 g5, .int .i64 g6, .int .i64 g7, .int .i64 g8, .int .i64 g9, .slice (some ⟨gb, 0, none⟩) N N] 59)))
  have HL2 : Hid ((W1.alloc (.cells #[.slice (some ⟨b, off, none⟩) N cap, .int .i64 g1, .int .i64 g2, .int .i64 g3, .int .i64 g4, .int .i64 g5, .int .i64 g6, .int .i64 g7, .int .i64 g8, .int .i64 g9, .slice (some ⟨gb, 0, none⟩) N N] 59)).heap[W1.heap.size]? = some (.cells #[.slice (some ⟨b, off, none⟩) N cap, .int .i64 g1, .int .i64 g2, .int .i64 g3, .int .i64 g4, .int .i64 g5, .int .i64 g6, .int .i64 g7, .int .i64 g8, .int .i64 g9, .slice (some ⟨gb, 0, none⟩) N N] 59)) := (MapKept.heap_alloc W1 _).1
  clear k1 hb1 HW0 HA HR HK2 HLy HI hA1
  go_wp2_with fail
  generalize W1.alloc (.cells #[.slice (some ⟨b, off, none⟩) N cap, .int .i64 g1, .int .i64 g2, .int .i64 g3, .int .i64 g4, .int .i64 g5, .int .i64 g6, .int .i64 g7, .int .i64 g8, .int .i64 g9, .slice (some ⟨gb, 0, none⟩) N N] 59) = W2 at *
  refine (HFd.out _).mono ?_
  rintro e W3 ⟨rfl, rfl⟩
  go_wp2_with fail
  refine (HFd.out _).mono ?_
  rintro e W3 ⟨rfl, rfl⟩
  have l0 := cell_of_heap HL2.out 0
  have l1 := cell_of_heap HL2.out 1
  have l2 := cell_of_heap HL2.out 2
  have l3 := cell_of_heap HL2.out 3
  have l4 := cell_of_heap HL2.out 4
  have l5 := cell_of_heap HL2.out 5
  have l6 := cell_of_heap HL2.out 6
  have l7 := cell_of_heap HL2.out 7
  have l8 := cell_of_heap HL2.out 8
  have l9 := cell_of_heap HL2.out 9
  have l10 := cell_of_heap HL2.out 10
  simp at l0 l1 l2 l3 l4 l5 l6 l7 l8 l9 l10
  go_wp2_with fail
  refine (HRt.out _ _ HB2.out HI2.out).mono ?_
  rintro e W4 ⟨rfl, hb4⟩
  have HB4 := hid (HB2.out.trans (hb4.mono HB2.out.size))
  have HR4 := hid (HR2.out.below hb4)
  have HA4 := hid (HA2.out.below hb4)
  have HI4 := hid (HI2.out.kept hb4)
  have HL4 := hid ((hb4.block _ (heap_lt HL2.out)).trans HL2.out)
  clear l0 l1 l2 l3 l4 l5 l6 l7 l8 l9 l10
  clear hb4 HB2 HR2 HA2 HI2 HL2 HRt
  have l0 := cell_of_heap HL4.out 0
  have l1 := cell_of_heap HL4.out 1
  have l2 := cell_of_heap HL4.out 2
  have l3 := cell_of_heap HL4.out 3
  have l4 := cell_of_heap HL4.out 4
  have l5 := cell_of_heap HL4.out 5
  have l6 := cell_of_heap HL4.out 6
  have l7 := cell_of_heap HL4.out 7
  have l8 := cell_of_heap HL4.out 8
  have l9 := cell_of_heap HL4.out 9
  have l10 := cell_of_heap HL4.out 10
  simp at l0 l1 l2 l3 l4 l5 l6 l7 l8 l9 l10
  go_wp2_with fail
  refine (HFa.out _ _ HB4.out HI4.out).mono ?_
  rintro e W6 ⟨rfl, hb6⟩
  have HB6 := hid (HB4.out.trans (hb6.mono HB4.out.size))
  have HR6 := hid (HR4.out.below hb6)
  have HA6 := hid (HA4.out.below hb6)
  clear l0 l1 l2 l3 l4 l5 l6 l7 l8 l9 l10
  clear hb6 HB4 HR4 HA4 HI4 HL4 HFa
  obtain ⟨c0, c1, c2, c3, c4, c5, c6, c7, c8, c9⟩ := HA6.out.cells
  dsimp only at c0 c1 c2 c3 c4 c5 c6 c7 c8 c9
  go_wp2_with fail
  refine (HOp.out _ HB6.out).mono ?_
  rintro e W7 ⟨bc, bw, cap', rfl, hW7, hlo, hlo2⟩
  have HW7 := hid hW7
  have hlt6 := heap_lt HR6.out
  have HB7 := hid (HB6.out.trans ((Col.frame hW7).below hlo hlo2 |>.mono HB6.out.size))
  clear hW7 HOp HA6 c0 c1 c2 c3 c4 c5 c6 c7 c8 c9
  go_wp2_with fail
  refine (HCl.out _ HB7.out).mono ?_
  rintro e W8 ⟨g, gc, rfl, HRw, hg, hb8⟩
  have HW8 := hid (Col.keep HW7.out hb8)
  have hgc : g ≠ bc := by have := heap_lt (Col.blk HW7.out); omega
  have hgw : g ≠ bw := by have := CellRow.lt (Col.row HW7.out); omega
  have hg6 : W6.heap.size ≤ g := by have := (Col.frame HW7.out).size; omega
  have HB8 := hid (HB7.out.trans (hb8.mono HB7.out.size))
  clear hb8 HCl HB7 hg
  go_wp2_with fail
  refine (HCf.out _ HB8.out).mono ?_
  rintro e W9 ⟨gf, gfc, rfl, HRv, hgf, hb9⟩
  have HW9 := hid (Col.keep HW8.out hb9)
  have HRw9 := hid (HRw.out.of_block (hb9.block g HRw.out.lt))
  have hfc : gf ≠ bc := by have := heap_lt (Col.blk HW8.out); omega
  have hfw : gf ≠ bw := by have := CellRow.lt (Col.row HW8.out); omega
  have hfg : gf ≠ g := by have := HRw.out.lt; omega
  have hf6 : W6.heap.size ≤ gf := by have := (Col.frame HW8.out).size; omega
  have HNw' := hid (HNw.out _ _ _ _ _ gc _ gfc (Col.rebase HW9.out _ (Frm.refl _ _ _)) hfc hfw hgc hgw hfg HRv.out HRw9.out)
  have HF9 := hid (Col.frame HW9.out)
  clear hb9 HCf HNw HW7 HW8 HW9 hgf HRw HRw9 HRv HB8
  go_wp2_with fail
  refine HNw'.out.mono ?_
  intro e W10 hP
  have HP := hid hP
  clear hP HNw'
  have KB : Hid (∀ X, Frm4 W9 bc bw g gf X → Below w.heap.size w X ∧ HeapBlk X (w.heap.size + 1) (.slice none 0 0) ⟨0, 0, 0, 0, 0, 0, 0, 0, 0⟩) := fun X hf => by
    obtain ⟨f1, f2, f3, f4, f5⟩ := hf
    have e1 : Below W6.heap.size W6 X := ⟨f1.trans HF9.out.os, f2.trans HF9.out.tape, f3.trans HF9.out.output, Nat.le_trans HF9.out.size f4, fun c hc => (f5 c (Nat.lt_of_lt_of_le hc HF9.out.size) (by omega) (by omega) (by omega) (by omega)).trans (HF9.out.block c hc (by omega) (by omega))⟩
    exact ⟨HB6.out.trans (e1.mono HB6.out.size), HR6.out.below e1⟩
  cases o with
  | none =>
    obtain ⟨rfl, hf⟩ := HP.out
    have HB8 := hid (KB.out _ hf).1
    have HR8 := hid (KB.out _ hf).2
    clear hf HP KB HF9 HR6 HB6 HTd
    obtain ⟨c0, c1, c2, c3, c4, c5, c6, c7, c8, c9⟩ := HR8.out.cells
    dsimp only at c0 c1 c2 c3 c4 c5 c6 c7 c8 c9
    have z0 := frozen_of_heap HR8.out 0
    have z1 := frozen_of_heap HR8.out 1
    have z2 := frozen_of_heap HR8.out 2
    have z3 := frozen_of_heap HR8.out 3
    have z4 := frozen_of_heap HR8.out 4
    have z5 := frozen_of_heap HR8.out 5
    have z6 := frozen_of_heap HR8.out 6
    have z7 := frozen_of_heap HR8.out 7
    have z8 := frozen_of_heap HR8.out 8
    have z9 := frozen_of_heap HR8.out 9
    go_wp2_with fail
    refine heap_use HR8.out (.slice none 0 0) ⟨0, 0, 0, 0, 0, 0, 0, 0, 0⟩ _ ?_
    intro W7z hL hb7 _ _
    obtain ⟨y0, y1, y2, y3, y4, y5, y6, y7, y8, y9⟩ := hL.cells
    dsimp only at y0 y1 y2 y3 y4 y5 y6 y7 y8 y9
    exact bodyPost_ret (v := .tuple #[noHeap, .slice none 0 0, .int .i64 0, .bool false]) (by simp [results, Try.results16, go_sem, y0, y1, y2, y3, y4, y5, y6, y7, y8, y9, noHeap, heapV]) rfl ⟨rfl, HB8.out.trans (hb7 _ (Nat.le_succ _))⟩
  | some p =>
    obtain ⟨ys, s1⟩ := p
    obtain ⟨rfl, hc9, hr9, hf9⟩ := HP.out
    have HW9 := hid hc9
    have HRy := hid hr9
    have HF10 := hid hf9
    have HTd' := hid (HTd.out ys s1 W10 W10 bc bw cap' rfl HW9.out)
    clear hc9 hr9 hf9 HP HTd
    obtain ⟨i9, hi9⟩ : ∃ i9, touchZ s1 = i9 := ⟨_, rfl⟩
    have HI9 := hid hi9
    rw [hi9] at HTd'
    obtain ⟨wd, hwd⟩ : ∃ wd, makeZ 0 s1.h.top = wd := ⟨_, rfl⟩
    have HWd := hid hwd
    rw [hwd]
    clear hi9 hwd
    go_wp2_with fail
    refine HTd'.out.mono ?_
    rintro e W11 ⟨rfl, hb10⟩
    have HW11 := hid (Col.keep HW9.out hb10)
    have HRy11 := hid (HRy.out.of_block (hb10.block g HRy.out.lt))
    have HB11 := hid ((KB.out _ HF10.out).1.trans (hb10.mono (KB.out _ HF10.out).1.size))
    have HR11 := hid ((KB.out _ HF10.out).2.below hb10)
    obtain ⟨c0, c1, c2, c3, c4, c5, c6, c7, c8, c9⟩ := HR11.out.cells
    dsimp only at c0 c1 c2 c3 c4 c5 c6 c7 c8 c9
    have z0 := frozen_of_heap HR11.out 0
    have z1 := frozen_of_heap HR11.out 1
    have z2 := frozen_of_heap HR11.out 2
    have z3 := frozen_of_heap HR11.out 3
    have z4 := frozen_of_heap HR11.out 4
    have z5 := frozen_of_heap HR11.out 5
    have z6 := frozen_of_heap HR11.out 6
    have z7 := frozen_of_heap HR11.out 7
    have z8 := frozen_of_heap HR11.out 8
    have z9 := frozen_of_heap HR11.out 9
    have hsz6 := HB6.out.size
    clear hb10 HTd' HW9 HRy HF10 KB HF9 HR6 HB6
    go_wp2_with fail
    refine heap_use HR11.out (.slice (some ⟨bw, 0, none⟩) N cap') ⟨s1.h.size, s1.h.to, s1.h.bottom, s1.h.top, s1.h.scan, s1.h.fb, s1.h.ft, s1.h.flips, i9⟩ _ ?_
    intro W12 hL hb11 _ hoth
    obtain ⟨y0, y1, y2, y3, y4, y5, y6, y7, y8, y9⟩ := hL.cells
    dsimp only at y0 y1 y2 y3 y4 y5 y6 y7 y8 y9
    refine bodyPost_ret (v := .tuple #[heapV (.slice (some ⟨bw, 0, none⟩) N cap') ⟨s1.h.size, s1.h.to, s1.h.bottom, s1.h.top, s1.h.scan, s1.h.fb, s1.h.ft, s1.h.flips, i9⟩, .slice (some ⟨g, 0, none⟩) n gc, .int .i64 wd, .bool true]) (by simp [results, Try.results16, go_sem, y0, y1, y2, y3, y4, y5, y6, y7, y8, y9, heapV]) rfl ?_
    exact ⟨bw, cap', g, gc, by rw [HI9.out, HWd.out], HW11.out.row.of_block (hoth _ (by omega)), HRy11.out.of_block (hoth _ (by omega)), hgw, by omega, by omega, HB11.out.trans (hb11 _ (Nat.le_succ _))⟩

end Go.Proofs.Ytnoobonlmfgfhaa
