import Derived.Test.YtebpgglegnljgaaSlmPK3
import Derived.Test.YtebpgglegnljgaaSlmPK4
import Derived.Test.YtebpgglegnljgaaSlmPK6
import Derived.Deep.Cut
import Derived.Test.YtebpgglegnljgaaSlmPK5
import Derived.Test.YtebpgglegnljgaaSlmPK7
import Derived.Test.YtebpgglegnljgaaSlmPK0
import Derived.Test.YtebpgglegnljgaaSlmPK2
namespace Go.Proofs.Ytebpgglegnljgaa
open Go.RowKit
set_option linter.unusedVariables false

def MakeTold (N n : Nat) (w : World) (o : Option (List Int × CN)) (e : Ending) (w' : World) : Prop :=
  match o with
  | some (ys, s) => ∃ bw cap' g c : Nat, e = .returned (.tuple #[heapV (.slice (some ⟨bw, 0, none⟩) N cap') { s.h with touched := touchZ s }, .slice (some ⟨g, 0, none⟩) n c, .int .i64 (makeZ 0 s.h.top), .bool true]) ∧ CellRow 3 w' bw N (intCells s.ws) ∧ CellRow 3 w' g n (intCells ys) ∧ g ≠ bw ∧ w.heap.size ≤ bw ∧ w.heap.size ≤ g ∧ Below w.heap.size w w'
  | none => e = .returned (.tuple #[noHeap, .slice none 0 0, .int .i64 0, .bool false]) ∧ Below w.heap.size w w'

set_option maxHeartbeats 4000000 in
set_option maxRecDepth 100000 in
theorem iMake_notOk (b off cap N : Nat) (h : HpN) (rg n rc fg nf fc : Nat) (kind mi fz : Int) (w : World)
    (HLy : Hid (∀ X, Below w.heap.size w X → Calls Try.prog 30 #[heapV (.slice (some ⟨b, off, none⟩) N cap) h] X fun e w' => e = .returned (.tuple #[noLay, .bool false]) ∧ Below X.heap.size X w')) :
    Calls Try.prog 12 #[heapV (.slice (some ⟨b, off, none⟩) N cap) h, .slice (some ⟨rg, 0, none⟩) n rc, .int .i64 kind, .slice (some ⟨fg, 0, none⟩) nf fc, .int .i64 mi] w fun e w' => e = .returned (.tuple #[noHeap, .slice none 0 0, .int .i64 0, .bool false]) ∧ Below w.heap.size w w' := by
  obtain ⟨g1, g2, g3, g4, g5, g6, g7, g8, g9⟩ := h
  unfold heapV at *
  dsimp only at *
  obtain ⟨W0, hW0, hA, hR, k2⟩ := both_new w (.slice (some ⟨b, off, none⟩) N cap) ⟨g1, g2, g3, g4, g5, g6, g7, g8, g9⟩
  dsimp only at hW0
  have HW0 := hid hW0
  have HA := hid hA
  have HR := hid hR
  have HK2 := hid k2
  clear hW0 hA hR k2
  go_enter Try.func12, Try.ntmps12
  go_wp2_with fail
  rw [HW0.out]
  refine (HLy.out _ HK2.out).mono ?_
  rintro e W1 ⟨rfl, hb1⟩
  unfold noLay layV
  dsimp only
  have k1 := HK2.out.trans (hb1.mono HK2.out.size)
  have HB6 := hid (k1.alloc k1.size (.cells #[.slice none 0 0, .int .i64 0, .int .i64 0, .int .i64 0, .int .i64 0, .int .i64 0, .int .i64 0, .int .i64 0, .int .i64 0, .int .i64 0, .slice none 0 0] 58))
  have hR1 := HR.out.below hb1
  have HR6 := hid (hR1.below ((Below.refl _ W1).alloc (Nat.le_refl _) (.cells #[.slice none 0 0, .int .i64 0, .int .i64 0, .int .i64 0, .int .i64 0, .int .i64 0, .int .i64 0, .int .i64 0, .int .i64 0, .int .i64 0, .slice none 0 0] 58)))
  have hltR := heap_lt hR1
  clear k1 hb1 HW0 HA HR HK2 HLy
  clear hR1
  go_upto_if 56 with fail
  generalize W1.alloc (.cells #[.slice none 0 0, .int .i64 0, .int .i64 0, .int .i64 0, .int .i64 0, .int .i64 0, .int .i64 0, .int .i64 0, .int .i64 0, .int .i64 0, .slice none 0 0] 58) = W2 at *
  obtain ⟨c0, c1, c2, c3, c4, c5, c6, c7, c8, c9⟩ := HR6.out.cells
  dsimp only at c0 c1 c2 c3 c4 c5 c6 c7 c8 c9
  have z0 := frozen_of_heap HR6.out 0
  have z1 := frozen_of_heap HR6.out 1
  have z2 := frozen_of_heap HR6.out 2
  have z3 := frozen_of_heap HR6.out 3
  have z4 := frozen_of_heap HR6.out 4
  have z5 := frozen_of_heap HR6.out 5
  have z6 := frozen_of_heap HR6.out 6
  have z7 := frozen_of_heap HR6.out 7
  have z8 := frozen_of_heap HR6.out 8
  have z9 := frozen_of_heap HR6.out 9
  go_wp2_with fail
  refine heap_use HR6.out (.slice none 0 0) ⟨0, 0, 0, 0, 0, 0, 0, 0, 0⟩ _ ?_
  intro W7z hL hb7 _ _
  obtain ⟨y0, y1, y2, y3, y4, y5, y6, y7, y8, y9⟩ := hL.cells
  dsimp only at y0 y1 y2 y3 y4 y5 y6 y7 y8 y9
  exact bodyPost_ret (v := .tuple #[noHeap, .slice none 0 0, .int .i64 0, .bool false]) (by simp [results, Try.results12, go_sem, y0, y1, y2, y3, y4, y5, y6, y7, y8, y9, noHeap, heapV]) rfl ⟨rfl, HB6.out.trans (hb7 _ (Nat.le_succ _))⟩

set_option maxHeartbeats 4000000 in
set_option maxRecDepth 100000 in
theorem iMake_kind (b off cap N : Nat) (h : HpN) (rg n rc fg nf fc : Nat) (kind mi fz : Int) (w : World)
    (ws S : List Int) (hz : (fz == 0) = true) (hz2 : fz = 0)
    (HLy : Hid (∀ X, Below w.heap.size w X → Calls Try.prog 30 #[heapV (.slice (some ⟨b, off, none⟩) N cap) h] X fun e w' => ∃ gb, e = .returned (.tuple #[layV (.slice (some ⟨b, off, none⟩) N cap) h (.slice (some ⟨gb, 0, none⟩) N N), .bool true]) ∧ Hid (ISt b off gb N ws S w') ∧ Below X.heap.size X w'))
    (HFd : Hid (∀ X, Calls Try.prog 40 #[.int .i64 kind] X fun e w' => e = .returned (.int .i64 fz) ∧ X = w')) :
    Calls Try.prog 12 #[heapV (.slice (some ⟨b, off, none⟩) N cap) h, .slice (some ⟨rg, 0, none⟩) n rc, .int .i64 kind, .slice (some ⟨fg, 0, none⟩) nf fc, .int .i64 mi] w fun e w' => e = .returned (.tuple #[noHeap, .slice none 0 0, .int .i64 0, .bool false]) ∧ Below w.heap.size w w' := by
  obtain ⟨g1, g2, g3, g4, g5, g6, g7, g8, g9⟩ := h
  unfold heapV at *
  dsimp only at *
  obtain ⟨W0, hW0, hA, hR, k2⟩ := both_new w (.slice (some ⟨b, off, none⟩) N cap) ⟨g1, g2, g3, g4, g5, g6, g7, g8, g9⟩
  dsimp only at hW0
  have HW0 := hid hW0
  have HA := hid hA
  have HR := hid hR
  have HK2 := hid k2
  clear hW0 hA hR k2
  go_enter Try.func12, Try.ntmps12
  go_wp2_with fail
  rw [HW0.out]
  refine (HLy.out _ HK2.out).mono ?_
  rintro e W1 ⟨gb, rfl, HI, hb1⟩
  unfold layV at *
  dsimp only at *
  have k1 := HK2.out.trans (hb1.mono HK2.out.size)
  have HB2 := hid (k1.alloc k1.size (.cells #[.slice (some ⟨b, off, none⟩) N cap, .int .i64 g1, .int .i64 g2, .int .i64 g3, .int .i64 g4, .int .i64 g5, .int .i64 g6, .int .i64 g7, .int .i64 g8, .int .i64 g9, .slice (some ⟨gb, 0, none⟩) N N] 58))
  have HR2 := hid ((HR.out.below hb1).below ((Below.refl _ W1).alloc (Nat.le_refl _) (.cells #[.slice (some ⟨b, off, none⟩) N cap, .int .i64 g1, .int .i64 g2, .int .i64 g3, .int .i64 g4, .int .i64 g5, .int .i64 g6, .int .i64 g7, .int .i64 g8, .int .i64 g9, .slice (some ⟨gb, 0, none⟩) N N] 58)))
  have hA1 := HA.out.below hb1
  have HA2 := hid (hA1.below ((Below.refl _ W1).alloc (Nat.le_refl _) (.cells #[.slice (some ⟨b, off, none⟩) N cap, .int .i64 g1, .int .i64 g2, .int .i64 g3, .int .i64 g4, .int .i64 g5, .int .i64 g6, .int .i64 g7, .int .i64 g8, .int .i64 g9, .slice (some ⟨gb, 0, none⟩) N N] 58)))
  have HI2 := hid (HI.out.kept ((Below.refl _ W1).alloc (Nat.le_refl _) (.cells #[.slice (some ⟨b, off, none⟩) N cap, .int .i64 g1, .int .i64 g2, .int .i64 g3, .int .i64 g4, .int .i64 g5, .int .i64 g6, .int .i64 g7, .int .i64 g8, .int .i64 g9, .slice (some ⟨gb, 0, none⟩) N N] 58)))
  have HL2 : Hid ((W1.alloc (.cells #[.slice (some ⟨b, off, none⟩) N cap, .int .i64 g1, .int .i64 g2, .int .i64 g3, .int .i64 g4, .int .i64 g5, .int .i64 g6, .int .i64 g7, .int .i64 g8, .int .i64 g9, .slice (some ⟨gb, 0, none⟩) N N] 58)).heap[W1.heap.size]? = some (.cells #[.slice (some ⟨b, off, none⟩) N cap, .int .i64 g1, .int .i64 g2, .int .i64 g3, .int .i64 g4, .int .i64 g5, .int .i64 g6, .int .i64 g7, .int .i64 g8, .int .i64 g9, .slice (some ⟨gb, 0, none⟩) N N] 58)) := (MapKept.heap_alloc W1 _).1
  clear k1 hb1 HW0 HA HR HK2 HLy HI hA1
  go_wp2_with fail
  generalize W1.alloc (.cells #[.slice (some ⟨b, off, none⟩) N cap, .int .i64 g1, .int .i64 g2, .int .i64 g3, .int .i64 g4, .int .i64 g5, .int .i64 g6, .int .i64 g7, .int .i64 g8, .int .i64 g9, .slice (some ⟨gb, 0, none⟩) N N] 58) = W2 at *
  refine (HFd.out _).mono ?_
  rintro e W3 ⟨rfl, rfl⟩
  have HR6 := HR2
  have HB6 := HB2
  clear HR2 HB2 HA2 HI2
  go_upto_if 56 with fail
  obtain ⟨c0, c1, c2, c3, c4, c5, c6, c7, c8, c9⟩ := HR6.out.cells
  dsimp only at c0 c1 c2 c3 c4 c5 c6 c7 c8 c9
  have z0 := frozen_of_heap HR6.out 0
  have z1 := frozen_of_heap HR6.out 1
  have z2 := frozen_of_heap HR6.out 2
  have z3 := frozen_of_heap HR6.out 3
  have z4 := frozen_of_heap HR6.out 4
  have z5 := frozen_of_heap HR6.out 5
  have z6 := frozen_of_heap HR6.out 6
  have z7 := frozen_of_heap HR6.out 7
  have z8 := frozen_of_heap HR6.out 8
  have z9 := frozen_of_heap HR6.out 9
  go_wp2_with fail
  refine heap_use HR6.out (.slice none 0 0) ⟨0, 0, 0, 0, 0, 0, 0, 0, 0⟩ _ ?_
  intro W7z hL hb7 _ _
  obtain ⟨y0, y1, y2, y3, y4, y5, y6, y7, y8, y9⟩ := hL.cells
  dsimp only at y0 y1 y2 y3 y4 y5 y6 y7 y8 y9
  exact bodyPost_ret (v := .tuple #[noHeap, .slice none 0 0, .int .i64 0, .bool false]) (by simp [results, Try.results12, go_sem, y0, y1, y2, y3, y4, y5, y6, y7, y8, y9, noHeap, heapV]) rfl ⟨rfl, HB6.out.trans (hb7 _ (Nat.le_succ _))⟩

set_option maxHeartbeats 4000000 in
set_option maxRecDepth 100000 in
theorem iMake_len (b off cap N : Nat) (h : HpN) (rg n rc fg nf fc : Nat) (kind mi fz : Int) (w : World)
    (ws S : List Int) (hz : (fz == 0) = false) (hz2 : ¬ fz = 0) (hl : ((nf : Int) != fz) = true) (hl2 : ¬ (nf : Int) = fz)
    (HLy : Hid (∀ X, Below w.heap.size w X → Calls Try.prog 30 #[heapV (.slice (some ⟨b, off, none⟩) N cap) h] X fun e w' => ∃ gb, e = .returned (.tuple #[layV (.slice (some ⟨b, off, none⟩) N cap) h (.slice (some ⟨gb, 0, none⟩) N N), .bool true]) ∧ Hid (ISt b off gb N ws S w') ∧ Below X.heap.size X w'))
    (HFd : Hid (∀ X, Calls Try.prog 40 #[.int .i64 kind] X fun e w' => e = .returned (.int .i64 fz) ∧ X = w')) :
    Calls Try.prog 12 #[heapV (.slice (some ⟨b, off, none⟩) N cap) h, .slice (some ⟨rg, 0, none⟩) n rc, .int .i64 kind, .slice (some ⟨fg, 0, none⟩) nf fc, .int .i64 mi] w fun e w' => e = .returned (.tuple #[noHeap, .slice none 0 0, .int .i64 0, .bool false]) ∧ Below w.heap.size w w' := by
  obtain ⟨g1, g2, g3, g4, g5, g6, g7, g8, g9⟩ := h
  unfold heapV at *
  dsimp only at *
  obtain ⟨W0, hW0, hA, hR, k2⟩ := both_new w (.slice (some ⟨b, off, none⟩) N cap) ⟨g1, g2, g3, g4, g5, g6, g7, g8, g9⟩
  dsimp only at hW0
  have HW0 := hid hW0
  have HA := hid hA
  have HR := hid hR
  have HK2 := hid k2
  clear hW0 hA hR k2
  go_enter Try.func12, Try.ntmps12
  go_wp2_with fail
  rw [HW0.out]
  refine (HLy.out _ HK2.out).mono ?_
  rintro e W1 ⟨gb, rfl, HI, hb1⟩
  unfold layV at *
  dsimp only at *
  have k1 := HK2.out.trans (hb1.mono HK2.out.size)
  have HB2 := hid (k1.alloc k1.size (.cells #[.slice (some ⟨b, off, none⟩) N cap, .int .i64 g1, .int .i64 g2, .int .i64 g3, .int .i64 g4, .int .i64 g5, .int .i64 g6, .int .i64 g7, .int .i64 g8, .int .i64 g9, .slice (some ⟨gb, 0, none⟩) N N] 58))
  have HR2 := hid ((HR.out.below hb1).below ((Below.refl _ W1).alloc (Nat.le_refl _) (.cells #[.slice (some ⟨b, off, none⟩) N cap, .int .i64 g1, .int .i64 g2, .int .i64 g3, .int .i64 g4, .int .i64 g5, .int .i64 g6, .int .i64 g7, .int .i64 g8, .int .i64 g9, .slice (some ⟨gb, 0, none⟩) N N] 58)))
  have hA1 := HA.out.below hb1
  have HA2 := hid (hA1.below ((Below.refl _ W1).alloc (Nat.le_refl _) (.cells #[.slice (some ⟨b, off, none⟩) N cap, .int .i64 g1, .int .i64 g2, .int .i64 g3, .int .i64 g4, .int .i64 g5, .int .i64 g6, .int .i64 g7, .int .i64 g8, .int .i64 g9, .slice (some ⟨gb, 0, none⟩) N N] 58)))
  have HI2 := hid (HI.out.kept ((Below.refl _ W1).alloc (Nat.le_refl _) (.cells #[.slice (some ⟨b, off, none⟩) N cap, .int .i64 g1, .int .i64 g2, .int .i64 g3, .int .i64 g4, .int .i64 g5, .int .i64 g6, .int .i64 g7, .int .i64 g8, .int .i64 g9, .slice (some ⟨gb, 0, none⟩) N N] 58)))
  have HL2 : Hid ((W1.alloc (.cells #[.slice (some ⟨b, off, none⟩) N cap, .int .i64 g1, .int .i64 g2, .int .i64 g3, .int .i64 g4, .int .i64 g5, .int .i64 g6, .int .i64 g7, .int .i64 g8, .int .i64 g9, .slice (some ⟨gb, 0, none⟩) N N] 58)).heap[W1.heap.size]? = some (.cells #[.slice (some ⟨b, off, none⟩) N cap, .int .i64 g1, .int .i64 g2, .int .i64 g3, .int .i64 g4, .int .i64 g5, .int .i64 g6, .int .i64 g7, .int .i64 g8, .int .i64 g9, .slice (some ⟨gb, 0, none⟩) N N] 58)) := (MapKept.heap_alloc W1 _).1
  clear k1 hb1 HW0 HA HR HK2 HLy HI hA1
  go_wp2_with fail
  generalize W1.alloc (.cells #[.slice (some ⟨b, off, none⟩) N cap, .int .i64 g1, .int .i64 g2, .int .i64 g3, .int .i64 g4, .int .i64 g5, .int .i64 g6, .int .i64 g7, .int .i64 g8, .int .i64 g9, .slice (some ⟨gb, 0, none⟩) N N] 58) = W2 at *
  refine (HFd.out _).mono ?_
  rintro e W3 ⟨rfl, rfl⟩
  go_wp2_with fail
  refine (HFd.out _).mono ?_
  rintro e W3 ⟨rfl, rfl⟩
  have HR6 := HR2
  have HB6 := HB2
  clear HR2 HB2 HA2 HI2
  go_upto_if 56 with fail
  obtain ⟨c0, c1, c2, c3, c4, c5, c6, c7, c8, c9⟩ := HR6.out.cells
  dsimp only at c0 c1 c2 c3 c4 c5 c6 c7 c8 c9
  have z0 := frozen_of_heap HR6.out 0
  have z1 := frozen_of_heap HR6.out 1
  have z2 := frozen_of_heap HR6.out 2
  have z3 := frozen_of_heap HR6.out 3
  have z4 := frozen_of_heap HR6.out 4
  have z5 := frozen_of_heap HR6.out 5
  have z6 := frozen_of_heap HR6.out 6
  have z7 := frozen_of_heap HR6.out 7
  have z8 := frozen_of_heap HR6.out 8
  have z9 := frozen_of_heap HR6.out 9
  go_wp2_with fail
  refine heap_use HR6.out (.slice none 0 0) ⟨0, 0, 0, 0, 0, 0, 0, 0, 0⟩ _ ?_
  intro W7z hL hb7 _ _
  obtain ⟨y0, y1, y2, y3, y4, y5, y6, y7, y8, y9⟩ := hL.cells
  dsimp only at y0 y1 y2 y3 y4 y5 y6 y7 y8 y9
  exact bodyPost_ret (v := .tuple #[noHeap, .slice none 0 0, .int .i64 0, .bool false]) (by simp [results, Try.results12, go_sem, y0, y1, y2, y3, y4, y5, y6, y7, y8, y9, noHeap, heapV]) rfl ⟨rfl, HB6.out.trans (hb7 _ (Nat.le_succ _))⟩

set_option maxHeartbeats 4000000 in
set_option maxRecDepth 100000 in
theorem iMake_neg (b off cap N : Nat) (h : HpN) (rg n rc fg nf fc : Nat) (kind mi fz : Int) (w : World)
    (ws S : List Int) (hz : (fz == 0) = false) (hz2 : ¬ fz = 0) (hl : ((nf : Int) != fz) = false) (hl2 : (nf : Int) = fz) (hm : mi < 0)
    (HLy : Hid (∀ X, Below w.heap.size w X → Calls Try.prog 30 #[heapV (.slice (some ⟨b, off, none⟩) N cap) h] X fun e w' => ∃ gb, e = .returned (.tuple #[layV (.slice (some ⟨b, off, none⟩) N cap) h (.slice (some ⟨gb, 0, none⟩) N N), .bool true]) ∧ Hid (ISt b off gb N ws S w') ∧ Below X.heap.size X w'))
    (HFd : Hid (∀ X, Calls Try.prog 40 #[.int .i64 kind] X fun e w' => e = .returned (.int .i64 fz) ∧ X = w')) :
    Calls Try.prog 12 #[heapV (.slice (some ⟨b, off, none⟩) N cap) h, .slice (some ⟨rg, 0, none⟩) n rc, .int .i64 kind, .slice (some ⟨fg, 0, none⟩) nf fc, .int .i64 mi] w fun e w' => e = .returned (.tuple #[noHeap, .slice none 0 0, .int .i64 0, .bool false]) ∧ Below w.heap.size w w' := by
  obtain ⟨g1, g2, g3, g4, g5, g6, g7, g8, g9⟩ := h
  unfold heapV at *
  dsimp only at *
  obtain ⟨W0, hW0, hA, hR, k2⟩ := both_new w (.slice (some ⟨b, off, none⟩) N cap) ⟨g1, g2, g3, g4, g5, g6, g7, g8, g9⟩
  dsimp only at hW0
  have HW0 := hid hW0
  have HA := hid hA
  have HR := hid hR
  have HK2 := hid k2
  clear hW0 hA hR k2
  go_enter Try.func12, Try.ntmps12
  go_wp2_with fail
  rw [HW0.out]
  refine (HLy.out _ HK2.out).mono ?_
  rintro e W1 ⟨gb, rfl, HI, hb1⟩
  unfold layV at *
  dsimp only at *
  have k1 := HK2.out.trans (hb1.mono HK2.out.size)
  have HB2 := hid (k1.alloc k1.size (.cells #[.slice (some ⟨b, off, none⟩) N cap, .int .i64 g1, .int .i64 g2, .int .i64 g3, .int .i64 g4, .int .i64 g5, .int .i64 g6, .int .i64 g7, .int .i64 g8, .int .i64 g9, .slice (some ⟨gb, 0, none⟩) N N] 58))
  have HR2 := hid ((HR.out.below hb1).below ((Below.refl _ W1).alloc (Nat.le_refl _) (.cells #[.slice (some ⟨b, off, none⟩) N cap, .int .i64 g1, .int .i64 g2, .int .i64 g3, .int .i64 g4, .int .i64 g5, .int .i64 g6, .int .i64 g7, .int .i64 g8, .int .i64 g9, .slice (some ⟨gb, 0, none⟩) N N] 58)))
  have hA1 := HA.out.below hb1
  have HA2 := hid (hA1.below ((Below.refl _ W1).alloc (Nat.le_refl _) (.cells #[.slice (some ⟨b, off, none⟩) N cap, .int .i64 g1, .int .i64 g2, .int .i64 g3, .int .i64 g4, .int .i64 g5, .int .i64 g6, .int .i64 g7, .int .i64 g8, .int .i64 g9, .slice (some ⟨gb, 0, none⟩) N N] 58)))
  have HI2 := hid (HI.out.kept ((Below.refl _ W1).alloc (Nat.le_refl _) (.cells #[.slice (some ⟨b, off, none⟩) N cap, .int .i64 g1, .int .i64 g2, .int .i64 g3, .int .i64 g4, .int .i64 g5, .int .i64 g6, .int .i64 g7, .int .i64 g8, .int .i64 g9, .slice (some ⟨gb, 0, none⟩) N N] 58)))
  have HL2 : Hid ((W1.alloc (.cells #[.slice (some ⟨b, off, none⟩) N cap, .int .i64 g1, .int .i64 g2, .int .i64 g3, .int .i64 g4, .int .i64 g5, .int .i64 g6, .int .i64 g7, .int .i64 g8, .int .i64 g9, .slice (some ⟨gb, 0, none⟩) N N] 58)).heap[W1.heap.size]? = some (.cells #[.slice (some ⟨b, off, none⟩) N cap, .int .i64 g1, .int .i64 g2, .int .i64 g3, .int .i64 g4, .int .i64 g5, .int .i64 g6, .int .i64 g7, .int .i64 g8, .int .i64 g9, .slice (some ⟨gb, 0, none⟩) N N] 58)) := (MapKept.heap_alloc W1 _).1
  clear k1 hb1 HW0 HA HR HK2 HLy HI hA1
  go_wp2_with fail
  generalize W1.alloc (.cells #[.slice (some ⟨b, off, none⟩) N cap, .int .i64 g1, .int .i64 g2, .int .i64 g3, .int .i64 g4, .int .i64 g5, .int .i64 g6, .int .i64 g7, .int .i64 g8, .int .i64 g9, .slice (some ⟨gb, 0, none⟩) N N] 58) = W2 at *
  refine (HFd.out _).mono ?_
  rintro e W3 ⟨rfl, rfl⟩
  go_wp2_with fail
  refine (HFd.out _).mono ?_
  rintro e W3 ⟨rfl, rfl⟩
  have HR6 := HR2
  have HB6 := HB2
  clear HR2 HB2 HA2 HI2
  go_upto_if 56 with fail
  obtain ⟨c0, c1, c2, c3, c4, c5, c6, c7, c8, c9⟩ := HR6.out.cells
  dsimp only at c0 c1 c2 c3 c4 c5 c6 c7 c8 c9
  have z0 := frozen_of_heap HR6.out 0
  have z1 := frozen_of_heap HR6.out 1
  have z2 := frozen_of_heap HR6.out 2
  have z3 := frozen_of_heap HR6.out 3
  have z4 := frozen_of_heap HR6.out 4
  have z5 := frozen_of_heap HR6.out 5
  have z6 := frozen_of_heap HR6.out 6
  have z7 := frozen_of_heap HR6.out 7
  have z8 := frozen_of_heap HR6.out 8
  have z9 := frozen_of_heap HR6.out 9
  go_wp2_with fail
  refine heap_use HR6.out (.slice none 0 0) ⟨0, 0, 0, 0, 0, 0, 0, 0, 0⟩ _ ?_
  intro W7z hL hb7 _ _
  obtain ⟨y0, y1, y2, y3, y4, y5, y6, y7, y8, y9⟩ := hL.cells
  dsimp only at y0 y1 y2 y3 y4 y5 y6 y7 y8 y9
  exact bodyPost_ret (v := .tuple #[noHeap, .slice none 0 0, .int .i64 0, .bool false]) (by simp [results, Try.results12, go_sem, y0, y1, y2, y3, y4, y5, y6, y7, y8, y9, noHeap, heapV]) rfl ⟨rfl, HB6.out.trans (hb7 _ (Nat.le_succ _))⟩

set_option maxHeartbeats 4000000 in
set_option maxRecDepth 100000 in
theorem iMake_big (b off cap N : Nat) (h : HpN) (rg n rc fg nf fc : Nat) (kind mi fz : Int) (w : World)
    (ws S : List Int) (hz : (fz == 0) = false) (hz2 : ¬ fz = 0) (hl : ((nf : Int) != fz) = false) (hl2 : (nf : Int) = fz) (hm : ¬ mi < 0) (hb : 20 < mi)
    (HLy : Hid (∀ X, Below w.heap.size w X → Calls Try.prog 30 #[heapV (.slice (some ⟨b, off, none⟩) N cap) h] X fun e w' => ∃ gb, e = .returned (.tuple #[layV (.slice (some ⟨b, off, none⟩) N cap) h (.slice (some ⟨gb, 0, none⟩) N N), .bool true]) ∧ Hid (ISt b off gb N ws S w') ∧ Below X.heap.size X w'))
    (HFd : Hid (∀ X, Calls Try.prog 40 #[.int .i64 kind] X fun e w' => e = .returned (.int .i64 fz) ∧ X = w')) :
    Calls Try.prog 12 #[heapV (.slice (some ⟨b, off, none⟩) N cap) h, .slice (some ⟨rg, 0, none⟩) n rc, .int .i64 kind, .slice (some ⟨fg, 0, none⟩) nf fc, .int .i64 mi] w fun e w' => e = .returned (.tuple #[noHeap, .slice none 0 0, .int .i64 0, .bool false]) ∧ Below w.heap.size w w' := by
  obtain ⟨g1, g2, g3, g4, g5, g6, g7, g8, g9⟩ := h
  unfold heapV at *
  dsimp only at *
  obtain ⟨W0, hW0, hA, hR, k2⟩ := both_new w (.slice (some ⟨b, off, none⟩) N cap) ⟨g1, g2, g3, g4, g5, g6, g7, g8, g9⟩
  dsimp only at hW0
  have HW0 := hid hW0
  have HA := hid hA
  have HR := hid hR
  have HK2 := hid k2
  clear hW0 hA hR k2
  go_enter Try.func12, Try.ntmps12
  go_wp2_with fail
  rw [HW0.out]
  refine (HLy.out _ HK2.out).mono ?_
  rintro e W1 ⟨gb, rfl, HI, hb1⟩
  unfold layV at *
  dsimp only at *
  have k1 := HK2.out.trans (hb1.mono HK2.out.size)
  have HB2 := hid (k1.alloc k1.size (.cells #[.slice (some ⟨b, off, none⟩) N cap, .int .i64 g1, .int .i64 g2, .int .i64 g3, .int .i64 g4, .int .i64 g5, .int .i64 g6, .int .i64 g7, .int .i64 g8, .int .i64 g9, .slice (some ⟨gb, 0, none⟩) N N] 58))
  have HR2 := hid ((HR.out.below hb1).below ((Below.refl _ W1).alloc (Nat.le_refl _) (.cells #[.slice (some ⟨b, off, none⟩) N cap, .int .i64 g1, .int .i64 g2, .int .i64 g3, .int .i64 g4, .int .i64 g5, .int .i64 g6, .int .i64 g7, .int .i64 g8, .int .i64 g9, .slice (some ⟨gb, 0, none⟩) N N] 58)))
  have hA1 := HA.out.below hb1
  have HA2 := hid (hA1.below ((Below.refl _ W1).alloc (Nat.le_refl _) (.cells #[.slice (some ⟨b, off, none⟩) N cap, .int .i64 g1, .int .i64 g2, .int .i64 g3, .int .i64 g4, .int .i64 g5, .int .i64 g6, .int .i64 g7, .int .i64 g8, .int .i64 g9, .slice (some ⟨gb, 0, none⟩) N N] 58)))
  have HI2 := hid (HI.out.kept ((Below.refl _ W1).alloc (Nat.le_refl _) (.cells #[.slice (some ⟨b, off, none⟩) N cap, .int .i64 g1, .int .i64 g2, .int .i64 g3, .int .i64 g4, .int .i64 g5, .int .i64 g6, .int .i64 g7, .int .i64 g8, .int .i64 g9, .slice (some ⟨gb, 0, none⟩) N N] 58)))
  have HL2 : Hid ((W1.alloc (.cells #[.slice (some ⟨b, off, none⟩) N cap, .int .i64 g1, .int .i64 g2, .int .i64 g3, .int .i64 g4, .int .i64 g5, .int .i64 g6, .int .i64 g7, .int .i64 g8, .int .i64 g9, .slice (some ⟨gb, 0, none⟩) N N] 58)).heap[W1.heap.size]? = some (.cells #[.slice (some ⟨b, off, none⟩) N cap, .int .i64 g1, .int .i64 g2, .int .i64 g3, .int .i64 g4, .int .i64 g5, .int .i64 g6, .int .i64 g7, .int .i64 g8, .int .i64 g9, .slice (some ⟨gb, 0, none⟩) N N] 58)) := (MapKept.heap_alloc W1 _).1
  clear k1 hb1 HW0 HA HR HK2 HLy HI hA1
  go_wp2_with fail
  generalize W1.alloc (.cells #[.slice (some ⟨b, off, none⟩) N cap, .int .i64 g1, .int .i64 g2, .int .i64 g3, .int .i64 g4, .int .i64 g5, .int .i64 g6, .int .i64 g7, .int .i64 g8, .int .i64 g9, .slice (some ⟨gb, 0, none⟩) N N] 58) = W2 at *
  refine (HFd.out _).mono ?_
  rintro e W3 ⟨rfl, rfl⟩
  go_wp2_with fail
  refine (HFd.out _).mono ?_
  rintro e W3 ⟨rfl, rfl⟩
  have HR6 := HR2
  have HB6 := HB2
  clear HR2 HB2 HA2 HI2
  go_upto_if 56 with fail
  obtain ⟨c0, c1, c2, c3, c4, c5, c6, c7, c8, c9⟩ := HR6.out.cells
  dsimp only at c0 c1 c2 c3 c4 c5 c6 c7 c8 c9
  have z0 := frozen_of_heap HR6.out 0
  have z1 := frozen_of_heap HR6.out 1
  have z2 := frozen_of_heap HR6.out 2
  have z3 := frozen_of_heap HR6.out 3
  have z4 := frozen_of_heap HR6.out 4
  have z5 := frozen_of_heap HR6.out 5
  have z6 := frozen_of_heap HR6.out 6
  have z7 := frozen_of_heap HR6.out 7
  have z8 := frozen_of_heap HR6.out 8
  have z9 := frozen_of_heap HR6.out 9
  go_wp2_with fail
  refine heap_use HR6.out (.slice none 0 0) ⟨0, 0, 0, 0, 0, 0, 0, 0, 0⟩ _ ?_
  intro W7z hL hb7 _ _
  obtain ⟨y0, y1, y2, y3, y4, y5, y6, y7, y8, y9⟩ := hL.cells
  dsimp only at y0 y1 y2 y3 y4 y5 y6 y7 y8 y9
  exact bodyPost_ret (v := .tuple #[noHeap, .slice none 0 0, .int .i64 0, .bool false]) (by simp [results, Try.results12, go_sem, y0, y1, y2, y3, y4, y5, y6, y7, y8, y9, noHeap, heapV]) rfl ⟨rfl, HB6.out.trans (hb7 _ (Nat.le_succ _))⟩

set_option maxHeartbeats 4000000 in
set_option maxRecDepth 100000 in
theorem iMake_roots (b off cap N : Nat) (h : HpN) (rg n rc fg nf fc : Nat) (kind mi fz : Int) (w : World)
    (ws S : List Int) (hz : (fz == 0) = false) (hz2 : ¬ fz = 0) (hl : ((nf : Int) != fz) = false) (hl2 : (nf : Int) = fz) (hm : ¬ mi < 0) (hb : ¬ 20 < mi)
    (HLy : Hid (∀ X, Below w.heap.size w X → Calls Try.prog 30 #[heapV (.slice (some ⟨b, off, none⟩) N cap) h] X fun e w' => ∃ gb, e = .returned (.tuple #[layV (.slice (some ⟨b, off, none⟩) N cap) h (.slice (some ⟨gb, 0, none⟩) N N), .bool true]) ∧ Hid (ISt b off gb N ws S w') ∧ Below X.heap.size X w'))
    (HFd : Hid (∀ X, Calls Try.prog 40 #[.int .i64 kind] X fun e w' => e = .returned (.int .i64 fz) ∧ X = w'))
    (HRt : Hid (∀ (X : World) (gb : Nat), Below w.heap.size w X → ISt b off gb N ws S X → Calls Try.prog 31 #[layV (.slice (some ⟨b, off, none⟩) N cap) h (.slice (some ⟨gb, 0, none⟩) N N), .slice (some ⟨rg, 0, none⟩) n rc] X fun e w' => e = .returned (.bool false) ∧ Below X.heap.size X w')) :
    Calls Try.prog 12 #[heapV (.slice (some ⟨b, off, none⟩) N cap) h, .slice (some ⟨rg, 0, none⟩) n rc, .int .i64 kind, .slice (some ⟨fg, 0, none⟩) nf fc, .int .i64 mi] w fun e w' => e = .returned (.tuple #[noHeap, .slice none 0 0, .int .i64 0, .bool false]) ∧ Below w.heap.size w w' := by
  obtain ⟨g1, g2, g3, g4, g5, g6, g7, g8, g9⟩ := h
  unfold heapV at *
  dsimp only at *
  obtain ⟨W0, hW0, hA, hR, k2⟩ := both_new w (.slice (some ⟨b, off, none⟩) N cap) ⟨g1, g2, g3, g4, g5, g6, g7, g8, g9⟩
  dsimp only at hW0
  have HW0 := hid hW0
  have HA := hid hA
  have HR := hid hR
  have HK2 := hid k2
  clear hW0 hA hR k2
  go_enter Try.func12, Try.ntmps12
  go_wp2_with fail
  rw [HW0.out]
  refine (HLy.out _ HK2.out).mono ?_
  rintro e W1 ⟨gb, rfl, HI, hb1⟩
  unfold layV at *
  dsimp only at *
  have k1 := HK2.out.trans (hb1.mono HK2.out.size)
  have HB2 := hid (k1.alloc k1.size (.cells #[.slice (some ⟨b, off, none⟩) N cap, .int .i64 g1, .int .i64 g2, .int .i64 g3, .int .i64 g4, .int .i64 g5, .int .i64 g6, .int .i64 g7, .int .i64 g8, .int .i64 g9, .slice (some ⟨gb, 0, none⟩) N N] 58))
  have HR2 := hid ((HR.out.below hb1).below ((Below.refl _ W1).alloc (Nat.le_refl _) (.cells #[.slice (some ⟨b, off, none⟩) N cap, .int .i64 g1, .int .i64 g2, .int .i64 g3, .int .i64 g4, .int .i64 g5, .int .i64 g6, .int .i64 g7, .int .i64 g8, .int .i64 g9, .slice (some ⟨gb, 0, none⟩) N N] 58)))
  have hA1 := HA.out.below hb1
  have HA2 := hid (hA1.below ((Below.refl _ W1).alloc (Nat.le_refl _) (.cells #[.slice (some ⟨b, off, none⟩) N cap, .int .i64 g1, .int .i64 g2, .int .i64 g3, .int .i64 g4, .int .i64 g5, .int .i64 g6, .int .i64 g7, .int .i64 g8, .int .i64 g9, .slice (some ⟨gb, 0, none⟩) N N] 58)))
  have HI2 := hid (HI.out.kept ((Below.refl _ W1).alloc (Nat.le_refl _) (.cells #[.slice (some ⟨b, off, none⟩) N cap, .int .i64 g1, .int .i64 g2, .int .i64 g3, .int .i64 g4, .int .i64 g5, .int .i64 g6, .int .i64 g7, .int .i64 g8, .int .i64 g9, .slice (some ⟨gb, 0, none⟩) N N] 58)))
  have HL2 : Hid ((W1.alloc (.cells #[.slice (some ⟨b, off, none⟩) N cap, .int .i64 g1, .int .i64 g2, .int .i64 g3, .int .i64 g4, .int .i64 g5, .int .i64 g6, .int .i64 g7, .int .i64 g8, .int .i64 g9, .slice (some ⟨gb, 0, none⟩) N N] 58)).heap[W1.heap.size]? = some (.cells #[.slice (some ⟨b, off, none⟩) N cap, .int .i64 g1, .int .i64 g2, .int .i64 g3, .int .i64 g4, .int .i64 g5, .int .i64 g6, .int .i64 g7, .int .i64 g8, .int .i64 g9, .slice (some ⟨gb, 0, none⟩) N N] 58)) := (MapKept.heap_alloc W1 _).1
  clear k1 hb1 HW0 HA HR HK2 HLy HI hA1
  go_wp2_with fail
  generalize W1.alloc (.cells #[.slice (some ⟨b, off, none⟩) N cap, .int .i64 g1, .int .i64 g2, .int .i64 g3, .int .i64 g4, .int .i64 g5, .int .i64 g6, .int .i64 g7, .int .i64 g8, .int .i64 g9, .slice (some ⟨gb, 0, none⟩) N N] 58) = W2 at *
  refine (HFd.out _).mono ?_
  rintro e W3 ⟨rfl, rfl⟩
  go_wp2_with fail
  refine (HFd.out _).mono ?_
  rintro e W3 ⟨rfl, rfl⟩
  have l0 := cell_of_heap HL2.out 0
  have l1 := cell_of_heap HL2.out 1
  have l2 := cell_of_heap HL2.out 2
  have l3 := cell_of_heap HL2.out 3
  have l4 := cell_of_heap HL2.out 4
  have l5 := cell_of_heap HL2.out 5
  have l6 := cell_of_heap HL2.out 6
  have l7 := cell_of_heap HL2.out 7
  have l8 := cell_of_heap HL2.out 8
  have l9 := cell_of_heap HL2.out 9
  have l10 := cell_of_heap HL2.out 10
  simp at l0 l1 l2 l3 l4 l5 l6 l7 l8 l9 l10
  go_wp2_with fail
  refine (HRt.out _ _ HB2.out HI2.out).mono ?_
  rintro e W4 ⟨rfl, hb4⟩
  have HB4 := hid (HB2.out.trans (hb4.mono HB2.out.size))
  have HR4 := hid (HR2.out.below hb4)
  have HA4 := hid (HA2.out.below hb4)
  have HI4 := hid (HI2.out.kept hb4)
  have HL4 := hid ((hb4.block _ (heap_lt HL2.out)).trans HL2.out)
  clear l0 l1 l2 l3 l4 l5 l6 l7 l8 l9 l10
  clear hb4 HB2 HR2 HA2 HI2 HL2 HRt
  have HR6 := HR4
  have HB6 := HB4
  clear HR4 HB4 HA4 HI4 HL4
  obtain ⟨c0, c1, c2, c3, c4, c5, c6, c7, c8, c9⟩ := HR6.out.cells
  dsimp only at c0 c1 c2 c3 c4 c5 c6 c7 c8 c9
  have z0 := frozen_of_heap HR6.out 0
  have z1 := frozen_of_heap HR6.out 1
  have z2 := frozen_of_heap HR6.out 2
  have z3 := frozen_of_heap HR6.out 3
  have z4 := frozen_of_heap HR6.out 4
  have z5 := frozen_of_heap HR6.out 5
  have z6 := frozen_of_heap HR6.out 6
  have z7 := frozen_of_heap HR6.out 7
  have z8 := frozen_of_heap HR6.out 8
  have z9 := frozen_of_heap HR6.out 9
  go_wp2_with fail
  refine heap_use HR6.out (.slice none 0 0) ⟨0, 0, 0, 0, 0, 0, 0, 0, 0⟩ _ ?_
  intro W7z hL hb7 _ _
  obtain ⟨y0, y1, y2, y3, y4, y5, y6, y7, y8, y9⟩ := hL.cells
  dsimp only at y0 y1 y2 y3 y4 y5 y6 y7 y8 y9
  exact bodyPost_ret (v := .tuple #[noHeap, .slice none 0 0, .int .i64 0, .bool false]) (by simp [results, Try.results12, go_sem, y0, y1, y2, y3, y4, y5, y6, y7, y8, y9, noHeap, heapV]) rfl ⟨rfl, HB6.out.trans (hb7 _ (Nat.le_succ _))⟩

set_option maxHeartbeats 4000000 in
set_option maxRecDepth 100000 in
theorem iMake_fields (b off cap N : Nat) (h : HpN) (rg n rc fg nf fc : Nat) (kind mi fz : Int) (w : World)
    (ws S : List Int) (hz : (fz == 0) = false) (hz2 : ¬ fz = 0) (hl : ((nf : Int) != fz) = false) (hl2 : (nf : Int) = fz) (hm : ¬ mi < 0) (hb : ¬ 20 < mi)
    (HLy : Hid (∀ X, Below w.heap.size w X → Calls Try.prog 30 #[heapV (.slice (some ⟨b, off, none⟩) N cap) h] X fun e w' => ∃ gb, e = .returned (.tuple #[layV (.slice (some ⟨b, off, none⟩) N cap) h (.slice (some ⟨gb, 0, none⟩) N N), .bool true]) ∧ Hid (ISt b off gb N ws S w') ∧ Below X.heap.size X w'))
    (HFd : Hid (∀ X, Calls Try.prog 40 #[.int .i64 kind] X fun e w' => e = .returned (.int .i64 fz) ∧ X = w'))
    (HRt : Hid (∀ (X : World) (gb : Nat), Below w.heap.size w X → ISt b off gb N ws S X → Calls Try.prog 31 #[layV (.slice (some ⟨b, off, none⟩) N cap) h (.slice (some ⟨gb, 0, none⟩) N N), .slice (some ⟨rg, 0, none⟩) n rc] X fun e w' => e = .returned (.bool true) ∧ Below X.heap.size X w'))
    (HFa : Hid (∀ (X : World) (gb : Nat), Below w.heap.size w X → ISt b off gb N ws S X → Calls Try.prog 41 #[layV (.slice (some ⟨b, off, none⟩) N cap) h (.slice (some ⟨gb, 0, none⟩) N N), .slice (some ⟨fg, 0, none⟩) nf fc] X fun e w' => e = .returned (.bool false) ∧ Below X.heap.size X w')) :
    Calls Try.prog 12 #[heapV (.slice (some ⟨b, off, none⟩) N cap) h, .slice (some ⟨rg, 0, none⟩) n rc, .int .i64 kind, .slice (some ⟨fg, 0, none⟩) nf fc, .int .i64 mi] w fun e w' => e = .returned (.tuple #[noHeap, .slice none 0 0, .int .i64 0, .bool false]) ∧ Below w.heap.size w w' := by
  obtain ⟨g1, g2, g3, g4, g5, g6, g7, g8, g9⟩ := h
  unfold heapV at *
  dsimp only at *
  obtain ⟨W0, hW0, hA, hR, k2⟩ := both_new w (.slice (some ⟨b, off, none⟩) N cap) ⟨g1, g2, g3, g4, g5, g6, g7, g8, g9⟩
  dsimp only at hW0
  have HW0 := hid hW0
  have HA := hid hA
  have HR := hid hR
  have HK2 := hid k2
  clear hW0 hA hR k2
  go_enter Try.func12, Try.ntmps12
  go_wp2_with fail
  rw [HW0.out]
  refine (HLy.out _ HK2.out).mono ?_
  rintro e W1 ⟨gb, rfl, HI, hb1⟩
  unfold layV at *
  dsimp only at *
  have k1 := HK2.out.trans (hb1.mono HK2.out.size)
  have HB2 := hid (k1.alloc k1.size (.cells #[.slice (some ⟨b, off, none⟩) N cap, .int .i64 g1, .int .i64 g2, .int .i64 g3, .int .i64 g4, .int .i64 g5, .int .i64 g6, .int .i64 g7, .int .i64 g8, .int .i64 g9, .slice (some ⟨gb, 0, none⟩) N N] 58))
  have HR2 := hid ((HR.out.below hb1).below ((Below.refl _ W1).alloc (Nat.le_refl _) (.cells #[.slice (some ⟨b, off, none⟩) N cap, .int .i64 g1, .int .i64 g2, .int .i64 g3, .int .i64 g4, .int .i64 g5, .int .i64 g6, .int .i64 g7, .int .i64 g8, .int .i64 g9, .slice (some ⟨gb, 0, none⟩) N N] 58)))
  have hA1 := HA.out.below hb1
  have HA2 := hid (hA1.below ((Below.refl _ W1).alloc (Nat.le_refl _) (.cells #[.slice (some ⟨b, off, none⟩) N cap, .int .i64 g1, .int .i64 g2, .int .i64 g3, .int .i64 g4, .int .i64 g5, .int .i64 g6, .int .i64 g7, .int .i64 g8, .int .i64 g9, .slice (some ⟨gb, 0, none⟩) N N] 58)))
  have HI2 := hid (HI.out.kept ((Below.refl _ W1).alloc (Nat.le_refl _) (.cells #[.slice (some ⟨b, off, none⟩) N cap, .int .i64 g1, .int .i64 g2, .int .i64 g3, .int .i64 g4, .int .i64 g5, .int .i64 g6, .int .i64 g7, .int .i64 g8, .int .i64 g9, .slice (some ⟨gb, 0, none⟩) N N] 58)))
  have HL2 : Hid ((W1.alloc (.cells #[.slice (some ⟨b, off, none⟩) N cap, .int .i64 g1, .int .i64 g2, .int .i64 g3, .int .i64 g4, .int .i64 g5, .int .i64 g6, .int .i64 g7, .int .i64 g8, .int .i64 g9, .slice (some ⟨gb, 0, none⟩) N N] 58)).heap[W1.heap.size]? = some (.cells #[.slice (some ⟨b, off, none⟩) N cap, .int .i64 g1, .int .i64 g2, .int .i64 g3, .int .i64 g4, .int .i64 g5, .int .i64 g6, .int .i64 g7, .int .i64 g8, .int .i64 g9, .slice (some ⟨gb, 0, none⟩) N N] 58)) := (MapKept.heap_alloc W1 _).1
  clear k1 hb1 HW0 HA HR HK2 HLy HI hA1
  go_wp2_with fail
  generalize W1.alloc (.cells #[.slice (some ⟨b, off, none⟩) N cap, .int .i64 g1, .int .i64 g2, .int .i64 g3, .int .i64 g4, .int .i64 g5, .int .i64 g6, .int .i64 g7, .int .i64 g8, .int .i64 g9, .slice (some ⟨gb, 0, none⟩) N N] 58) = W2 at *
  refine (HFd.out _).mono ?_
  rintro e W3 ⟨rfl, rfl⟩
  go_wp2_with fail
  refine (HFd.out _).mono ?_
  rintro e W3 ⟨rfl, rfl⟩
  have l0 := cell_of_heap HL2.out 0
  have l1 := cell_of_heap HL2.out 1
  have l2 := cell_of_heap HL2.out 2
  have l3 := cell_of_heap HL2.out 3
  have l4 := cell_of_heap HL2.out 4
  have l5 := cell_of_heap HL2.out 5
  have l6 := cell_of_heap HL2.out 6
  have l7 := cell_of_heap HL2.out 7
  have l8 := cell_of_heap HL2.out 8
  have l9 := cell_of_heap HL2.out 9
  have l10 := cell_of_heap HL2.out 10
  simp at l0 l1 l2 l3 l4 l5 l6 l7 l8 l9 l10
  go_wp2_with fail
  refine (HRt.out _ _ HB2.out HI2.out).mono ?_
  rintro e W4 ⟨rfl, hb4⟩
  have HB4 := hid (HB2.out.trans (hb4.mono HB2.out.size))
  have HR4 := hid (HR2.out.below hb4)
  have HA4 := hid (HA2.out.below hb4)
  have HI4 := hid (HI2.out.kept hb4)
  have HL4 := hid ((hb4.block _ (heap_lt HL2.out)).trans HL2.out)
  clear l0 l1 l2 l3 l4 l5 l6 l7 l8 l9 l10
  clear hb4 HB2 HR2 HA2 HI2 HL2 HRt
  have l0 := cell_of_heap HL4.out 0
  have l1 := cell_of_heap HL4.out 1
  have l2 := cell_of_heap HL4.out 2
  have l3 := cell_of_heap HL4.out 3
  have l4 := cell_of_heap HL4.out 4
  have l5 := cell_of_heap HL4.out 5
  have l6 := cell_of_heap HL4.out 6
  have l7 := cell_of_heap HL4.out 7
  have l8 := cell_of_heap HL4.out 8
  have l9 := cell_of_heap HL4.out 9
  have l10 := cell_of_heap HL4.out 10
  simp at l0 l1 l2 l3 l4 l5 l6 l7 l8 l9 l10
  go_wp2_with fail
  refine (HFa.out _ _ HB4.out HI4.out).mono ?_
  rintro e W6 ⟨rfl, hb6⟩
  have HB6 := hid (HB4.out.trans (hb6.mono HB4.out.size))
  have HR6 := hid (HR4.out.below hb6)
  have HA6 := hid (HA4.out.below hb6)
  clear l0 l1 l2 l3 l4 l5 l6 l7 l8 l9 l10
  clear hb6 HB4 HR4 HA4 HI4 HL4 HFa
  obtain ⟨c0, c1, c2, c3, c4, c5, c6, c7, c8, c9⟩ := HR6.out.cells
  dsimp only at c0 c1 c2 c3 c4 c5 c6 c7 c8 c9
  have z0 := frozen_of_heap HR6.out 0
  have z1 := frozen_of_heap HR6.out 1
  have z2 := frozen_of_heap HR6.out 2
  have z3 := frozen_of_heap HR6.out 3
  have z4 := frozen_of_heap HR6.out 4
  have z5 := frozen_of_heap HR6.out 5
  have z6 := frozen_of_heap HR6.out 6
  have z7 := frozen_of_heap HR6.out 7
  have z8 := frozen_of_heap HR6.out 8
  have z9 := frozen_of_heap HR6.out 9
  go_wp2_with fail
  refine heap_use HR6.out (.slice none 0 0) ⟨0, 0, 0, 0, 0, 0, 0, 0, 0⟩ _ ?_
  intro W7z hL hb7 _ _
  obtain ⟨y0, y1, y2, y3, y4, y5, y6, y7, y8, y9⟩ := hL.cells
  dsimp only at y0 y1 y2 y3 y4 y5 y6 y7 y8 y9
  exact bodyPost_ret (v := .tuple #[noHeap, .slice none 0 0, .int .i64 0, .bool false]) (by simp [results, Try.results12, go_sem, y0, y1, y2, y3, y4, y5, y6, y7, y8, y9, noHeap, heapV]) rfl ⟨rfl, HB6.out.trans (hb7 _ (Nat.le_succ _))⟩

end Go.Proofs.Ytebpgglegnljgaa

namespace Go.Proofs.Ytebpgglegnljgaa
open Go.RowKit

def MakeToldC (N n : Nat) (w : World) (o : Option (List Int × CN)) (e : Ending) (w' : World) : Prop :=
  match o with
  | some (ys, s) => ∃ bw cap' g c : Nat, e = .returned (.tuple #[heapV (.slice (some ⟨bw, 0, none⟩) N cap') { s.h with touched := touchZ s }, .slice (some ⟨g, 0, none⟩) n c, .int .i64 (makeZ 0 s.h.top), .bool true]) ∧ CellRow 3 w' bw N (intCells s.ws) ∧ CellRow 3 w' g n (intCells ys) ∧ g ≠ bw ∧ w.heap.size ≤ bw ∧ w.heap.size ≤ g ∧ Below w.heap.size w w' ∧ N ≤ cap'
  | none => e = .returned (.tuple #[noHeap, .slice none 0 0, .int .i64 0, .bool false]) ∧ Below w.heap.size w w'

set_option maxHeartbeats 4000000 in
set_option maxRecDepth 100000 in
theorem iMake_goodC (b off cap N : Nat) (h : HpN) (rg n rc fg nf fc : Nat) (kind mi fz : Int) (w : World)
    (ws S : List Int) (hz : (fz == 0) = false) (_hz2 : ¬ fz = 0) (_hl : ((nf : Int) != fz) = false) (hl2 : (nf : Int) = fz) (hm : ¬ mi < 0) (hb : ¬ 20 < mi) (xs fs : List Int) (s0 : CN) (o : Option (List Int × CN))
    (HLy : Hid (∀ X, Below w.heap.size w X → Calls Try.prog 30 #[heapV (.slice (some ⟨b, off, none⟩) N cap) h] X fun e w' => ∃ gb, e = .returned (.tuple #[layV (.slice (some ⟨b, off, none⟩) N cap) h (.slice (some ⟨gb, 0, none⟩) N N), .bool true]) ∧ Hid (ISt b off gb N ws S w') ∧ Below X.heap.size X w'))
    (HFd : Hid (∀ X, Calls Try.prog 40 #[.int .i64 kind] X fun e w' => e = .returned (.int .i64 fz) ∧ X = w'))
    (HRt : Hid (∀ (X : World) (gb : Nat), Below w.heap.size w X → ISt b off gb N ws S X → Calls Try.prog 31 #[layV (.slice (some ⟨b, off, none⟩) N cap) h (.slice (some ⟨gb, 0, none⟩) N N), .slice (some ⟨rg, 0, none⟩) n rc] X fun e w' => e = .returned (.bool true) ∧ Below X.heap.size X w'))
    (HFa : Hid (∀ (X : World) (gb : Nat), Below w.heap.size w X → ISt b off gb N ws S X → Calls Try.prog 41 #[layV (.slice (some ⟨b, off, none⟩) N cap) h (.slice (some ⟨gb, 0, none⟩) N N), .slice (some ⟨fg, 0, none⟩) nf fc] X fun e w' => e = .returned (.bool true) ∧ Below X.heap.size X w'))
    (HOp : Hid (∀ X, Below w.heap.size w X → Calls Try.prog 42 #[heapV (.slice (some ⟨b, off, none⟩) N cap) h] X fun e w' => ∃ bc bw cap' : Nat, e = .returned (.pointer (some ⟨bc, 0, none⟩)) ∧ (ColAt X bc bw N cap' s0 w' ∧ N ≤ cap') ∧ X.heap.size ≤ bc ∧ X.heap.size ≤ bw))
    (HCl : Hid (∀ X, Below w.heap.size w X → Calls Try.prog 43 #[.slice (some ⟨rg, 0, none⟩) n rc] X fun e w' => ∃ g c, e = .returned (.slice (some ⟨g, 0, none⟩) n c) ∧ Hid (CellRow 3 w' g n (intCells xs)) ∧ X.heap.size ≤ g ∧ Below X.heap.size X w'))
    (HCf : Hid (∀ X, Below w.heap.size w X → Calls Try.prog 43 #[.slice (some ⟨fg, 0, none⟩) nf fc] X fun e w' => ∃ g c, e = .returned (.slice (some ⟨g, 0, none⟩) nf c) ∧ Hid (CellRow 3 w' g nf (intCells fs)) ∧ X.heap.size ≤ g ∧ Below X.heap.size X w'))
    (HNw : Hid (∀ (X : World) (bc bw cap' g c gf c2 : Nat), ColAt X bc bw N cap' s0 X → gf ≠ bc → gf ≠ bw → g ≠ bc → g ≠ bw → gf ≠ g → CellRow 3 X gf nf (intCells fs) → CellRow 3 X g n (intCells xs) → Calls Try.prog 44 #[.pointer (some ⟨bc, 0, none⟩), .slice (some ⟨g, 0, none⟩) n c, .int .i64 kind, .slice (some ⟨gf, 0, none⟩) nf c2, .int .i64 mi] X (NewPost X bc bw N cap' g n gf o)))
    (HTd : Hid (∀ (ys : List Int) (s1 : CN) (X w0 : World) (bc bw cap' : Nat), o = some (ys, s1) → ColAt w0 bc bw N cap' s1 X → Calls Try.prog 45 #[.pointer (some ⟨bc, 0, none⟩)] X fun e w' => e = .returned (heapV (.slice (some ⟨bw, 0, none⟩) N cap') { s1.h with touched := touchZ s1 }) ∧ Below X.heap.size X w')) :
    Calls Try.prog 12 #[heapV (.slice (some ⟨b, off, none⟩) N cap) h, .slice (some ⟨rg, 0, none⟩) n rc, .int .i64 kind, .slice (some ⟨fg, 0, none⟩) nf fc, .int .i64 mi] w (MakeToldC N n w o) := by
  obtain ⟨g1, g2, g3, g4, g5, g6, g7, g8, g9⟩ := h
  unfold heapV at *
  dsimp only at *
  obtain ⟨W0, hW0, hA, hR, k2⟩ := both_new w (.slice (some ⟨b, off, none⟩) N cap) ⟨g1, g2, g3, g4, g5, g6, g7, g8, g9⟩
  dsimp only at hW0
  have HW0 := hid hW0
  have HA := hid hA
  have HR := hid hR
  have HK2 := hid k2
  clear hW0 hA hR k2
  go_enter Try.func12, Try.ntmps12
  go_wp2_with fail
  rw [HW0.out]
  refine (HLy.out _ HK2.out).mono ?_
  rintro e W1 ⟨gb, rfl, HI, hb1⟩
  unfold layV at *
  dsimp only at *
  have k1 := HK2.out.trans (hb1.mono HK2.out.size)
  have HB2 := hid (k1.alloc k1.size (.cells #[.slice (some ⟨b, off, none⟩) N cap, .int .i64 g1, .int .i64 g2, .int .i64 g3, .int .i64 g4, .int .i64 g5, .int .i64 g6, .int .i64 g7, .int .i64 g8, .int .i64 g9, .slice (some ⟨gb, 0, none⟩) N N] 58))
  have HR2 := hid ((HR.out.below hb1).below ((Below.refl _ W1).alloc (Nat.le_refl _) (.cells #[.slice (some ⟨b, off, none⟩) N cap, .int .i64 g1, .int .i64 g2, .int .i64 g3, .int .i64 g4, .int .i64 g5, .int .i64 g6, .int .i64 g7, .int .i64 g8, .int .i64 g9, .slice (some ⟨gb, 0, none⟩) N N] 58)))
  have hA1 := HA.out.below hb1
  have HA2 := hid (hA1.below ((Below.refl _ W1).alloc (Nat.le_refl _) (.cells #[.slice (some ⟨b, off, none⟩) N cap, .int .i64 g1, .int .i64 g2, .int .i64 g3, .int .i64 g4, .int .i64 g5, .int .i64 g6, .int .i64 g7, .int .i64 g8, .int .i64 g9, .slice (some ⟨gb, 0, none⟩) N N] 58)))
  have HI2 := hid (HI.out.kept ((Below.refl _ W1).alloc (Nat.le_refl _) (.cells #[.slice (some ⟨b, off, none⟩) N cap, .int .i64 g1, .int .i64 g2, .int .i64 g3, .int .i64 g4, .int .i64 g5, .int .i64 g6, .int .i64 g7, .int .i64 g8, .int .i64 g9, .slice (some ⟨gb, 0, none⟩) N N] 58)))
  have HL2 : Hid ((W1.alloc (.cells #[.slice (some ⟨b, off, none⟩) N cap, .int .i64 g1, .int .i64 g2, .int .i64 g3, .int .i64 g4, .int .i64 g5, .int .i64 g6, .int .i64 g7, .int .i64 g8, .int .i64 g9, .slice (some ⟨gb, 0, none⟩) N N] 58)).heap[W1.heap.size]? = some (.cells #[.slice (some ⟨b, off, none⟩) N cap, .int .i64 g1, .int .i64 g2, .int .i64 g3, .int .i64 g4, .int .i64 g5, .int .i64 g6, .int .i64 g7, .int .i64 g8, .int .i64 g9, .slice (some ⟨gb, 0, none⟩) N N] 58)) := (MapKept.heap_alloc W1 _).1
  clear k1 hb1 HW0 HA HR HK2 HLy HI hA1
  go_wp2_with fail
  generalize W1.alloc (.cells #[.slice (some ⟨b, off, none⟩) N cap, .int .i64 g1, .int .i64 g2, .int .i64 g3, .int .i64 g4, .int .i64 g5, .int .i64 g6, .int .i64 g7, .int .i64 g8, .int .i64 g9, .slice (some ⟨gb, 0, none⟩) N N] 58) = W2 at *
  refine (HFd.out _).mono ?_
  rintro e W3 ⟨rfl, rfl⟩
  go_wp2_with fail
  refine (HFd.out _).mono ?_
  rintro e W3 ⟨rfl, rfl⟩
  have l0 := cell_of_heap HL2.out 0
  have l1 := cell_of_heap HL2.out 1
  have l2 := cell_of_heap HL2.out 2
  have l3 := cell_of_heap HL2.out 3
  have l4 := cell_of_heap HL2.out 4
  have l5 := cell_of_heap HL2.out 5
  have l6 := cell_of_heap HL2.out 6
  have l7 := cell_of_heap HL2.out 7
  have l8 := cell_of_heap HL2.out 8
  have l9 := cell_of_heap HL2.out 9
  have l10 := cell_of_heap HL2.out 10
  simp at l0 l1 l2 l3 l4 l5 l6 l7 l8 l9 l10
  go_wp2_with fail
  refine (HRt.out _ _ HB2.out HI2.out).mono ?_
  rintro e W4 ⟨rfl, hb4⟩
  have HB4 := hid (HB2.out.trans (hb4.mono HB2.out.size))
  have HR4 := hid (HR2.out.below hb4)
  have HA4 := hid (HA2.out.below hb4)
  have HI4 := hid (HI2.out.kept hb4)
  have HL4 := hid ((hb4.block _ (heap_lt HL2.out)).trans HL2.out)
  clear l0 l1 l2 l3 l4 l5 l6 l7 l8 l9 l10
  clear hb4 HB2 HR2 HA2 HI2 HL2 HRt
  have l0 := cell_of_heap HL4.out 0
  have l1 := cell_of_heap HL4.out 1
  have l2 := cell_of_heap HL4.out 2
  have l3 := cell_of_heap HL4.out 3
  have l4 := cell_of_heap HL4.out 4
  have l5 := cell_of_heap HL4.out 5
  have l6 := cell_of_heap HL4.out 6
  have l7 := cell_of_heap HL4.out 7
  have l8 := cell_of_heap HL4.out 8
  have l9 := cell_of_heap HL4.out 9
  have l10 := cell_of_heap HL4.out 10
  simp at l0 l1 l2 l3 l4 l5 l6 l7 l8 l9 l10
  go_wp2_with fail
  refine (HFa.out _ _ HB4.out HI4.out).mono ?_
  rintro e W6 ⟨rfl, hb6⟩
  have HB6 := hid (HB4.out.trans (hb6.mono HB4.out.size))
  have HR6 := hid (HR4.out.below hb6)
  have HA6 := hid (HA4.out.below hb6)
  clear l0 l1 l2 l3 l4 l5 l6 l7 l8 l9 l10
  clear hb6 HB4 HR4 HA4 HI4 HL4 HFa
  obtain ⟨c0, c1, c2, c3, c4, c5, c6, c7, c8, c9⟩ := HA6.out.cells
  dsimp only at c0 c1 c2 c3 c4 c5 c6 c7 c8 c9
  go_wp2_with fail
  refine (HOp.out _ HB6.out).mono ?_
  rintro e W7 ⟨bc, bw, cap', rfl, ⟨hW7, hcpC⟩, hlo, hlo2⟩
  have HCpC := hid hcpC
  clear hcpC
  have HW7 := hid hW7
  have hlt6 := heap_lt HR6.out
  have HB7 := hid (HB6.out.trans ((Col.frame hW7).below hlo hlo2 |>.mono HB6.out.size))
  clear hW7 HOp HA6 c0 c1 c2 c3 c4 c5 c6 c7 c8 c9
  go_wp2_with fail
  refine (HCl.out _ HB7.out).mono ?_
  rintro e W8 ⟨g, gc, rfl, HRw, hg, hb8⟩
  have HW8 := hid (Col.keep HW7.out hb8)
  have hgc : g ≠ bc := by have := heap_lt (Col.blk HW7.out); omega
  have hgw : g ≠ bw := by have := CellRow.lt (Col.row HW7.out); omega
  have hg6 : W6.heap.size ≤ g := by have := (Col.frame HW7.out).size; omega
  have HB8 := hid (HB7.out.trans (hb8.mono HB7.out.size))
  clear hb8 HCl HB7 hg
  go_wp2_with fail
  refine (HCf.out _ HB8.out).mono ?_
  rintro e W9 ⟨gf, gfc, rfl, HRv, hgf, hb9⟩
  have HW9 := hid (Col.keep HW8.out hb9)
  have HRw9 := hid (HRw.out.of_block (hb9.block g HRw.out.lt))
  have hfc : gf ≠ bc := by have := heap_lt (Col.blk HW8.out); omega
  have hfw : gf ≠ bw := by have := CellRow.lt (Col.row HW8.out); omega
  have hfg : gf ≠ g := by have := HRw.out.lt; omega
  have hf6 : W6.heap.size ≤ gf := by have := (Col.frame HW8.out).size; omega
  have HNw' := hid (HNw.out _ _ _ _ _ gc _ gfc (Col.rebase HW9.out _ (Frm.refl _ _ _)) hfc hfw hgc hgw hfg HRv.out HRw9.out)
  have HF9 := hid (Col.frame HW9.out)
  clear hb9 HCf HNw HW7 HW8 HW9 hgf HRw HRw9 HRv HB8
  go_wp2_with fail
  refine HNw'.out.mono ?_
  intro e W10 hP
  have HP := hid hP
  clear hP HNw'
  have KB : Hid (∀ X, Frm4 W9 bc bw g gf X → Below w.heap.size w X ∧ HeapBlk X (w.heap.size + 1) (.slice none 0 0) ⟨0, 0, 0, 0, 0, 0, 0, 0, 0⟩) := fun X hf => by
    obtain ⟨f1, f2, f3, f4, f5⟩ := hf
    have e1 : Below W6.heap.size W6 X := ⟨f1.trans HF9.out.os, f2.trans HF9.out.tape, f3.trans HF9.out.output, Nat.le_trans HF9.out.size f4, fun c hc => (f5 c (Nat.lt_of_lt_of_le hc HF9.out.size) (by omega) (by omega) (by omega) (by omega)).trans (HF9.out.block c hc (by omega) (by omega))⟩
    exact ⟨HB6.out.trans (e1.mono HB6.out.size), HR6.out.below e1⟩
  cases o with
  | none =>
    obtain ⟨rfl, hf⟩ := HP.out
    have HB8 := hid (KB.out _ hf).1
    have HR8 := hid (KB.out _ hf).2
    clear hf HP KB HF9 HR6 HB6 HTd
    obtain ⟨c0, c1, c2, c3, c4, c5, c6, c7, c8, c9⟩ := HR8.out.cells
    dsimp only at c0 c1 c2 c3 c4 c5 c6 c7 c8 c9
    have z0 := frozen_of_heap HR8.out 0
    have z1 := frozen_of_heap HR8.out 1
    have z2 := frozen_of_heap HR8.out 2
    have z3 := frozen_of_heap HR8.out 3
    have z4 := frozen_of_heap HR8.out 4
    have z5 := frozen_of_heap HR8.out 5
    have z6 := frozen_of_heap HR8.out 6
    have z7 := frozen_of_heap HR8.out 7
    have z8 := frozen_of_heap HR8.out 8
    have z9 := frozen_of_heap HR8.out 9
    go_wp2_with fail
    refine heap_use HR8.out (.slice none 0 0) ⟨0, 0, 0, 0, 0, 0, 0, 0, 0⟩ _ ?_
    intro W7z hL hb7 _ _
    obtain ⟨y0, y1, y2, y3, y4, y5, y6, y7, y8, y9⟩ := hL.cells
    dsimp only at y0 y1 y2 y3 y4 y5 y6 y7 y8 y9
    exact bodyPost_ret (v := .tuple #[noHeap, .slice none 0 0, .int .i64 0, .bool false]) (by simp [results, Try.results12, go_sem, y0, y1, y2, y3, y4, y5, y6, y7, y8, y9, noHeap, heapV]) rfl ⟨rfl, HB8.out.trans (hb7 _ (Nat.le_succ _))⟩
  | some p =>
    obtain ⟨ys, s1⟩ := p
    obtain ⟨rfl, hc9, hr9, hf9⟩ := HP.out
    have HW9 := hid hc9
    have HRy := hid hr9
    have HF10 := hid hf9
    have HTd' := hid (HTd.out ys s1 W10 W10 bc bw cap' rfl HW9.out)
    clear hc9 hr9 hf9 HP HTd
    obtain ⟨i9, hi9⟩ : ∃ i9, touchZ s1 = i9 := ⟨_, rfl⟩
    have HI9 := hid hi9
    rw [hi9] at HTd'
    obtain ⟨wd, hwd⟩ : ∃ wd, makeZ 0 s1.h.top = wd := ⟨_, rfl⟩
    have HWd := hid hwd
    rw [hwd]
    clear hi9 hwd
    go_wp2_with fail
    refine HTd'.out.mono ?_
    rintro e W11 ⟨rfl, hb10⟩
    have HW11 := hid (Col.keep HW9.out hb10)
    have HRy11 := hid (HRy.out.of_block (hb10.block g HRy.out.lt))
    have HB11 := hid ((KB.out _ HF10.out).1.trans (hb10.mono (KB.out _ HF10.out).1.size))
    have HR11 := hid ((KB.out _ HF10.out).2.below hb10)
    obtain ⟨c0, c1, c2, c3, c4, c5, c6, c7, c8, c9⟩ := HR11.out.cells
    dsimp only at c0 c1 c2 c3 c4 c5 c6 c7 c8 c9
    have z0 := frozen_of_heap HR11.out 0
    have z1 := frozen_of_heap HR11.out 1
    have z2 := frozen_of_heap HR11.out 2
    have z3 := frozen_of_heap HR11.out 3
    have z4 := frozen_of_heap HR11.out 4
    have z5 := frozen_of_heap HR11.out 5
    have z6 := frozen_of_heap HR11.out 6
    have z7 := frozen_of_heap HR11.out 7
    have z8 := frozen_of_heap HR11.out 8
    have z9 := frozen_of_heap HR11.out 9
    have hsz6 := HB6.out.size
    clear hb10 HTd' HW9 HRy HF10 KB HF9 HR6 HB6
    go_wp2_with fail
    refine heap_use HR11.out (.slice (some ⟨bw, 0, none⟩) N cap') ⟨s1.h.size, s1.h.to, s1.h.bottom, s1.h.top, s1.h.scan, s1.h.fb, s1.h.ft, s1.h.flips, i9⟩ _ ?_
    intro W12 hL hb11 _ hoth
    obtain ⟨y0, y1, y2, y3, y4, y5, y6, y7, y8, y9⟩ := hL.cells
    dsimp only at y0 y1 y2 y3 y4 y5 y6 y7 y8 y9
    refine bodyPost_ret (v := .tuple #[heapV (.slice (some ⟨bw, 0, none⟩) N cap') ⟨s1.h.size, s1.h.to, s1.h.bottom, s1.h.top, s1.h.scan, s1.h.fb, s1.h.ft, s1.h.flips, i9⟩, .slice (some ⟨g, 0, none⟩) n gc, .int .i64 wd, .bool true]) (by simp [results, Try.results12, go_sem, y0, y1, y2, y3, y4, y5, y6, y7, y8, y9, heapV]) rfl ?_
    exact ⟨bw, cap', g, gc, by rw [HI9.out, HWd.out], HW11.out.row.of_block (hoth _ (by omega)), HRy11.out.of_block (hoth _ (by omega)), hgw, by omega, by omega, HB11.out.trans (hb11 _ (Nat.le_succ _)), HCpC.out⟩
end Go.Proofs.Ytebpgglegnljgaa

namespace Go.Proofs.Ytebpgglegnljgaa
open Go.RowKit
set_option linter.unusedVariables false

set_option maxHeartbeats 4000000 in
set_option maxRecDepth 100000 in
theorem sMake_notOk (b off cap N : Nat) (h : HpN) (rg n rc fg nf fc : Nat) (kind mi fz : Int) (w : World)
    (HOk : Hid (∀ X, Below w.heap.size w X → Calls Try.prog 35 #[heapV (.slice (some ⟨b, off, none⟩) N cap) h] X fun e w' => e = .returned (.bool false) ∧ Below X.heap.size X w')) :
    Calls Try.prog 13 #[heapV (.slice (some ⟨b, off, none⟩) N cap) h, .slice (some ⟨rg, 0, none⟩) n rc, .int .i64 kind, .slice (some ⟨fg, 0, none⟩) nf fc, .int .i64 mi] w fun e w' => e = .returned (.tuple #[noHeap, .slice none 0 0, .int .i64 0, .bool false]) ∧ Below w.heap.size w w' := by
  obtain ⟨g1, g2, g3, g4, g5, g6, g7, g8, g9⟩ := h
  unfold heapV at *
  dsimp only at *
  obtain ⟨W0, hW0, hA, hR, k2⟩ := both_new w (.slice (some ⟨b, off, none⟩) N cap) ⟨g1, g2, g3, g4, g5, g6, g7, g8, g9⟩
  dsimp only at hW0
  have HW0 := hid hW0
  have HA := hid hA
  have HR := hid hR
  have HK2 := hid k2
  clear hW0 hA hR k2
  go_enter Try.func13, Try.ntmps13
  go_wp2_with fail
  rw [HW0.out]
  refine (HOk.out _ HK2.out).mono ?_
  rintro e W2 ⟨rfl, hb6⟩
  have HB2 := hid (HK2.out.trans (hb6.mono HK2.out.size))
  have HR2 := hid (HR.out.below hb6)
  have HA2 := hid (HA.out.below hb6)
  clear hb6 HW0 HA HR HK2 HOk
  obtain ⟨c0, c1, c2, c3, c4, c5, c6, c7, c8, c9⟩ := HR2.out.cells
  dsimp only at c0 c1 c2 c3 c4 c5 c6 c7 c8 c9
  have z0 := frozen_of_heap HR2.out 0
  have z1 := frozen_of_heap HR2.out 1
  have z2 := frozen_of_heap HR2.out 2
  have z3 := frozen_of_heap HR2.out 3
  have z4 := frozen_of_heap HR2.out 4
  have z5 := frozen_of_heap HR2.out 5
  have z6 := frozen_of_heap HR2.out 6
  have z7 := frozen_of_heap HR2.out 7
  have z8 := frozen_of_heap HR2.out 8
  have z9 := frozen_of_heap HR2.out 9
  go_wp2_with fail
  refine heap_use HR2.out (.slice none 0 0) ⟨0, 0, 0, 0, 0, 0, 0, 0, 0⟩ _ ?_
  intro W7z hL hb7 _ _
  obtain ⟨y0, y1, y2, y3, y4, y5, y6, y7, y8, y9⟩ := hL.cells
  dsimp only at y0 y1 y2 y3 y4 y5 y6 y7 y8 y9
  exact bodyPost_ret (v := .tuple #[noHeap, .slice none 0 0, .int .i64 0, .bool false]) (by simp [results, Try.results13, go_sem, y0, y1, y2, y3, y4, y5, y6, y7, y8, y9, noHeap, heapV]) rfl ⟨rfl, HB2.out.trans (hb7 _ (Nat.le_succ _))⟩

set_option maxHeartbeats 4000000 in
set_option maxRecDepth 100000 in
theorem sMake_kind (b off cap N : Nat) (h : HpN) (rg n rc fg nf fc : Nat) (kind mi fz : Int) (w : World)
    (hz : (fz == 0) = true) (hz2 : fz = 0)
    (HOk : Hid (∀ X, Below w.heap.size w X → Calls Try.prog 35 #[heapV (.slice (some ⟨b, off, none⟩) N cap) h] X fun e w' => e = .returned (.bool true) ∧ Below X.heap.size X w'))
    (HFd : Hid (∀ X, Calls Try.prog 29 #[.int .i64 kind] X fun e w' => e = .returned (.int .i64 fz) ∧ X = w')) :
    Calls Try.prog 13 #[heapV (.slice (some ⟨b, off, none⟩) N cap) h, .slice (some ⟨rg, 0, none⟩) n rc, .int .i64 kind, .slice (some ⟨fg, 0, none⟩) nf fc, .int .i64 mi] w fun e w' => e = .returned (.tuple #[noHeap, .slice none 0 0, .int .i64 0, .bool false]) ∧ Below w.heap.size w w' := by
  obtain ⟨g1, g2, g3, g4, g5, g6, g7, g8, g9⟩ := h
  unfold heapV at *
  dsimp only at *
  obtain ⟨W0, hW0, hA, hR, k2⟩ := both_new w (.slice (some ⟨b, off, none⟩) N cap) ⟨g1, g2, g3, g4, g5, g6, g7, g8, g9⟩
  dsimp only at hW0
  have HW0 := hid hW0
  have HA := hid hA
  have HR := hid hR
  have HK2 := hid k2
  clear hW0 hA hR k2
  go_enter Try.func13, Try.ntmps13
  go_wp2_with fail
  rw [HW0.out]
  refine (HOk.out _ HK2.out).mono ?_
  rintro e W2 ⟨rfl, hb6⟩
  have HB2 := hid (HK2.out.trans (hb6.mono HK2.out.size))
  have HR2 := hid (HR.out.below hb6)
  have HA2 := hid (HA.out.below hb6)
  clear hb6 HW0 HA HR HK2 HOk
  go_wp2_with fail
  refine (HFd.out _).mono ?_
  rintro e W3 ⟨rfl, rfl⟩
  obtain ⟨c0, c1, c2, c3, c4, c5, c6, c7, c8, c9⟩ := HR2.out.cells
  dsimp only at c0 c1 c2 c3 c4 c5 c6 c7 c8 c9
  have z0 := frozen_of_heap HR2.out 0
  have z1 := frozen_of_heap HR2.out 1
  have z2 := frozen_of_heap HR2.out 2
  have z3 := frozen_of_heap HR2.out 3
  have z4 := frozen_of_heap HR2.out 4
  have z5 := frozen_of_heap HR2.out 5
  have z6 := frozen_of_heap HR2.out 6
  have z7 := frozen_of_heap HR2.out 7
  have z8 := frozen_of_heap HR2.out 8
  have z9 := frozen_of_heap HR2.out 9
  go_wp2_with fail
  refine heap_use HR2.out (.slice none 0 0) ⟨0, 0, 0, 0, 0, 0, 0, 0, 0⟩ _ ?_
  intro W7z hL hb7 _ _
  obtain ⟨y0, y1, y2, y3, y4, y5, y6, y7, y8, y9⟩ := hL.cells
  dsimp only at y0 y1 y2 y3 y4 y5 y6 y7 y8 y9
  exact bodyPost_ret (v := .tuple #[noHeap, .slice none 0 0, .int .i64 0, .bool false]) (by simp [results, Try.results13, go_sem, y0, y1, y2, y3, y4, y5, y6, y7, y8, y9, noHeap, heapV]) rfl ⟨rfl, HB2.out.trans (hb7 _ (Nat.le_succ _))⟩

set_option maxHeartbeats 4000000 in
set_option maxRecDepth 100000 in
theorem sMake_len (b off cap N : Nat) (h : HpN) (rg n rc fg nf fc : Nat) (kind mi fz : Int) (w : World)
    (hz : (fz == 0) = false) (hz2 : ¬ fz = 0) (hl : ((nf : Int) != fz) = true) (hl2 : ¬ (nf : Int) = fz)
    (HOk : Hid (∀ X, Below w.heap.size w X → Calls Try.prog 35 #[heapV (.slice (some ⟨b, off, none⟩) N cap) h] X fun e w' => e = .returned (.bool true) ∧ Below X.heap.size X w'))
    (HFd : Hid (∀ X, Calls Try.prog 29 #[.int .i64 kind] X fun e w' => e = .returned (.int .i64 fz) ∧ X = w')) :
    Calls Try.prog 13 #[heapV (.slice (some ⟨b, off, none⟩) N cap) h, .slice (some ⟨rg, 0, none⟩) n rc, .int .i64 kind, .slice (some ⟨fg, 0, none⟩) nf fc, .int .i64 mi] w fun e w' => e = .returned (.tuple #[noHeap, .slice none 0 0, .int .i64 0, .bool false]) ∧ Below w.heap.size w w' := by
  obtain ⟨g1, g2, g3, g4, g5, g6, g7, g8, g9⟩ := h
  unfold heapV at *
  dsimp only at *
  obtain ⟨W0, hW0, hA, hR, k2⟩ := both_new w (.slice (some ⟨b, off, none⟩) N cap) ⟨g1, g2, g3, g4, g5, g6, g7, g8, g9⟩
  dsimp only at hW0
  have HW0 := hid hW0
  have HA := hid hA
  have HR := hid hR
  have HK2 := hid k2
  clear hW0 hA hR k2
  go_enter Try.func13, Try.ntmps13
  go_wp2_with fail
  rw [HW0.out]
  refine (HOk.out _ HK2.out).mono ?_
  rintro e W2 ⟨rfl, hb6⟩
  have HB2 := hid (HK2.out.trans (hb6.mono HK2.out.size))
  have HR2 := hid (HR.out.below hb6)
  have HA2 := hid (HA.out.below hb6)
  clear hb6 HW0 HA HR HK2 HOk
  go_wp2_with fail
  refine (HFd.out _).mono ?_
  rintro e W3 ⟨rfl, rfl⟩
  go_wp2_with fail
  refine (HFd.out _).mono ?_
  rintro e W3 ⟨rfl, rfl⟩
  obtain ⟨c0, c1, c2, c3, c4, c5, c6, c7, c8, c9⟩ := HR2.out.cells
  dsimp only at c0 c1 c2 c3 c4 c5 c6 c7 c8 c9
  have z0 := frozen_of_heap HR2.out 0
  have z1 := frozen_of_heap HR2.out 1
  have z2 := frozen_of_heap HR2.out 2
  have z3 := frozen_of_heap HR2.out 3
  have z4 := frozen_of_heap HR2.out 4
  have z5 := frozen_of_heap HR2.out 5
  have z6 := frozen_of_heap HR2.out 6
  have z7 := frozen_of_heap HR2.out 7
  have z8 := frozen_of_heap HR2.out 8
  have z9 := frozen_of_heap HR2.out 9
  go_wp2_with fail
  refine heap_use HR2.out (.slice none 0 0) ⟨0, 0, 0, 0, 0, 0, 0, 0, 0⟩ _ ?_
  intro W7z hL hb7 _ _
  obtain ⟨y0, y1, y2, y3, y4, y5, y6, y7, y8, y9⟩ := hL.cells
  dsimp only at y0 y1 y2 y3 y4 y5 y6 y7 y8 y9
  exact bodyPost_ret (v := .tuple #[noHeap, .slice none 0 0, .int .i64 0, .bool false]) (by simp [results, Try.results13, go_sem, y0, y1, y2, y3, y4, y5, y6, y7, y8, y9, noHeap, heapV]) rfl ⟨rfl, HB2.out.trans (hb7 _ (Nat.le_succ _))⟩

set_option maxHeartbeats 4000000 in
set_option maxRecDepth 100000 in
theorem sMake_neg (b off cap N : Nat) (h : HpN) (rg n rc fg nf fc : Nat) (kind mi fz : Int) (w : World)
    (hz : (fz == 0) = false) (hz2 : ¬ fz = 0) (hl : ((nf : Int) != fz) = false) (hl2 : (nf : Int) = fz) (hm : mi < 0)
    (HOk : Hid (∀ X, Below w.heap.size w X → Calls Try.prog 35 #[heapV (.slice (some ⟨b, off, none⟩) N cap) h] X fun e w' => e = .returned (.bool true) ∧ Below X.heap.size X w'))
    (HFd : Hid (∀ X, Calls Try.prog 29 #[.int .i64 kind] X fun e w' => e = .returned (.int .i64 fz) ∧ X = w')) :
    Calls Try.prog 13 #[heapV (.slice (some ⟨b, off, none⟩) N cap) h, .slice (some ⟨rg, 0, none⟩) n rc, .int .i64 kind, .slice (some ⟨fg, 0, none⟩) nf fc, .int .i64 mi] w fun e w' => e = .returned (.tuple #[noHeap, .slice none 0 0, .int .i64 0, .bool false]) ∧ Below w.heap.size w w' := by
  obtain ⟨g1, g2, g3, g4, g5, g6, g7, g8, g9⟩ := h
  unfold heapV at *
  dsimp only at *
  obtain ⟨W0, hW0, hA, hR, k2⟩ := both_new w (.slice (some ⟨b, off, none⟩) N cap) ⟨g1, g2, g3, g4, g5, g6, g7, g8, g9⟩
  dsimp only at hW0
  have HW0 := hid hW0
  have HA := hid hA
  have HR := hid hR
  have HK2 := hid k2
  clear hW0 hA hR k2
  go_enter Try.func13, Try.ntmps13
  go_wp2_with fail
  rw [HW0.out]
  refine (HOk.out _ HK2.out).mono ?_
  rintro e W2 ⟨rfl, hb6⟩
  have HB2 := hid (HK2.out.trans (hb6.mono HK2.out.size))
  have HR2 := hid (HR.out.below hb6)
  have HA2 := hid (HA.out.below hb6)
  clear hb6 HW0 HA HR HK2 HOk
  go_wp2_with fail
  refine (HFd.out _).mono ?_
  rintro e W3 ⟨rfl, rfl⟩
  go_wp2_with fail
  refine (HFd.out _).mono ?_
  rintro e W3 ⟨rfl, rfl⟩
  obtain ⟨c0, c1, c2, c3, c4, c5, c6, c7, c8, c9⟩ := HR2.out.cells
  dsimp only at c0 c1 c2 c3 c4 c5 c6 c7 c8 c9
  have z0 := frozen_of_heap HR2.out 0
  have z1 := frozen_of_heap HR2.out 1
  have z2 := frozen_of_heap HR2.out 2
  have z3 := frozen_of_heap HR2.out 3
  have z4 := frozen_of_heap HR2.out 4
  have z5 := frozen_of_heap HR2.out 5
  have z6 := frozen_of_heap HR2.out 6
  have z7 := frozen_of_heap HR2.out 7
  have z8 := frozen_of_heap HR2.out 8
  have z9 := frozen_of_heap HR2.out 9
  go_wp2_with fail
  refine heap_use HR2.out (.slice none 0 0) ⟨0, 0, 0, 0, 0, 0, 0, 0, 0⟩ _ ?_
  intro W7z hL hb7 _ _
  obtain ⟨y0, y1, y2, y3, y4, y5, y6, y7, y8, y9⟩ := hL.cells
  dsimp only at y0 y1 y2 y3 y4 y5 y6 y7 y8 y9
  exact bodyPost_ret (v := .tuple #[noHeap, .slice none 0 0, .int .i64 0, .bool false]) (by simp [results, Try.results13, go_sem, y0, y1, y2, y3, y4, y5, y6, y7, y8, y9, noHeap, heapV]) rfl ⟨rfl, HB2.out.trans (hb7 _ (Nat.le_succ _))⟩

set_option maxHeartbeats 4000000 in
set_option maxRecDepth 100000 in
theorem sMake_big (b off cap N : Nat) (h : HpN) (rg n rc fg nf fc : Nat) (kind mi fz : Int) (w : World)
    (hz : (fz == 0) = false) (hz2 : ¬ fz = 0) (hl : ((nf : Int) != fz) = false) (hl2 : (nf : Int) = fz) (hm : ¬ mi < 0) (hb : 20 < mi)
    (HOk : Hid (∀ X, Below w.heap.size w X → Calls Try.prog 35 #[heapV (.slice (some ⟨b, off, none⟩) N cap) h] X fun e w' => e = .returned (.bool true) ∧ Below X.heap.size X w'))
    (HFd : Hid (∀ X, Calls Try.prog 29 #[.int .i64 kind] X fun e w' => e = .returned (.int .i64 fz) ∧ X = w')) :
    Calls Try.prog 13 #[heapV (.slice (some ⟨b, off, none⟩) N cap) h, .slice (some ⟨rg, 0, none⟩) n rc, .int .i64 kind, .slice (some ⟨fg, 0, none⟩) nf fc, .int .i64 mi] w fun e w' => e = .returned (.tuple #[noHeap, .slice none 0 0, .int .i64 0, .bool false]) ∧ Below w.heap.size w w' := by
  obtain ⟨g1, g2, g3, g4, g5, g6, g7, g8, g9⟩ := h
  unfold heapV at *
  dsimp only at *
  obtain ⟨W0, hW0, hA, hR, k2⟩ := both_new w (.slice (some ⟨b, off, none⟩) N cap) ⟨g1, g2, g3, g4, g5, g6, g7, g8, g9⟩
  dsimp only at hW0
  have HW0 := hid hW0
  have HA := hid hA
  have HR := hid hR
  have HK2 := hid k2
  clear hW0 hA hR k2
  go_enter Try.func13, Try.ntmps13
  go_wp2_with fail
  rw [HW0.out]
  refine (HOk.out _ HK2.out).mono ?_
  rintro e W2 ⟨rfl, hb6⟩
  have HB2 := hid (HK2.out.trans (hb6.mono HK2.out.size))
  have HR2 := hid (HR.out.below hb6)
  have HA2 := hid (HA.out.below hb6)
  clear hb6 HW0 HA HR HK2 HOk
  go_wp2_with fail
  refine (HFd.out _).mono ?_
  rintro e W3 ⟨rfl, rfl⟩
  go_wp2_with fail
  refine (HFd.out _).mono ?_
  rintro e W3 ⟨rfl, rfl⟩
  obtain ⟨c0, c1, c2, c3, c4, c5, c6, c7, c8, c9⟩ := HR2.out.cells
  dsimp only at c0 c1 c2 c3 c4 c5 c6 c7 c8 c9
  have z0 := frozen_of_heap HR2.out 0
  have z1 := frozen_of_heap HR2.out 1
  have z2 := frozen_of_heap HR2.out 2
  have z3 := frozen_of_heap HR2.out 3
  have z4 := frozen_of_heap HR2.out 4
  have z5 := frozen_of_heap HR2.out 5
  have z6 := frozen_of_heap HR2.out 6
  have z7 := frozen_of_heap HR2.out 7
  have z8 := frozen_of_heap HR2.out 8
  have z9 := frozen_of_heap HR2.out 9
  go_wp2_with fail
  refine heap_use HR2.out (.slice none 0 0) ⟨0, 0, 0, 0, 0, 0, 0, 0, 0⟩ _ ?_
  intro W7z hL hb7 _ _
  obtain ⟨y0, y1, y2, y3, y4, y5, y6, y7, y8, y9⟩ := hL.cells
  dsimp only at y0 y1 y2 y3 y4 y5 y6 y7 y8 y9
  exact bodyPost_ret (v := .tuple #[noHeap, .slice none 0 0, .int .i64 0, .bool false]) (by simp [results, Try.results13, go_sem, y0, y1, y2, y3, y4, y5, y6, y7, y8, y9, noHeap, heapV]) rfl ⟨rfl, HB2.out.trans (hb7 _ (Nat.le_succ _))⟩

set_option maxHeartbeats 4000000 in
set_option maxRecDepth 100000 in
theorem sMake_many (b off cap N : Nat) (h : HpN) (rg n rc fg nf fc : Nat) (kind mi fz : Int) (w : World)
    (hz : (fz == 0) = false) (hz2 : ¬ fz = 0) (hl : ((nf : Int) != fz) = false) (hl2 : (nf : Int) = fz) (hm : ¬ mi < 0) (hb : ¬ 20 < mi) (hn : (20 : Int) < (n : Int))
    (HOk : Hid (∀ X, Below w.heap.size w X → Calls Try.prog 35 #[heapV (.slice (some ⟨b, off, none⟩) N cap) h] X fun e w' => e = .returned (.bool true) ∧ Below X.heap.size X w'))
    (HFd : Hid (∀ X, Calls Try.prog 29 #[.int .i64 kind] X fun e w' => e = .returned (.int .i64 fz) ∧ X = w')) :
    Calls Try.prog 13 #[heapV (.slice (some ⟨b, off, none⟩) N cap) h, .slice (some ⟨rg, 0, none⟩) n rc, .int .i64 kind, .slice (some ⟨fg, 0, none⟩) nf fc, .int .i64 mi] w fun e w' => e = .returned (.tuple #[noHeap, .slice none 0 0, .int .i64 0, .bool false]) ∧ Below w.heap.size w w' := by
  obtain ⟨g1, g2, g3, g4, g5, g6, g7, g8, g9⟩ := h
  unfold heapV at *
  dsimp only at *
  obtain ⟨W0, hW0, hA, hR, k2⟩ := both_new w (.slice (some ⟨b, off, none⟩) N cap) ⟨g1, g2, g3, g4, g5, g6, g7, g8, g9⟩
  dsimp only at hW0
  have HW0 := hid hW0
  have HA := hid hA
  have HR := hid hR
  have HK2 := hid k2
  clear hW0 hA hR k2
  go_enter Try.func13, Try.ntmps13
  go_wp2_with fail
  rw [HW0.out]
  refine (HOk.out _ HK2.out).mono ?_
  rintro e W2 ⟨rfl, hb6⟩
  have HB2 := hid (HK2.out.trans (hb6.mono HK2.out.size))
  have HR2 := hid (HR.out.below hb6)
  have HA2 := hid (HA.out.below hb6)
  clear hb6 HW0 HA HR HK2 HOk
  go_wp2_with fail
  refine (HFd.out _).mono ?_
  rintro e W3 ⟨rfl, rfl⟩
  go_wp2_with fail
  refine (HFd.out _).mono ?_
  rintro e W3 ⟨rfl, rfl⟩
  obtain ⟨c0, c1, c2, c3, c4, c5, c6, c7, c8, c9⟩ := HR2.out.cells
  dsimp only at c0 c1 c2 c3 c4 c5 c6 c7 c8 c9
  have z0 := frozen_of_heap HR2.out 0
  have z1 := frozen_of_heap HR2.out 1
  have z2 := frozen_of_heap HR2.out 2
  have z3 := frozen_of_heap HR2.out 3
  have z4 := frozen_of_heap HR2.out 4
  have z5 := frozen_of_heap HR2.out 5
  have z6 := frozen_of_heap HR2.out 6
  have z7 := frozen_of_heap HR2.out 7
  have z8 := frozen_of_heap HR2.out 8
  have z9 := frozen_of_heap HR2.out 9
  go_wp2_with fail
  refine heap_use HR2.out (.slice none 0 0) ⟨0, 0, 0, 0, 0, 0, 0, 0, 0⟩ _ ?_
  intro W7z hL hb7 _ _
  obtain ⟨y0, y1, y2, y3, y4, y5, y6, y7, y8, y9⟩ := hL.cells
  dsimp only at y0 y1 y2 y3 y4 y5 y6 y7 y8 y9
  exact bodyPost_ret (v := .tuple #[noHeap, .slice none 0 0, .int .i64 0, .bool false]) (by simp [results, Try.results13, go_sem, y0, y1, y2, y3, y4, y5, y6, y7, y8, y9, noHeap, heapV]) rfl ⟨rfl, HB2.out.trans (hb7 _ (Nat.le_succ _))⟩

set_option maxHeartbeats 4000000 in
set_option maxRecDepth 100000 in
theorem sMake_roots (b off cap N : Nat) (h : HpN) (rg n rc fg nf fc : Nat) (kind mi fz : Int) (w : World)
    (hz : (fz == 0) = false) (hz2 : ¬ fz = 0) (hl : ((nf : Int) != fz) = false) (hl2 : (nf : Int) = fz) (hm : ¬ mi < 0) (hb : ¬ 20 < mi) (hn : ¬ (20 : Int) < (n : Int))
    (HOk : Hid (∀ X, Below w.heap.size w X → Calls Try.prog 35 #[heapV (.slice (some ⟨b, off, none⟩) N cap) h] X fun e w' => e = .returned (.bool true) ∧ Below X.heap.size X w'))
    (HFd : Hid (∀ X, Calls Try.prog 29 #[.int .i64 kind] X fun e w' => e = .returned (.int .i64 fz) ∧ X = w'))
    (HRt : Hid (∀ X, Below w.heap.size w X → Calls Try.prog 36 #[heapV (.slice (some ⟨b, off, none⟩) N cap) h, .slice (some ⟨rg, 0, none⟩) n rc] X fun e w' => e = .returned (.bool false) ∧ Below X.heap.size X w')) :
    Calls Try.prog 13 #[heapV (.slice (some ⟨b, off, none⟩) N cap) h, .slice (some ⟨rg, 0, none⟩) n rc, .int .i64 kind, .slice (some ⟨fg, 0, none⟩) nf fc, .int .i64 mi] w fun e w' => e = .returned (.tuple #[noHeap, .slice none 0 0, .int .i64 0, .bool false]) ∧ Below w.heap.size w w' := by
  obtain ⟨g1, g2, g3, g4, g5, g6, g7, g8, g9⟩ := h
  unfold heapV at *
  dsimp only at *
  obtain ⟨W0, hW0, hA, hR, k2⟩ := both_new w (.slice (some ⟨b, off, none⟩) N cap) ⟨g1, g2, g3, g4, g5, g6, g7, g8, g9⟩
  dsimp only at hW0
  have HW0 := hid hW0
  have HA := hid hA
  have HR := hid hR
  have HK2 := hid k2
  clear hW0 hA hR k2
  go_enter Try.func13, Try.ntmps13
  go_wp2_with fail
  rw [HW0.out]
  refine (HOk.out _ HK2.out).mono ?_
  rintro e W2 ⟨rfl, hb6⟩
  have HB2 := hid (HK2.out.trans (hb6.mono HK2.out.size))
  have HR2 := hid (HR.out.below hb6)
  have HA2 := hid (HA.out.below hb6)
  clear hb6 HW0 HA HR HK2 HOk
  go_wp2_with fail
  refine (HFd.out _).mono ?_
  rintro e W3 ⟨rfl, rfl⟩
  go_wp2_with fail
  refine (HFd.out _).mono ?_
  rintro e W3 ⟨rfl, rfl⟩
  obtain ⟨a0, a1, a2, a3, a4, a5, a6, a7, a8, a9⟩ := HA2.out.cells
  dsimp only at a0 a1 a2 a3 a4 a5 a6 a7 a8 a9
  go_wp2_with fail
  refine (HRt.out _ HB2.out).mono ?_
  rintro e W4 ⟨rfl, hb4⟩
  have HB4 := hid (HB2.out.trans (hb4.mono HB2.out.size))
  have HR4 := hid (HR2.out.below hb4)
  have HA4 := hid (HA2.out.below hb4)
  clear hb4 HB2 HR2 HA2 HRt a0 a1 a2 a3 a4 a5 a6 a7 a8 a9
  obtain ⟨c0, c1, c2, c3, c4, c5, c6, c7, c8, c9⟩ := HR4.out.cells
  dsimp only at c0 c1 c2 c3 c4 c5 c6 c7 c8 c9
  have z0 := frozen_of_heap HR4.out 0
  have z1 := frozen_of_heap HR4.out 1
  have z2 := frozen_of_heap HR4.out 2
  have z3 := frozen_of_heap HR4.out 3
  have z4 := frozen_of_heap HR4.out 4
  have z5 := frozen_of_heap HR4.out 5
  have z6 := frozen_of_heap HR4.out 6
  have z7 := frozen_of_heap HR4.out 7
  have z8 := frozen_of_heap HR4.out 8
  have z9 := frozen_of_heap HR4.out 9
  go_wp2_with fail
  refine heap_use HR4.out (.slice none 0 0) ⟨0, 0, 0, 0, 0, 0, 0, 0, 0⟩ _ ?_
  intro W7z hL hb7 _ _
  obtain ⟨y0, y1, y2, y3, y4, y5, y6, y7, y8, y9⟩ := hL.cells
  dsimp only at y0 y1 y2 y3 y4 y5 y6 y7 y8 y9
  exact bodyPost_ret (v := .tuple #[noHeap, .slice none 0 0, .int .i64 0, .bool false]) (by simp [results, Try.results13, go_sem, y0, y1, y2, y3, y4, y5, y6, y7, y8, y9, noHeap, heapV]) rfl ⟨rfl, HB4.out.trans (hb7 _ (Nat.le_succ _))⟩

set_option maxHeartbeats 4000000 in
set_option maxRecDepth 100000 in
theorem sMake_fields (b off cap N : Nat) (h : HpN) (rg n rc fg nf fc : Nat) (kind mi fz : Int) (w : World)
    (hz : (fz == 0) = false) (hz2 : ¬ fz = 0) (hl : ((nf : Int) != fz) = false) (hl2 : (nf : Int) = fz) (hm : ¬ mi < 0) (hb : ¬ 20 < mi) (hn : ¬ (20 : Int) < (n : Int))
    (HOk : Hid (∀ X, Below w.heap.size w X → Calls Try.prog 35 #[heapV (.slice (some ⟨b, off, none⟩) N cap) h] X fun e w' => e = .returned (.bool true) ∧ Below X.heap.size X w'))
    (HFd : Hid (∀ X, Calls Try.prog 29 #[.int .i64 kind] X fun e w' => e = .returned (.int .i64 fz) ∧ X = w'))
    (HRt : Hid (∀ X, Below w.heap.size w X → Calls Try.prog 36 #[heapV (.slice (some ⟨b, off, none⟩) N cap) h, .slice (some ⟨rg, 0, none⟩) n rc] X fun e w' => e = .returned (.bool true) ∧ Below X.heap.size X w'))
    (HFa : Hid (∀ X, Below w.heap.size w X → Calls Try.prog 36 #[heapV (.slice (some ⟨b, off, none⟩) N cap) h, .slice (some ⟨fg, 0, none⟩) nf fc] X fun e w' => e = .returned (.bool false) ∧ Below X.heap.size X w')) :
    Calls Try.prog 13 #[heapV (.slice (some ⟨b, off, none⟩) N cap) h, .slice (some ⟨rg, 0, none⟩) n rc, .int .i64 kind, .slice (some ⟨fg, 0, none⟩) nf fc, .int .i64 mi] w fun e w' => e = .returned (.tuple #[noHeap, .slice none 0 0, .int .i64 0, .bool false]) ∧ Below w.heap.size w w' := by
  obtain ⟨g1, g2, g3, g4, g5, g6, g7, g8, g9⟩ := h
  unfold heapV at *
  dsimp only at *
  obtain ⟨W0, hW0, hA, hR, k2⟩ := both_new w (.slice (some ⟨b, off, none⟩) N cap) ⟨g1, g2, g3, g4, g5, g6, g7, g8, g9⟩
  dsimp only at hW0
  have HW0 := hid hW0
  have HA := hid hA
  have HR := hid hR
  have HK2 := hid k2
  clear hW0 hA hR k2
  go_enter Try.func13, Try.ntmps13
  go_wp2_with fail
  rw [HW0.out]
  refine (HOk.out _ HK2.out).mono ?_
  rintro e W2 ⟨rfl, hb6⟩
  have HB2 := hid (HK2.out.trans (hb6.mono HK2.out.size))
  have HR2 := hid (HR.out.below hb6)
  have HA2 := hid (HA.out.below hb6)
  clear hb6 HW0 HA HR HK2 HOk
  go_wp2_with fail
  refine (HFd.out _).mono ?_
  rintro e W3 ⟨rfl, rfl⟩
  go_wp2_with fail
  refine (HFd.out _).mono ?_
  rintro e W3 ⟨rfl, rfl⟩
  obtain ⟨a0, a1, a2, a3, a4, a5, a6, a7, a8, a9⟩ := HA2.out.cells
  dsimp only at a0 a1 a2 a3 a4 a5 a6 a7 a8 a9
  go_wp2_with fail
  refine (HRt.out _ HB2.out).mono ?_
  rintro e W4 ⟨rfl, hb4⟩
  have HB4 := hid (HB2.out.trans (hb4.mono HB2.out.size))
  have HR4 := hid (HR2.out.below hb4)
  have HA4 := hid (HA2.out.below hb4)
  clear hb4 HB2 HR2 HA2 HRt a0 a1 a2 a3 a4 a5 a6 a7 a8 a9
  obtain ⟨a0, a1, a2, a3, a4, a5, a6, a7, a8, a9⟩ := HA4.out.cells
  dsimp only at a0 a1 a2 a3 a4 a5 a6 a7 a8 a9
  go_wp2_with fail
  refine (HFa.out _ HB4.out).mono ?_
  rintro e W6 ⟨rfl, hb4⟩
  have HB6 := hid (HB4.out.trans (hb4.mono HB4.out.size))
  have HR6 := hid (HR4.out.below hb4)
  have HA6 := hid (HA4.out.below hb4)
  clear hb4 HB4 HR4 HA4 HFa a0 a1 a2 a3 a4 a5 a6 a7 a8 a9
  obtain ⟨c0, c1, c2, c3, c4, c5, c6, c7, c8, c9⟩ := HR6.out.cells
  dsimp only at c0 c1 c2 c3 c4 c5 c6 c7 c8 c9
  have z0 := frozen_of_heap HR6.out 0
  have z1 := frozen_of_heap HR6.out 1
  have z2 := frozen_of_heap HR6.out 2
  have z3 := frozen_of_heap HR6.out 3
  have z4 := frozen_of_heap HR6.out 4
  have z5 := frozen_of_heap HR6.out 5
  have z6 := frozen_of_heap HR6.out 6
  have z7 := frozen_of_heap HR6.out 7
  have z8 := frozen_of_heap HR6.out 8
  have z9 := frozen_of_heap HR6.out 9
  go_wp2_with fail
  refine heap_use HR6.out (.slice none 0 0) ⟨0, 0, 0, 0, 0, 0, 0, 0, 0⟩ _ ?_
  intro W7z hL hb7 _ _
  obtain ⟨y0, y1, y2, y3, y4, y5, y6, y7, y8, y9⟩ := hL.cells
  dsimp only at y0 y1 y2 y3 y4 y5 y6 y7 y8 y9
  exact bodyPost_ret (v := .tuple #[noHeap, .slice none 0 0, .int .i64 0, .bool false]) (by simp [results, Try.results13, go_sem, y0, y1, y2, y3, y4, y5, y6, y7, y8, y9, noHeap, heapV]) rfl ⟨rfl, HB6.out.trans (hb7 _ (Nat.le_succ _))⟩

set_option maxHeartbeats 4000000 in
set_option maxRecDepth 100000 in
theorem sMake_good (b off cap N : Nat) (h : HpN) (rg n rc fg nf fc : Nat) (kind mi fz : Int) (w : World)
    (hz : (fz == 0) = false) (hz2 : ¬ fz = 0) (hl : ((nf : Int) != fz) = false) (hl2 : (nf : Int) = fz) (hm : ¬ mi < 0) (hb : ¬ 20 < mi) (hn : ¬ (20 : Int) < (n : Int)) (xs fs : List Int) (hlx : xs.length = n) (hlf : fs.length = nf) (hnf5 : nf ≤ 5) (hrg : 0 < n → rg < w.heap.size) (hfg : 0 < nf → fg < w.heap.size) (Hxs : Hid (∀ k, k < n → w.cell? ⟨rg, k, none⟩ = some (.int .i64 (xs.getD k 0)))) (Hfs : Hid (∀ k, k < nf → w.cell? ⟨fg, k, none⟩ = some (.int .i64 (fs.getD k 0)))) (s0 : CN) (o : Option (List Int × CN))
    (HOk : Hid (∀ X, Below w.heap.size w X → Calls Try.prog 35 #[heapV (.slice (some ⟨b, off, none⟩) N cap) h] X fun e w' => e = .returned (.bool true) ∧ Below X.heap.size X w'))
    (HFd : Hid (∀ X, Calls Try.prog 29 #[.int .i64 kind] X fun e w' => e = .returned (.int .i64 fz) ∧ X = w'))
    (HRt : Hid (∀ X, Below w.heap.size w X → Calls Try.prog 36 #[heapV (.slice (some ⟨b, off, none⟩) N cap) h, .slice (some ⟨rg, 0, none⟩) n rc] X fun e w' => e = .returned (.bool true) ∧ Below X.heap.size X w'))
    (HFa : Hid (∀ X, Below w.heap.size w X → Calls Try.prog 36 #[heapV (.slice (some ⟨b, off, none⟩) N cap) h, .slice (some ⟨fg, 0, none⟩) nf fc] X fun e w' => e = .returned (.bool true) ∧ Below X.heap.size X w'))
    (HOp : Hid (∀ X, Below w.heap.size w X → Calls Try.prog 46 #[heapV (.slice (some ⟨b, off, none⟩) N cap) h] X fun e w' => ∃ bm bw cap' : Nat, e = .returned (.pointer (some ⟨bm, 0, none⟩)) ∧ Wk X bm bw N cap' s0 false w' ∧ X.heap.size ≤ bm ∧ X.heap.size ≤ bw))
    (HNw : Hid (∀ (X : World) (bm bw cap' g c gf c2 : Nat), Wk X bm bw N cap' s0 false X → gf ≠ bm → gf ≠ bw → g ≠ bm → g ≠ bw → gf ≠ g → CellRow 3 X gf nf (intCells fs) → CellRow 3 X g n (intCells xs) → Calls Try.prog 47 #[.pointer (some ⟨bm, 0, none⟩), .slice (some ⟨g, 0, none⟩) n c, .int .i64 kind, .slice (some ⟨gf, 0, none⟩) nf c2, .int .i64 mi] X (SNewPost X bm bw N cap' g n gf o))) :
    Calls Try.prog 13 #[heapV (.slice (some ⟨b, off, none⟩) N cap) h, .slice (some ⟨rg, 0, none⟩) n rc, .int .i64 kind, .slice (some ⟨fg, 0, none⟩) nf fc, .int .i64 mi] w (MakeTold N n w o) := by
  obtain ⟨g1, g2, g3, g4, g5, g6, g7, g8, g9⟩ := h
  unfold heapV at *
  dsimp only at *
  obtain ⟨W0, hW0, hA, hR, k2⟩ := both_new w (.slice (some ⟨b, off, none⟩) N cap) ⟨g1, g2, g3, g4, g5, g6, g7, g8, g9⟩
  dsimp only at hW0
  have HW0 := hid hW0
  have HA := hid hA
  have HR := hid hR
  have HK2 := hid k2
  clear hW0 hA hR k2
  go_enter Try.func13, Try.ntmps13
  go_wp2_with fail
  rw [HW0.out]
  refine (HOk.out _ HK2.out).mono ?_
  rintro e W2 ⟨rfl, hb6⟩
  have HB2 := hid (HK2.out.trans (hb6.mono HK2.out.size))
  have HR2 := hid (HR.out.below hb6)
  have HA2 := hid (HA.out.below hb6)
  clear hb6 HW0 HA HR HK2 HOk
  go_wp2_with fail
  refine (HFd.out _).mono ?_
  rintro e W3 ⟨rfl, rfl⟩
  go_wp2_with fail
  refine (HFd.out _).mono ?_
  rintro e W3 ⟨rfl, rfl⟩
  obtain ⟨a0, a1, a2, a3, a4, a5, a6, a7, a8, a9⟩ := HA2.out.cells
  dsimp only at a0 a1 a2 a3 a4 a5 a6 a7 a8 a9
  go_wp2_with fail
  refine (HRt.out _ HB2.out).mono ?_
  rintro e W4 ⟨rfl, hb4⟩
  have HB4 := hid (HB2.out.trans (hb4.mono HB2.out.size))
  have HR4 := hid (HR2.out.below hb4)
  have HA4 := hid (HA2.out.below hb4)
  clear hb4 HB2 HR2 HA2 HRt a0 a1 a2 a3 a4 a5 a6 a7 a8 a9
  obtain ⟨a0, a1, a2, a3, a4, a5, a6, a7, a8, a9⟩ := HA4.out.cells
  dsimp only at a0 a1 a2 a3 a4 a5 a6 a7 a8 a9
  go_wp2_with fail
  refine (HFa.out _ HB4.out).mono ?_
  rintro e W6 ⟨rfl, hb4⟩
  have HB6 := hid (HB4.out.trans (hb4.mono HB4.out.size))
  have HR6 := hid (HR4.out.below hb4)
  have HA6 := hid (HA4.out.below hb4)
  clear hb4 HB4 HR4 HA4 HFa a0 a1 a2 a3 a4 a5 a6 a7 a8 a9
  obtain ⟨a0, a1, a2, a3, a4, a5, a6, a7, a8, a9⟩ := HA6.out.cells
  dsimp only at a0 a1 a2 a3 a4 a5 a6 a7 a8 a9
  go_wp2_with fail
  refine (HOp.out _ HB6.out).mono ?_
  rintro e W8 ⟨bm, bw, cap', rfl, hW8, hlo, hlo2⟩
  have HW8 := hid hW8
  have hlt7 := heap_lt HR6.out
  have hk8 := hW8.frame.below hlo hlo2
  have HB8 := hid (HB6.out.trans (hk8.mono HB6.out.size))
  have hbmlt := heap_lt hW8.blk
  have hbwlt := hW8.row.lt
  have h86 := hk8.size
  clear hW8 HOp HA6 hk8 a0 a1 a2 a3 a4 a5 a6 a7 a8 a9
  obtain ⟨i0, hi, hz0, hz1, hz2⟩ := info_parts info_int
  have hE : (W8.alloc (.cells #[] 3)).heap[W8.heap.size]? = some (.cells #[] 3) := (MapKept.heap_alloc W8 _).1
  have k9 := (Below.refl W8.heap.size W8).alloc (Nat.le_refl _) (.cells #[] 3)
  have hsz9 : (W8.alloc (.cells #[] 3)).heap.size = W8.heap.size + 1 := by simp
  have HE := hid hE
  have HK9 := hid k9
  have HS9 := hid hsz9
  clear hE k9 hsz9
  go_wp2_with (first
    | (at_builtin; refine wpList_append_own _ rfl _ _ 23 rfl W8.heap.size 3 i0 (.int .i64 0) 1 8 Try.underlying23 hi hz0 hz1 hz2 rfl (by decide) (.slice (some ⟨W8.heap.size, 0, none⟩) 0 0) 0 [] rfl ⟨rfl, Or.inr ⟨W8.heap.size, 0, #[], rfl, by omega, HE.out, by omega, by decide, rfl, rfl⟩⟩ ⟨rg, 0, none⟩ n rc (xs.map (fun x => Value.int .i64 x)) rfl (by simp [hlx]) (fun j u hu => ?_) (fun u hu => ?_) (by unfold maxLen; omega) (by omega) (by rw [HS9.out]; omega) ?_))
  · rw [List.getElem?_map] at hu
    obtain ⟨x, hx, rfl⟩ := Option.map_eq_some_iff.1 hu
    have hj : j < n := by have := (List.getElem?_eq_some_iff.1 hx).1; omega
    have hkw := HB8.out.trans (HK9.out.mono HB8.out.size)
    have e := (hkw.cell (p := ⟨rg, j, none⟩) (hrg (by omega))).trans (Hxs.out j hj)
    rw [show xs.getD j 0 = x by simp [List.getD, hx]] at e
    have ea : (⟨rg, 0, none⟩ : Addr).add j = ⟨rg, j, none⟩ := by
      unfold Addr.add
      split
      · simp_all
      · simp
    rw [ea]
    exact e
  · simp only [List.mem_map] at hu
    obtain ⟨x, _, rfl⟩ := hu
    rfl
  intro vA WCA hown hgrow hnil
  obtain ⟨-, hh | ⟨gA, cA, cur, rfl, hgA, hcur, hcp, hcm, hcs, htk⟩⟩ := id hown
  · exact absurd hh.1 (by simpa using hnil)
  obtain ⟨hrow, hlowA⟩ := row_of_owns hlx hown
  have hbA : Below W8.heap.size W8 WCA := Below.grown HK9.out hgrow (by rw [HS9.out]; omega) (fun j hj => by simp [Value.ownBlock] at hj; omega)
  have HRowA := hid hrow
  clear hown hgrow hnil hcur hcp hcm hcs htk hrow HE HK9 HS9 i0 hi hz0 hz1 hz2
  have HWA := hid (HW8.out.keep hbA)
  have HBA := hid (HB8.out.trans (hbA.mono HB8.out.size))
  have hgm : gA ≠ bm := by omega
  have hgw : gA ≠ bw := by omega
  have hsA := hbA.size
  have hltA := HRowA.out.lt
  have hbmA := heap_lt HWA.out.blk
  have hbwA := HWA.out.row.lt
  clear hbA HW8 HB8 hbmlt hbwlt
  obtain ⟨i0, hi, hz0, hz1, hz2⟩ := info_parts info_int
  have hE : (WCA.alloc (.cells #[] 3)).heap[WCA.heap.size]? = some (.cells #[] 3) := (MapKept.heap_alloc WCA _).1
  have k9 := (Below.refl WCA.heap.size WCA).alloc (Nat.le_refl _) (.cells #[] 3)
  have hsz9 : (WCA.alloc (.cells #[] 3)).heap.size = WCA.heap.size + 1 := by simp
  have HE := hid hE
  have HK9 := hid k9
  have HS9 := hid hsz9
  clear hE k9 hsz9
  go_wp2_with (first
    | (at_builtin; refine wpList_append_own _ rfl _ _ 23 rfl WCA.heap.size 3 i0 (.int .i64 0) 1 8 Try.underlying23 hi hz0 hz1 hz2 rfl (by decide) (.slice (some ⟨WCA.heap.size, 0, none⟩) 0 0) 0 [] rfl ⟨rfl, Or.inr ⟨WCA.heap.size, 0, #[], rfl, by omega, HE.out, by omega, by decide, rfl, rfl⟩⟩ ⟨fg, 0, none⟩ nf fc (fs.map (fun x => Value.int .i64 x)) rfl (by simp [hlf]) (fun j u hu => ?_) (fun u hu => ?_) (by unfold maxLen; omega) (by omega) (by rw [HS9.out]; omega) ?_))
  · rw [List.getElem?_map] at hu
    obtain ⟨x, hx, rfl⟩ := Option.map_eq_some_iff.1 hu
    have hj : j < nf := by have := (List.getElem?_eq_some_iff.1 hx).1; omega
    have hkw := HBA.out.trans (HK9.out.mono HBA.out.size)
    have e := (hkw.cell (p := ⟨fg, j, none⟩) (hfg (by omega))).trans (Hfs.out j hj)
    rw [show fs.getD j 0 = x by simp [List.getD, hx]] at e
    have ea : (⟨fg, 0, none⟩ : Addr).add j = ⟨fg, j, none⟩ := by
      unfold Addr.add
      split
      · simp_all
      · simp
    rw [ea]
    exact e
  · simp only [List.mem_map] at hu
    obtain ⟨x, _, rfl⟩ := hu
    rfl
  intro vB WCB hown hgrow hnil
  obtain ⟨-, hh | ⟨gB, cB, cur, rfl, hgB, hcur, hcp, hcm, hcs, htk⟩⟩ := id hown
  · exact absurd hh.1 (by simpa using hnil)
  obtain ⟨hrow, hlowB⟩ := row_of_owns hlf hown
  have hbB : Below WCA.heap.size WCA WCB := Below.grown HK9.out hgrow (by rw [HS9.out]; omega) (fun j hj => by simp [Value.ownBlock] at hj; omega)
  have HRowB := hid hrow
  clear hown hgrow hnil hcur hcp hcm hcs htk hrow HE HK9 HS9 i0 hi hz0 hz1 hz2
  have HWB := hid (HWA.out.keep hbB)
  have HRA := hid (HRowA.out.of_block (hbB.block gA hltA))
  have hfm : gB ≠ bm := by omega
  have hfw : gB ≠ bw := by omega
  have hfg' : gB ≠ gA := by omega
  have hg6 : W6.heap.size ≤ gA := by omega
  have hf6 : W6.heap.size ≤ gB := by omega
  have HNw' := hid (HNw.out _ _ _ _ _ cA _ cB (HWB.out.rebase _ (Frm.refl _ _ _)) hfm hfw hgm hgw hfg' HRowB.out HRA.out)
  have HF9 := hid HWB.out.frame
  clear hbB HNw HWA HWB HRowA HRowB HRA HBA
  go_wp2_with fail
  refine HNw'.out.mono ?_
  intro e W10 hP
  have HP := hid hP
  clear hP HNw'
  have KB : Hid (∀ X, Frm4 WCB bm bw gA gB X → Below w.heap.size w X ∧ HeapBlk X (w.heap.size + 1) (.slice none 0 0) ⟨0, 0, 0, 0, 0, 0, 0, 0, 0⟩) := fun X hf => by
    obtain ⟨f1, f2, f3, f4, f5⟩ := hf
    have e1 : Below W6.heap.size W6 X := ⟨f1.trans HF9.out.os, f2.trans HF9.out.tape, f3.trans HF9.out.output, Nat.le_trans HF9.out.size f4, fun c hc => (f5 c (Nat.lt_of_lt_of_le hc HF9.out.size) (by omega) (by omega) (by omega) (by omega)).trans (HF9.out.block c hc (by omega) (by omega))⟩
    exact ⟨HB6.out.trans (e1.mono HB6.out.size), HR6.out.below e1⟩
  have hsz7 := HB6.out.size
  cases o with
  | none =>
    obtain ⟨rfl, ⟨s1, hc⟩, hf⟩ := HP.out
    have HB10 := hid (KB.out _ hf).1
    have HR10 := hid (KB.out _ hf).2
    have d10 := hc.blk.cells.2.2.2.2.2.2.2.2.2.2
    clear hc hf HP KB HF9 HB6 HR6
    obtain ⟨c0, c1, c2, c3, c4, c5, c6, c7, c8, c9⟩ := HR10.out.cells
    dsimp only at c0 c1 c2 c3 c4 c5 c6 c7 c8 c9
    have z0 := frozen_of_heap HR10.out 0
    have z1 := frozen_of_heap HR10.out 1
    have z2 := frozen_of_heap HR10.out 2
    have z3 := frozen_of_heap HR10.out 3
    have z4 := frozen_of_heap HR10.out 4
    have z5 := frozen_of_heap HR10.out 5
    have z6 := frozen_of_heap HR10.out 6
    have z7 := frozen_of_heap HR10.out 7
    have z8 := frozen_of_heap HR10.out 8
    have z9 := frozen_of_heap HR10.out 9
    go_wp2_with fail
    refine heap_use HR10.out (.slice none 0 0) ⟨0, 0, 0, 0, 0, 0, 0, 0, 0⟩ _ ?_
    intro W7z hL hb7 _ _
    obtain ⟨y0, y1, y2, y3, y4, y5, y6, y7, y8, y9⟩ := hL.cells
    dsimp only at y0 y1 y2 y3 y4 y5 y6 y7 y8 y9
    exact bodyPost_ret (v := .tuple #[noHeap, .slice none 0 0, .int .i64 0, .bool false]) (by simp [results, Try.results13, go_sem, y0, y1, y2, y3, y4, y5, y6, y7, y8, y9, noHeap, heapV]) rfl ⟨rfl, HB10.out.trans (hb7 _ (Nat.le_succ _))⟩
  | some p =>
    obtain ⟨ys, s1⟩ := p
    obtain ⟨rfl, hc, hry, hf⟩ := HP.out
    have HB10 := hid (KB.out _ hf).1
    have HR10 := hid (KB.out _ hf).2
    have HW10 := hid hc
    have HRy := hid hry
    obtain ⟨d0, d1, d2, d3, d4, d5, d6, d7, d8, d9, d10⟩ := hc.blk.cells
    obtain ⟨tau, htau⟩ : ∃ tau, touchZ s1 = tau := ⟨_, rfl⟩
    rw [htau] at d9
    have HTau := hid htau
    obtain ⟨wd, hwd⟩ : ∃ wd, makeZ 0 s1.h.top = wd := ⟨_, rfl⟩
    have HWd := hid hwd
    rw [hwd]
    clear htau hwd hc hry hf HP KB HF9 HB6 HR6
    obtain ⟨c0, c1, c2, c3, c4, c5, c6, c7, c8, c9⟩ := HR10.out.cells
    dsimp only at c0 c1 c2 c3 c4 c5 c6 c7 c8 c9
    have z0 := frozen_of_heap HR10.out 0
    have z1 := frozen_of_heap HR10.out 1
    have z2 := frozen_of_heap HR10.out 2
    have z3 := frozen_of_heap HR10.out 3
    have z4 := frozen_of_heap HR10.out 4
    have z5 := frozen_of_heap HR10.out 5
    have z6 := frozen_of_heap HR10.out 6
    have z7 := frozen_of_heap HR10.out 7
    have z8 := frozen_of_heap HR10.out 8
    have z9 := frozen_of_heap HR10.out 9
    go_wp2_with fail
    refine heap_use HR10.out (.slice (some ⟨bw, 0, none⟩) N cap') ⟨s1.h.size, s1.h.to, s1.h.bottom, s1.h.top, s1.h.scan, s1.h.fb, s1.h.ft, s1.h.flips, tau⟩ _ ?_
    intro W11 hL hb11 _ hoth
    obtain ⟨y0, y1, y2, y3, y4, y5, y6, y7, y8, y9⟩ := hL.cells
    dsimp only at y0 y1 y2 y3 y4 y5 y6 y7 y8 y9
    refine bodyPost_ret (v := .tuple #[heapV (.slice (some ⟨bw, 0, none⟩) N cap') ⟨s1.h.size, s1.h.to, s1.h.bottom, s1.h.top, s1.h.scan, s1.h.fb, s1.h.ft, s1.h.flips, tau⟩, .slice (some ⟨gA, 0, none⟩) n cA, .int .i64 wd, .bool true]) (by simp [results, Try.results13, go_sem, y0, y1, y2, y3, y4, y5, y6, y7, y8, y9, heapV]) rfl ?_
    exact ⟨bw, cap', gA, cA, by rw [HTau.out, HWd.out], HW10.out.row.of_block (hoth _ (by omega)), HRy.out.of_block (hoth _ (by omega)), hgw, by omega, by omega, HB10.out.trans (hb11 _ (Nat.le_succ _))⟩

end Go.Proofs.Ytebpgglegnljgaa

namespace Go.Proofs.Ytebpgglegnljgaa
open Go.RowKit

def ToldM (W : World) (ans : List Int) (H : HpN) (ys : List Int) (wd : Int) (ok : Bool) (e : Ending) (w' : World) : Prop :=
  (∃ v u, e = .returned (.tuple #[heapV v H, u, .int .i64 wd, .bool ok]) ∧ SliceR 3 1 W.heap.size w' v ans.length (intCells ans) ∧ SliceR 3 1 W.heap.size w' u ys.length (intCells ys) ∧ (ans.length ≠ 0 → ys.length ≠ 0 → u.ownBlock ≠ v.ownBlock)) ∧ Below W.heap.size W w'

theorem toldM_none {W w' : World} {e : Ending} (h : e = .returned (.tuple #[noHeap, .slice none 0 0, .int .i64 0, .bool false]) ∧ Below W.heap.size W w') : ToldM W [] ⟨0, 0, 0, 0, 0, 0, 0, 0, 0⟩ [] 0 false e w' :=
  ⟨⟨_, _, h.1, ⟨none, 0, rfl, Or.inl rfl⟩, ⟨none, 0, rfl, Or.inl rfl⟩, fun h => absurd rfl h⟩, h.2⟩

theorem toldM_some {N n : Nat} {W w' : World} {ys : List Int} {s : CN} {e : Ending} (hl : s.ws.length = N) (hn : ys.length = n) (h : MakeTold N n W (some (ys, s)) e w') : ToldM W s.ws { s.h with touched := touchZ s } ys (makeZ 0 s.h.top) true e w' := by
  obtain ⟨bw, cap, g, c, rfl, hr, hr2, hne, hlow, hlow2, hb⟩ := h
  subst hl
  subst hn
  exact ⟨⟨_, _, rfl, ⟨some ⟨bw, 0, none⟩, cap, rfl, Or.inr ⟨bw, rfl, hlow, by rw [Nat.mul_one]; exact hr⟩⟩, ⟨some ⟨g, 0, none⟩, c, rfl, Or.inr ⟨g, rfl, hlow2, by rw [Nat.mul_one]; exact hr2⟩⟩, fun _ _ => by simp [Value.ownBlock]; exact hne⟩, hb⟩

theorem kind_fields (k : Int) (h : ¬ fieldsZ k = 0) : (fieldsZ k = 2 ∨ fieldsZ k = 5) ∧ 0 ≤ k ∧ k ≤ 15 := by
  unfold fieldsZ at *
  split at h
  · rename_i hk
    rw [if_pos hk]
    omega
  · rename_i hk
    rw [if_neg hk]
    split at h
    · rename_i hk2
      rw [if_pos hk2]
      omega
    · exact absurd rfl h

theorem putZ_len {kind : Int} {fs : List Int} {s : CN} : (putZ kind fs s).ws.length = s.ws.length := by
  unfold putZ
  rw [(writesRun_keeps _ _ _ _).1]
  unfold headZ
  dsimp only
  rw [List.length_set]

theorem makeRun_len {S : List Int} {N n nf m : Nat} {s0 : CN} {rs fs : List Int} {kind : Int} (ok : MakeOk S N n nf m s0 rs fs kind) {ys : List Int} {s : CN} (h : makeRun rs fs kind m s0 = some (ys, s)) : s.ws.length = N ∧ ys.length = n := by
  unfold makeRun at h
  rw [ok.flen, ok.rlen] at h
  cases h1 : scanRun m s0 with
  | none => rw [h1] at h; cases h
  | some s1 =>
    rw [h1] at h
    have c1 := scanRun_scn ok.scn m s1 h1
    dsimp only at h
    split at h
    · split at h
      · have hmv := ok.flip s1 h1
        cases h2 : movesRun rs n { s1 with h := flipH s1.h } with
        | none => rw [h2] at h; cases h
        | some p =>
          obtain ⟨rs', s2⟩ := p
          rw [h2] at h
          obtain ⟨m2, l2, -⟩ := movesRun_mvs hmv (ok.raim _) n (by rw [ok.rlen]; exact Nat.le_refl _) rs' s2 h2
          dsimp only at h
          cases h3 : movesRun fs nf s2 with
          | none => rw [h3] at h; cases h
          | some p =>
            obtain ⟨fs', s3⟩ := p
            rw [h3] at h
            obtain ⟨m3, l3, -⟩ := movesRun_mvs m2 (ok.faim _) nf (by rw [ok.flen]; exact Nat.le_refl _) fs' s3 h3
            dsimp only at h
            split at h
            · cases h
            · cases h
              exact ⟨by rw [putZ_len, m3.len], by rw [l2, ok.rlen]⟩
      · cases h
    · cases h
      exact ⟨by rw [putZ_len, c1.len], ok.rlen⟩

end Go.Proofs.Ytebpgglegnljgaa

namespace Go.Proofs.Ytebpgglegnljgaa
open Go.RowKit

open Classical in
noncomputable def makeA (bs xs fs : List Int) (h : HpN) (kind mi : Int) : Option (List Int × CN) :=
  if ∃ S, OkHeap bs S h ∧ ¬ fieldsZ kind = 0 ∧ (fs.length : Int) = fieldsZ kind ∧ 0 ≤ mi ∧ mi ≤ 20 ∧ xs.length ≤ 20 ∧ (∀ i, i < xs.length → wordOkZ S h (xs.getD i 0) = true) ∧ ∀ i, i < fs.length → wordOkZ S h (fs.getD i 0) = true then makeRun xs fs kind mi.toNat ⟨bs, h, 0, 0⟩ else none

def mD : Option (List Int × CN) → Int
  | none => 0
  | some p => makeZ 0 p.2.h.top

def ToldMC (W : World) (ans : List Int) (H : HpN) (ys : List Int) (wd : Int) (ok : Bool) (e : Ending) (w' : World) : Prop :=
  (∃ ad cp u, e = .returned (.tuple #[heapV (.slice ad ans.length cp) H, u, .int .i64 wd, .bool ok]) ∧ SliceR 3 1 W.heap.size w' (.slice ad ans.length cp) ans.length (intCells ans) ∧ SliceR 3 1 W.heap.size w' u ys.length (intCells ys) ∧ ans.length ≤ cp) ∧ Below W.heap.size W w'

theorem toldM_noneC {W w' : World} {e : Ending} (h : e = .returned (.tuple #[noHeap, .slice none 0 0, .int .i64 0, .bool false]) ∧ Below W.heap.size W w') : ToldMC W [] ⟨0, 0, 0, 0, 0, 0, 0, 0, 0⟩ [] 0 false e w' :=
  ⟨⟨none, 0, _, h.1, ⟨none, 0, rfl, Or.inl rfl⟩, ⟨none, 0, rfl, Or.inl rfl⟩, Nat.le_refl _⟩, h.2⟩

theorem toldM_someC {N n : Nat} {W w' : World} {ys : List Int} {s : CN} {e : Ending} (hl : s.ws.length = N) (hn : ys.length = n) (h : MakeToldC N n W (some (ys, s)) e w') : ToldMC W s.ws { s.h with touched := touchZ s } ys (makeZ 0 s.h.top) true e w' := by
  obtain ⟨bw, cap, g, c, rfl, hr, hr2, hne, hlow, hlow2, hb, hc⟩ := h
  subst hl
  subst hn
  exact ⟨⟨some ⟨bw, 0, none⟩, cap, _, rfl, ⟨_, _, rfl, Or.inr ⟨bw, rfl, hlow, by rw [Nat.mul_one]; exact hr⟩⟩, ⟨some ⟨g, 0, none⟩, c, rfl, Or.inr ⟨g, rfl, hlow2, by rw [Nat.mul_one]; exact hr2⟩⟩, hc⟩, hb⟩

theorem make_told (bs xs fs : List Int) (h : HpN) (kind mi : Int) (ht : h.touched < 9223372036854775808) (hm : bs.length ≤ 1048576) (hx : xs.length ≤ 1048576) :
    (∀ B g cp B2 rg rc B3 fg fc W, bs.length ≤ cp → SliceR 3 1 B W (.slice (some ⟨g, 0, none⟩) bs.length cp) bs.length (intCells bs) → SliceR 3 1 B2 W (.slice (some ⟨rg, 0, none⟩) xs.length rc) xs.length (intCells xs) → SliceR 3 1 B3 W (.slice (some ⟨fg, 0, none⟩) fs.length fc) fs.length (intCells fs) → Calls Try.prog 13 #[heapV (.slice (some ⟨g, 0, none⟩) bs.length cp) h, .slice (some ⟨rg, 0, none⟩) xs.length rc, .int .i64 kind, .slice (some ⟨fg, 0, none⟩) fs.length fc, .int .i64 mi] W (ToldM W (mW (makeA bs xs fs h kind mi)) (mH (makeA bs xs fs h kind mi)) (mY (makeA bs xs fs h kind mi)) (mD (makeA bs xs fs h kind mi)) (makeA bs xs fs h kind mi).isSome)) ∧
    (∀ B g cp B2 rg rc B3 fg fc W, bs.length ≤ cp → SliceR 3 1 B W (.slice (some ⟨g, 0, none⟩) bs.length cp) bs.length (intCells bs) → SliceR 3 1 B2 W (.slice (some ⟨rg, 0, none⟩) xs.length rc) xs.length (intCells xs) → SliceR 3 1 B3 W (.slice (some ⟨fg, 0, none⟩) fs.length fc) fs.length (intCells fs) → Calls Try.prog 12 #[heapV (.slice (some ⟨g, 0, none⟩) bs.length cp) h, .slice (some ⟨rg, 0, none⟩) xs.length rc, .int .i64 kind, .slice (some ⟨fg, 0, none⟩) fs.length fc, .int .i64 mi] W (ToldMC W (mW (makeA bs xs fs h kind mi)) (mH (makeA bs xs fs h kind mi)) (mY (makeA bs xs fs h kind mi)) (mD (makeA bs xs fs h kind mi)) (makeA bs xs fs h kind mi).isSome)) := by
  by_cases ho : Ordered h bs.length
  case neg =>
    have eN : makeA bs xs fs h kind mi = none := by
      unfold makeA
      rw [if_neg]
      rintro ⟨S', ok', a1, a2, a3, a4, a5, a6, a7⟩
      first
      | exact ho ok'.ord
      | (rw [ok_spec ok'] at hk; cases hk; done)
      | exact a1 hz2
      | exact hl2 a2
      | exact hn a5
      | omega
      | (obtain rfl : S' = S := Option.some.inj (ok'.spec.symm.trans ok.spec); rw [roots_all a6] at hro; cases hro; done)
      | (obtain rfl : S' = S := Option.some.inj (ok'.spec.symm.trans ok.spec); rw [roots_all a7] at hfo; cases hfo; done)
    rw [eN]
    exact ⟨fun B g cp B2 rg rc B3 fg fc W _ _ _ _ => (sMake_notOk g 0 cp bs.length h rg xs.length rc fg fs.length fc kind mi 0 W (fun X _ => specOk_bad _ _ _ h X hm ho)).mono (fun _ _ => toldM_none), fun B g cp B2 rg rc B3 fg fc W _ _ _ _ => (iMake_notOk g 0 cp bs.length h rg xs.length rc fg fs.length fc kind mi 0 W (fun X _ => layOut_bad _ _ _ h X ho)).mono (fun _ _ => toldM_noneC)⟩
  obtain ⟨o1, o2, o3, o4, o5, o6, o7, o8, o9, o10, o11, o12, o13⟩ := id ho
  have hN0 : bs.length ≠ 0 := by omega
  have hN8 : bs.length ≤ 8000 := by omega
  have SOk : ∀ B g cp W, bs.length ≤ cp → SliceR 3 1 B W (.slice (some ⟨g, 0, none⟩) bs.length cp) bs.length (intCells bs) → ∀ X, Below W.heap.size W X → Calls Try.prog 35 #[heapV (.slice (some ⟨g, 0, none⟩) bs.length cp) h] X fun e w' => e = .returned (.bool (specOk bs h)) ∧ Below X.heap.size X w' := fun B g cp W hcp hs X hX =>
    specOk_calls g 0 cp bs.length bs h X rfl ho (row_atC hN0 hs hX).1 (row_atC hN0 hs hX).2
  have ILy : ∀ B g cp W, bs.length ≤ cp → SliceR 3 1 B W (.slice (some ⟨g, 0, none⟩) bs.length cp) bs.length (intCells bs) → ∀ X, Below W.heap.size W X → Calls Try.prog 30 #[heapV (.slice (some ⟨g, 0, none⟩) bs.length cp) h] X (LayTold g 0 cp bs.length bs h X) := fun B g cp W hcp hs X hX =>
    layOut_calls g 0 cp bs.length bs h X rfl ho hcp (row_atC hN0 hs hX).1 (row_atC hN0 hs hX).2
  cases hk : specOk bs h with
  | false =>
    have hki : implOk bs h = false := by rw [← ok_same ho]; exact hk
    rw [hk] at SOk
    have eN : makeA bs xs fs h kind mi = none := by
      unfold makeA
      rw [if_neg]
      rintro ⟨S', ok', a1, a2, a3, a4, a5, a6, a7⟩
      first
      | exact ho ok'.ord
      | (rw [ok_spec ok'] at hk; cases hk; done)
      | exact a1 hz2
      | exact hl2 a2
      | exact hn a5
      | omega
      | (obtain rfl : S' = S := Option.some.inj (ok'.spec.symm.trans ok.spec); rw [roots_all a6] at hro; cases hro; done)
      | (obtain rfl : S' = S := Option.some.inj (ok'.spec.symm.trans ok.spec); rw [roots_all a7] at hfo; cases hfo; done)
    rw [eN]
    refine ⟨fun B g cp B2 rg rc B3 fg fc W hcp hs _ _ => (sMake_notOk g 0 cp bs.length h rg xs.length rc fg fs.length fc kind mi 0 W (SOk B g cp W hcp hs)).mono (fun _ _ => toldM_none), fun B g cp B2 rg rc B3 fg fc W hcp hs _ _ => (iMake_notOk g 0 cp bs.length h rg xs.length rc fg fs.length fc kind mi 0 W (fun X hX => (ILy B g cp W hcp hs X hX).mono ?_)).mono (fun _ _ => toldM_noneC)⟩
    rintro e w' ⟨hres, hb'⟩
    rcases hres with ⟨_, e1⟩ | ⟨S, gb, _, e2, _⟩
    · exact ⟨e1, hb'⟩
    · rw [hki] at e2
      cases e2
  | true =>
    have hki : implOk bs h = true := by rw [← ok_same ho]; exact hk
    rw [hk] at SOk
    obtain ⟨S, ok⟩ := ok_facts ho hk
    have ILg : ∀ B g cp W, bs.length ≤ cp → SliceR 3 1 B W (.slice (some ⟨g, 0, none⟩) bs.length cp) bs.length (intCells bs) → ∀ X, Below W.heap.size W X → Calls Try.prog 30 #[heapV (.slice (some ⟨g, 0, none⟩) bs.length cp) h] X fun e w' => ∃ gb, e = .returned (.tuple #[layV (.slice (some ⟨g, 0, none⟩) bs.length cp) h (.slice (some ⟨gb, 0, none⟩) bs.length bs.length), .bool true]) ∧ Hid (ISt g 0 gb bs.length bs S w') ∧ Below X.heap.size X w' := fun B g cp W hcp hs X hX => (ILy B g cp W hcp hs X hX).mono (by
      rintro e w' ⟨hres, hb'⟩
      rcases hres with ⟨e1, _⟩ | ⟨S', gb, e1, _, e2, _, e3⟩
      · rw [hki] at e1
        cases e1
      · rw [ok.impl] at e1
        cases e1
        exact ⟨gb, e2, e3, hb'⟩)
    have SFd := fun X => specFields_calls kind X
    have IFd := fun X => implFields_calls kind X
    by_cases hz2 : fieldsZ kind = 0
    · have hz : (fieldsZ kind == 0) = true := by simpa using hz2
      have eN : makeA bs xs fs h kind mi = none := by
        unfold makeA
        rw [if_neg]
        rintro ⟨S', ok', a1, a2, a3, a4, a5, a6, a7⟩
        first
        | exact ho ok'.ord
        | (rw [ok_spec ok'] at hk; cases hk; done)
        | exact a1 hz2
        | exact hl2 a2
        | exact hn a5
        | omega
        | (obtain rfl : S' = S := Option.some.inj (ok'.spec.symm.trans ok.spec); rw [roots_all a6] at hro; cases hro; done)
        | (obtain rfl : S' = S := Option.some.inj (ok'.spec.symm.trans ok.spec); rw [roots_all a7] at hfo; cases hfo; done)
      rw [eN]
      exact ⟨fun B g cp B2 rg rc B3 fg fc W hcp hs _ _ => (sMake_kind g 0 cp bs.length h rg xs.length rc fg fs.length fc kind mi _ W hz hz2 (SOk B g cp W hcp hs) SFd).mono (fun _ _ => toldM_none), fun B g cp B2 rg rc B3 fg fc W hcp hs _ _ => (iMake_kind g 0 cp bs.length h rg xs.length rc fg fs.length fc kind mi _ W bs S hz hz2 (ILg B g cp W hcp hs) IFd).mono (fun _ _ => toldM_noneC)⟩
    have hz : (fieldsZ kind == 0) = false := by simpa using hz2
    obtain ⟨hkf, hk0, hk15⟩ := kind_fields kind hz2
    by_cases hl2 : (fs.length : Int) = fieldsZ kind
    case neg =>
      have hl : ((fs.length : Int) != fieldsZ kind) = true := by simpa using hl2
      have eN : makeA bs xs fs h kind mi = none := by
        unfold makeA
        rw [if_neg]
        rintro ⟨S', ok', a1, a2, a3, a4, a5, a6, a7⟩
        first
        | exact ho ok'.ord
        | (rw [ok_spec ok'] at hk; cases hk; done)
        | exact a1 hz2
        | exact hl2 a2
        | exact hn a5
        | omega
        | (obtain rfl : S' = S := Option.some.inj (ok'.spec.symm.trans ok.spec); rw [roots_all a6] at hro; cases hro; done)
        | (obtain rfl : S' = S := Option.some.inj (ok'.spec.symm.trans ok.spec); rw [roots_all a7] at hfo; cases hfo; done)
      rw [eN]
      exact ⟨fun B g cp B2 rg rc B3 fg fc W hcp hs _ _ => (sMake_len g 0 cp bs.length h rg xs.length rc fg fs.length fc kind mi _ W hz hz2 hl hl2 (SOk B g cp W hcp hs) SFd).mono (fun _ _ => toldM_none), fun B g cp B2 rg rc B3 fg fc W hcp hs _ _ => (iMake_len g 0 cp bs.length h rg xs.length rc fg fs.length fc kind mi _ W bs S hz hz2 hl hl2 (ILg B g cp W hcp hs) IFd).mono (fun _ _ => toldM_noneC)⟩
    have hl : ((fs.length : Int) != fieldsZ kind) = false := by simpa using hl2
    have hnf : fs.length = 2 ∨ fs.length = 5 := by omega
    by_cases hmn : mi < 0
    · have eN : makeA bs xs fs h kind mi = none := by
        unfold makeA
        rw [if_neg]
        rintro ⟨S', ok', a1, a2, a3, a4, a5, a6, a7⟩
        first
        | exact ho ok'.ord
        | (rw [ok_spec ok'] at hk; cases hk; done)
        | exact a1 hz2
        | exact hl2 a2
        | exact hn a5
        | omega
        | (obtain rfl : S' = S := Option.some.inj (ok'.spec.symm.trans ok.spec); rw [roots_all a6] at hro; cases hro; done)
        | (obtain rfl : S' = S := Option.some.inj (ok'.spec.symm.trans ok.spec); rw [roots_all a7] at hfo; cases hfo; done)
      rw [eN]
      exact ⟨fun B g cp B2 rg rc B3 fg fc W hcp hs _ _ => (sMake_neg g 0 cp bs.length h rg xs.length rc fg fs.length fc kind mi _ W hz hz2 hl hl2 hmn (SOk B g cp W hcp hs) SFd).mono (fun _ _ => toldM_none), fun B g cp B2 rg rc B3 fg fc W hcp hs _ _ => (iMake_neg g 0 cp bs.length h rg xs.length rc fg fs.length fc kind mi _ W bs S hz hz2 hl hl2 hmn (ILg B g cp W hcp hs) IFd).mono (fun _ _ => toldM_noneC)⟩
    by_cases hmb : 20 < mi
    · have eN : makeA bs xs fs h kind mi = none := by
        unfold makeA
        rw [if_neg]
        rintro ⟨S', ok', a1, a2, a3, a4, a5, a6, a7⟩
        first
        | exact ho ok'.ord
        | (rw [ok_spec ok'] at hk; cases hk; done)
        | exact a1 hz2
        | exact hl2 a2
        | exact hn a5
        | omega
        | (obtain rfl : S' = S := Option.some.inj (ok'.spec.symm.trans ok.spec); rw [roots_all a6] at hro; cases hro; done)
        | (obtain rfl : S' = S := Option.some.inj (ok'.spec.symm.trans ok.spec); rw [roots_all a7] at hfo; cases hfo; done)
      rw [eN]
      exact ⟨fun B g cp B2 rg rc B3 fg fc W hcp hs _ _ => (sMake_big g 0 cp bs.length h rg xs.length rc fg fs.length fc kind mi _ W hz hz2 hl hl2 hmn hmb (SOk B g cp W hcp hs) SFd).mono (fun _ _ => toldM_none), fun B g cp B2 rg rc B3 fg fc W hcp hs _ _ => (iMake_big g 0 cp bs.length h rg xs.length rc fg fs.length fc kind mi _ W bs S hz hz2 hl hl2 hmn hmb (ILg B g cp W hcp hs) IFd).mono (fun _ _ => toldM_noneC)⟩
    have IRt : ∀ g cp B2 rg rc W, SliceR 3 1 B2 W (.slice (some ⟨rg, 0, none⟩) xs.length rc) xs.length (intCells xs) → ∀ (X : World) (gb : Nat), Below W.heap.size W X → ISt g 0 gb bs.length bs S X → Calls Try.prog 31 #[layV (.slice (some ⟨g, 0, none⟩) bs.length cp) h (.slice (some ⟨gb, 0, none⟩) bs.length bs.length), .slice (some ⟨rg, 0, none⟩) xs.length rc] X fun e w' => e = .returned (.bool (decide (xs.length ≤ 20) && implRoots S h xs)) ∧ Below X.heap.size X w' := fun g cp B2 rg rc W hr X gb hX hI => rootsOk_calls (some ⟨rg, 0, none⟩) rc g 0 cp gb bs.length bs S h xs X ho hI (hr.below hX).intSlice hx
    by_cases hn : xs.length ≤ 20
    case neg =>
      rw [decide_eq_false hn, Bool.false_and] at IRt
      have eN : makeA bs xs fs h kind mi = none := by
        unfold makeA
        rw [if_neg]
        rintro ⟨S', ok', a1, a2, a3, a4, a5, a6, a7⟩
        first
        | exact ho ok'.ord
        | (rw [ok_spec ok'] at hk; cases hk; done)
        | exact a1 hz2
        | exact hl2 a2
        | exact hn a5
        | omega
        | (obtain rfl : S' = S := Option.some.inj (ok'.spec.symm.trans ok.spec); rw [roots_all a6] at hro; cases hro; done)
        | (obtain rfl : S' = S := Option.some.inj (ok'.spec.symm.trans ok.spec); rw [roots_all a7] at hfo; cases hfo; done)
      rw [eN]
      exact ⟨fun B g cp B2 rg rc B3 fg fc W hcp hs _ _ => (sMake_many g 0 cp bs.length h rg xs.length rc fg fs.length fc kind mi _ W hz hz2 hl hl2 hmn hmb (by omega) (SOk B g cp W hcp hs) SFd).mono (fun _ _ => toldM_none), fun B g cp B2 rg rc B3 fg fc W hcp hs hr _ => (iMake_roots g 0 cp bs.length h rg xs.length rc fg fs.length fc kind mi _ W bs S hz hz2 hl hl2 hmn hmb (ILg B g cp W hcp hs) IFd (IRt g cp B2 rg rc W hr)).mono (fun _ _ => toldM_noneC)⟩
    have hn2 : ¬ (20 : Int) < (xs.length : Int) := by omega
    rw [decide_eq_true hn, Bool.true_and] at IRt
    have SRt : ∀ (zs : List Int), zs.length ≤ 20 → ∀ B g cp B2 rg rc W, bs.length ≤ cp → SliceR 3 1 B W (.slice (some ⟨g, 0, none⟩) bs.length cp) bs.length (intCells bs) → SliceR 3 1 B2 W (.slice (some ⟨rg, 0, none⟩) zs.length rc) zs.length (intCells zs) → ∀ X, Below W.heap.size W X → Calls Try.prog 36 #[heapV (.slice (some ⟨g, 0, none⟩) bs.length cp) h, .slice (some ⟨rg, 0, none⟩) zs.length rc] X fun e w' => e = .returned (.bool (implRoots S h zs)) ∧ Below X.heap.size X w' := fun zs hz20 B g cp B2 rg rc W hcp hs hr X hX => by
      have hsame : specRoots bs S h zs = implRoots S h zs := (roots_same ok zs).symm
      rw [← hsame]
      exact specRoots_calls g 0 cp bs.length bs S h _ zs X rfl ho ok.spec (row_atC hN0 hs hX).1 (row_atC hN0 hs hX).2 (hr.below hX).intSlice hz20
    have SR1 := SRt xs hn
    have SR2 := SRt fs (by omega)
    have IFa : ∀ g cp B2 rg rc W, SliceR 3 1 B2 W (.slice (some ⟨rg, 0, none⟩) fs.length rc) fs.length (intCells fs) → ∀ (X : World) (gb : Nat), Below W.heap.size W X → ISt g 0 gb bs.length bs S X → Calls Try.prog 41 #[layV (.slice (some ⟨g, 0, none⟩) bs.length cp) h (.slice (some ⟨gb, 0, none⟩) bs.length bs.length), .slice (some ⟨rg, 0, none⟩) fs.length rc] X fun e w' => e = .returned (.bool (implRoots S h fs)) ∧ Below X.heap.size X w' := fun g cp B2 rg rc W hr X gb hX hI => allOk_calls (some ⟨rg, 0, none⟩) rc g 0 cp gb bs.length bs S h fs X ho hI (hr.below hX).intSlice (by omega)
    cases hro : implRoots S h xs with
    | false =>
      rw [hro] at SR1 IRt
      have eN : makeA bs xs fs h kind mi = none := by
        unfold makeA
        rw [if_neg]
        rintro ⟨S', ok', a1, a2, a3, a4, a5, a6, a7⟩
        first
        | exact ho ok'.ord
        | (rw [ok_spec ok'] at hk; cases hk; done)
        | exact a1 hz2
        | exact hl2 a2
        | exact hn a5
        | omega
        | (obtain rfl : S' = S := Option.some.inj (ok'.spec.symm.trans ok.spec); rw [roots_all a6] at hro; cases hro; done)
        | (obtain rfl : S' = S := Option.some.inj (ok'.spec.symm.trans ok.spec); rw [roots_all a7] at hfo; cases hfo; done)
      rw [eN]
      exact ⟨fun B g cp B2 rg rc B3 fg fc W hcp hs hr _ => (sMake_roots g 0 cp bs.length h rg xs.length rc fg fs.length fc kind mi _ W hz hz2 hl hl2 hmn hmb hn2 (SOk B g cp W hcp hs) SFd (SR1 B g cp B2 rg rc W hcp hs hr)).mono (fun _ _ => toldM_none), fun B g cp B2 rg rc B3 fg fc W hcp hs hr _ => (iMake_roots g 0 cp bs.length h rg xs.length rc fg fs.length fc kind mi _ W bs S hz hz2 hl hl2 hmn hmb (ILg B g cp W hcp hs) IFd (IRt g cp B2 rg rc W hr)).mono (fun _ _ => toldM_noneC)⟩
    | true =>
      rw [hro] at SR1 IRt
      cases hfo : implRoots S h fs with
      | false =>
        rw [hfo] at SR2 IFa
        have eN : makeA bs xs fs h kind mi = none := by
          unfold makeA
          rw [if_neg]
          rintro ⟨S', ok', a1, a2, a3, a4, a5, a6, a7⟩
          first
          | exact ho ok'.ord
          | (rw [ok_spec ok'] at hk; cases hk; done)
          | exact a1 hz2
          | exact hl2 a2
          | exact hn a5
          | omega
          | (obtain rfl : S' = S := Option.some.inj (ok'.spec.symm.trans ok.spec); rw [roots_all a6] at hro; cases hro; done)
          | (obtain rfl : S' = S := Option.some.inj (ok'.spec.symm.trans ok.spec); rw [roots_all a7] at hfo; cases hfo; done)
        rw [eN]
        exact ⟨fun B g cp B2 rg rc B3 fg fc W hcp hs hr hf => (sMake_fields g 0 cp bs.length h rg xs.length rc fg fs.length fc kind mi _ W hz hz2 hl hl2 hmn hmb hn2 (SOk B g cp W hcp hs) SFd (SR1 B g cp B2 rg rc W hcp hs hr) (SR2 B g cp B3 fg fc W hcp hs hf)).mono (fun _ _ => toldM_none), fun B g cp B2 rg rc B3 fg fc W hcp hs hr hf => (iMake_fields g 0 cp bs.length h rg xs.length rc fg fs.length fc kind mi _ W bs S hz hz2 hl hl2 hmn hmb (ILg B g cp W hcp hs) IFd (IRt g cp B2 rg rc W hr) (IFa g cp B3 fg fc W hf)).mono (fun _ _ => toldM_noneC)⟩
      | true =>
        rw [hfo] at SR2 IFa
        have hmi : ((mi.toNat : Nat) : Int) = mi := by omega
        have mok : MakeOk S bs.length xs.length fs.length mi.toNat ⟨bs, h, 0, 0⟩ xs fs kind := by
          refine ⟨scn_start ok, fun s1 h1 => mvs_scanned ok h1, by omega, rfl, rfl, hn, hnf, hk0, hk15, fun h' i hi => ?_, fun h' i hi => ?_⟩
          · unfold implRoots at hro
            rw [List.all_eq_true] at hro
            exact used_aim_any ok (hro i (List.mem_range.2 hi)) h'
          · unfold implRoots at hfo
            rw [List.all_eq_true] at hfo
            exact used_aim_any ok (hfo i (List.mem_range.2 hi)) h'
        have SOp : ∀ B g cp W, bs.length ≤ cp → SliceR 3 1 B W (.slice (some ⟨g, 0, none⟩) bs.length cp) bs.length (intCells bs) → ∀ X, Below W.heap.size W X → Calls Try.prog 46 #[heapV (.slice (some ⟨g, 0, none⟩) bs.length cp) h] X fun e w' => ∃ bm bw cap' : Nat, e = .returned (.pointer (some ⟨bm, 0, none⟩)) ∧ Wk X bm bw bs.length cap' ⟨bs, h, 0, 0⟩ false w' ∧ X.heap.size ≤ bm ∧ X.heap.size ≤ bw := fun B g cp W hcp hs X hX => open_calls g 0 cp bs.length bs h X (by omega) rfl hN8 (row_atC hN0 hs hX).1 (row_atC hN0 hs hX).2 o6 ht
        have IOp : ∀ B g cp W, bs.length ≤ cp → SliceR 3 1 B W (.slice (some ⟨g, 0, none⟩) bs.length cp) bs.length (intCells bs) → ∀ X, Below W.heap.size W X → Calls Try.prog 42 #[heapV (.slice (some ⟨g, 0, none⟩) bs.length cp) h] X fun e w' => ∃ bc bw cap' : Nat, e = .returned (.pointer (some ⟨bc, 0, none⟩)) ∧ (ColAt X bc bw bs.length cap' ⟨bs, h, 0, 0⟩ w' ∧ bs.length ≤ cap') ∧ X.heap.size ≤ bc ∧ X.heap.size ≤ bw := fun B g cp W hcp hs X hX => collectorOf_cap g 0 cp bs.length bs h X (by omega) rfl hN8 (row_atC hN0 hs hX).1 (row_atC hN0 hs hX).2
        have HCs : ∀ (zs : List Int) B2 rg rc W, SliceR 3 1 B2 W (.slice (some ⟨rg, 0, none⟩) zs.length rc) zs.length (intCells zs) → ∀ X, Below W.heap.size W X → ∀ k, k < zs.length → rg < X.heap.size ∧ X.cell? ⟨rg, 0 + k, none⟩ = some (.int .i64 (zs.getD k 0)) := fun zs B2 rg rc W hr X hX k hk => ⟨(row_atC (by omega) hr hX).1, (row_atC (by omega) hr hX).2 k hk⟩
        have SNw : ∀ (X : World) (bm bw cap' g c gf c2 : Nat), Wk X bm bw bs.length cap' ⟨bs, h, 0, 0⟩ false X → gf ≠ bm → gf ≠ bw → g ≠ bm → g ≠ bw → gf ≠ g → CellRow 3 X gf fs.length (intCells fs) → CellRow 3 X g xs.length (intCells xs) → Calls Try.prog 47 #[.pointer (some ⟨bm, 0, none⟩), .slice (some ⟨g, 0, none⟩) xs.length c, .int .i64 kind, .slice (some ⟨gf, 0, none⟩) fs.length c2, .int .i64 mi] X (SNewPost X bm bw bs.length cap' g xs.length gf (makeRun xs fs kind mi.toNat ⟨bs, h, 0, 0⟩)) := fun X bm bw cap' g c gf c2 hX h1 h2 h3 h4 h5 h6 h7 => by
          have e := snew_calls mok hX h1 h2 h3 h4 h5 h6 h7 (gc := c) (fc := c2)
          rw [hmi] at e
          exact e
        have INw : ∀ (X : World) (bc bw cap' g c gf c2 : Nat), ColAt X bc bw bs.length cap' ⟨bs, h, 0, 0⟩ X → gf ≠ bc → gf ≠ bw → g ≠ bc → g ≠ bw → gf ≠ g → CellRow 3 X gf fs.length (intCells fs) → CellRow 3 X g xs.length (intCells xs) → Calls Try.prog 44 #[.pointer (some ⟨bc, 0, none⟩), .slice (some ⟨g, 0, none⟩) xs.length c, .int .i64 kind, .slice (some ⟨gf, 0, none⟩) fs.length c2, .int .i64 mi] X (NewPost X bc bw bs.length cap' g xs.length gf (makeRun xs fs kind mi.toNat ⟨bs, h, 0, 0⟩)) := fun X bc bw cap' g c gf c2 hX h1 h2 h3 h4 h5 h6 h7 => by
          have e := inew_calls mok hX h1 h2 h3 h4 h5 h6 h7 (gc := c) (fc := c2)
          rw [hmi] at e
          exact e
        have sS := fun B g cp B2 rg rc B3 fg fc W hcp hs hr hf => sMake_good g 0 cp bs.length h rg xs.length rc fg fs.length fc kind mi _ W hz hz2 hl hl2 hmn hmb hn2 xs fs rfl rfl (by omega) (fun h0 => (HCs xs B2 rg rc W hr W (Below.refl _ _) 0 h0).1) (fun h0 => (HCs fs B3 fg fc W hf W (Below.refl _ _) 0 h0).1) (fun k hk => by have e := (HCs xs B2 rg rc W hr W (Below.refl _ _) k hk).2; rw [Nat.zero_add] at e; exact e) (fun k hk => by have e := (HCs fs B3 fg fc W hf W (Below.refl _ _) k hk).2; rw [Nat.zero_add] at e; exact e) ⟨bs, h, 0, 0⟩ _ (SOk B g cp W hcp hs) SFd (SR1 B g cp B2 rg rc W hcp hs hr) (SR2 B g cp B3 fg fc W hcp hs hf) (SOp B g cp W hcp hs) SNw
        have sI := fun B g cp B2 rg rc B3 fg fc W hcp hs hr hf => iMake_goodC g 0 cp bs.length h rg xs.length rc fg fs.length fc kind mi _ W bs S hz hz2 hl hl2 hmn hmb xs fs ⟨bs, h, 0, 0⟩ _ (ILg B g cp W hcp hs) IFd (IRt g cp B2 rg rc W hr) (IFa g cp B3 fg fc W hf) (IOp B g cp W hcp hs) (fun X hX => clone_row rg xs.length rc xs X rfl hn (fun k hk => (HCs xs B2 rg rc W hr X hX k hk).2)) (fun X hX => clone_row fg fs.length fc fs X rfl (by omega) (fun k hk => (HCs fs B3 fg fc W hf X hX k hk).2)) INw (fun ys s1 X w0 bc bw cap' _ hX => by
          have e := told_calls hX
          rw [touch_same] at e
          exact e)
        cases hr : makeRun xs fs kind mi.toNat ⟨bs, h, 0, 0⟩ with
        | none =>
          rw [hr] at sS sI
          have eN : makeA bs xs fs h kind mi = none := by
            unfold makeA
            rw [if_pos ⟨S, ok, hz2, hl2, by omega, by omega, hn, roots_each hro, roots_each hfo⟩]
            exact hr
          rw [eN]
          exact ⟨fun B g cp B2 rg rc B3 fg fc W hcp hs hr hf => (sS B g cp B2 rg rc B3 fg fc W hcp hs hr hf).mono (fun _ _ => toldM_none), fun B g cp B2 rg rc B3 fg fc W hcp hs hr hf => (sI B g cp B2 rg rc B3 fg fc W hcp hs hr hf).mono (fun _ _ => toldM_noneC)⟩
        | some p =>
          obtain ⟨ys, s1⟩ := p
          obtain ⟨hl1, hly⟩ := makeRun_len mok hr
          rw [hr] at sS sI
          have eN : makeA bs xs fs h kind mi = some (ys, s1) := by
            unfold makeA
            rw [if_pos ⟨S, ok, hz2, hl2, by omega, by omega, hn, roots_each hro, roots_each hfo⟩]
            exact hr
          rw [eN]
          exact ⟨fun B g cp B2 rg rc B3 fg fc W hcp hs hr hf => (sS B g cp B2 rg rc B3 fg fc W hcp hs hr hf).mono (fun _ _ h => toldM_some hl1 hly h), fun B g cp B2 rg rc B3 fg fc W hcp hs hr hf => (sI B g cp B2 rg rc B3 fg fc W hcp hs hr hf).mono (fun _ _ h => toldM_someC hl1 hly h)⟩
end Go.Proofs.Ytebpgglegnljgaa

namespace Go.Proofs.Ytebpgglegnljgaa
open Go.RowKit

theorem writes_cnt (fs : List Int) (a : Nat) (s : CN) : ∀ k, (writesRun fs a k s).r = s.r ∧ (writesRun fs a k s).t = s.t + k ∧ (writesRun fs a k s).h = s.h
  | 0 => ⟨rfl, by unfold writesRun; omega, rfl⟩
  | k + 1 => by
    obtain ⟨h1, h2, h3⟩ := writes_cnt fs a s k
    unfold writesRun
    dsimp only
    refine ⟨h1, by rw [h2]; push_cast; omega, h3⟩

theorem put_cnt (kind : Int) (fs : List Int) (s : CN) : (putZ kind fs s).r = s.r ∧ (putZ kind fs s).t = s.t + 1 + fs.length ∧ (putZ kind fs s).h.touched = s.h.touched := by
  unfold putZ
  obtain ⟨h1, h2, h3⟩ := writes_cnt fs (s.h.top - (1 + fs.length : Nat)).toNat (headZ kind (1 + fs.length) (s.h.top - (1 + fs.length : Nat)).toNat s) fs.length
  rw [h1, h2, h3]
  exact ⟨rfl, rfl, rfl⟩

theorem scan_cnt0 {ws S : List Int} {h : HpN} (ok : OkHeap ws S h) {m : Nat} {s1 : CN} (he : scanRun m ⟨ws, h, 0, 0⟩ = some s1) : s1.r + s1.t ≤ 90 * (m : Int) ∧ 0 ≤ s1.r + s1.t := by
  have o := ok.ord
  obtain ⟨o1, o2, o3, o4, o5, o6, o7, o8, -⟩ := o
  by_cases hb : h.scan < h.bottom
  · have := scans_cnt (s := ⟨ws, h, 0, 0⟩) ((dyn_of_ok ok).of_iff ⟨fun _ => trivial, fun _ => hb⟩) m s1 he
    dsimp only at this
    omega
  · have e := scanRun_end (s := ⟨ws, h, 0, 0⟩) (k := 0) rfl (by dsimp only; omega) m
    rw [Nat.zero_add, he] at e
    cases e
    dsimp only
    omega

theorem make_touch {ws S xs fs : List Int} {h : HpN} (ok : OkHeap ws S h) (hx : ∀ i, i < xs.length → wordOkZ S h (xs.getD i 0) = true) (hfs : ∀ i, i < fs.length → wordOkZ S h (fs.getD i 0) = true) {kind : Int} (hnx : xs.length ≤ 20) (hn : fs.length ≤ 5) (hf : h.flips < 4000000000) (ht : h.touched ≤ 1000000000) {m : Nat} (hm : m ≤ 20) {ys : List Int} {s' : CN} (he : makeRun xs fs kind m ⟨ws, h, 0, 0⟩ = some (ys, s')) : 0 ≤ touchZ s' ∧ touchZ s' ≤ h.touched + 10000 := by
  have lx := fun i hi => (used_iff ok _).1 (hx i hi)
  have lf := fun i hi => (used_iff ok _).1 (hfs i hi)
  have o := ok.ord
  obtain ⟨o1, o2, o3, o4, o5, o6, -⟩ := o
  unfold makeRun at he
  cases h1 : scanRun m ⟨ws, h, 0, 0⟩ with
  | none => rw [h1] at he; cases he
  | some s1 =>
    rw [h1] at he
    dsimp only at he
    obtain ⟨c, S1, f, p⟩ := phase_scans ok h1
    have c1 := scan_cnt0 ok h1
    have hfl : s1.h.flips = h.flips := by rw [p.num]
    have htc : s1.h.touched = h.touched := by rw [p.num]
    by_cases hr : s1.h.top - s1.h.bottom < (1 + fs.length : Nat)
    · rw [if_pos hr] at he
      by_cases hb : s1.h.scan = s1.h.bottom
      · rw [if_pos hb] at he
        cases h2 : movesRun xs xs.length { s1 with h := flipH s1.h } with
        | none => rw [h2] at he; cases he
        | some q =>
          obtain ⟨ys', s2⟩ := q
          rw [h2] at he
          dsimp only at he
          cases h3 : movesRun fs fs.length s2 with
          | none => rw [h3] at he; cases he
          | some q3 =>
            obtain ⟨fs', s3⟩ := q3
            rw [h3] at he
            dsimp only at he
            by_cases hr2 : s3.h.top - s3.h.bottom < (1 + fs.length : Nat)
            · rw [if_pos hr2] at he
              cases he
            · rw [if_neg hr2] at he
              cases he
              obtain ⟨S2, f2, m2⟩ := flip_moves p.dyn (by omega) (by omega) (fun i hi => p.led (lx i hi)) h2
              have m2s := m2.step
              dsimp only at m2s
              have pf : ∀ i, i < fs.length → Pts S2 s2.ws.length (fs.getD i 0) := fun i hi => by
                rw [m2s.len]
                exact m2s.pts (p.led (lf i hi)).drop.pts
              obtain ⟨S3, f3, m3⟩ := dyn_moves m2s.dyn pf fs.length (Nat.le_refl _) fs' s3 h3
              have c2 := moves_cnt (s := { s1 with h := flipH s1.h }) (dyn_flip p.dyn (by omega) (by omega)) (fun i hi => (p.led (lx i hi)).drop.pts) xs.length (Nat.le_refl _) ys s2 h2
              have c3 := moves_cnt m2s.dyn pf fs.length (Nat.le_refl _) fs' s3 h3
              dsimp only at c2
              obtain ⟨q1, q2, q3⟩ := put_cnt kind fs' s3
              have e3 : s3.h.touched = s2.h.touched := by rw [m3.step.num]
              have e2 : s2.h.touched = s1.h.touched := by rw [m2s.num]; rfl
              have hl := m3.len
              unfold touchZ wrap64
              rw [q1, q2, q3, e3, e2, htc]
              omega
      · rw [if_neg hb] at he
        cases he
    · rw [if_neg hr] at he
      cases he
      obtain ⟨q1, q2, q3⟩ := put_cnt kind fs s1
      unfold touchZ wrap64
      rw [q1, q2, q3, htc]
      omega

structure KeptL (ws xs ws' ys : List Int) (H : HpN) (K : Nat) : Prop where
  ok : ∃ S, OkHeap ws' S H ∧ ∀ i, i < ys.length → wordOkZ S H (ys.getD i 0) = true
  g : GraphG ws' ys H K
  len : ws'.length = ws.length
  ylen : ys.length = xs.length
  sameY : (tellsRun ws' ys ys.length []).2 = (tellsRun ws xs xs.length []).2
  sameO : (graphRun ws' K (tellsRun ws' ys ys.length []).1).2 = (graphRun ws K (tellsRun ws xs xs.length []).1).2

theorem kept_of {ws xs ws' ys S' : List Int} {h' : HpN} (st : StillOk ws xs ws' ys S' h') (hn : xs.length ≤ 20) {K : Nat} (hK : Ends ws xs K) : KeptL ws xs ws' ys h' K := by
  have hl := st.same.1
  obtain ⟨t1, t2⟩ := st.same.told
  obtain ⟨e1, e2⟩ := t2 K hK
  obtain ⟨K', g⟩ := graph_good st.ok st.roots (by omega)
  have := g.ends.one e1
  subst this
  exact ⟨⟨S', st.ok, st.roots⟩, g, st.len, hl, t1, e2⟩

theorem make_kept {bs xs fs : List Int} {h : HpN} {kind mi : Int} {ys : List Int} {s1 : CN} (he : makeA bs xs fs h kind mi = some (ys, s1)) (hk15 : kind < 15) (hf : h.flips < 4000000000) (ht : h.touched ≤ 1000000000) :
    ∃ S, OkHeap bs S h ∧ xs.length ≤ 20 ∧ (∀ i, i < xs.length → wordOkZ S h (xs.getD i 0) = true) ∧ ∀ K, Ends bs xs K → KeptL bs xs s1.ws ys { s1.h with touched := touchZ s1 } K := by
  unfold makeA at he
  split at he
  · rename_i hc
    obtain ⟨S, ok, c1, c2, c3, c4, c5, c6, c7⟩ := hc
    obtain ⟨k1, k2, k3⟩ := kind_fields kind c1
    have hfl : fs.length = 2 ∨ fs.length = 5 := by omega
    have t := make_touch ok c6 c7 c5 (by omega) hf ht (m := mi.toNat) (by omega) he
    obtain ⟨S1, md⟩ := keep_make ok c6 c7 (by omega) hfl k2 hk15 hf he t.1
    exact ⟨S, ok, c5, c6, fun K hK => kept_of md.still c5 hK⟩
  · cases he

theorem flip_kept {bs xs : List Int} {h : HpN} {ys : List Int} {s1 : CN} (he : flipA bs xs h = some (ys, s1)) (hf : h.flips < 4000000000) (ht : h.touched ≤ 900000000) :
    ∃ S, OkHeap bs S h ∧ xs.length ≤ 20 ∧ (∀ i, i < xs.length → wordOkZ S h (xs.getD i 0) = true) ∧ ∃ s2, scanA s1.ws { s1.h with touched := touchZ s1 } 4000 = some s2 ∧ ∀ K, Ends bs xs K → KeptL bs xs s1.ws ys { s1.h with touched := touchZ s1 } K ∧ KeptL bs xs s2.ws ys { s2.h with touched := touchZ s2 } K := by
  obtain ⟨S, ok, hb, hn, hx⟩ := flipA_ok he
  obtain ⟨ys', s1', s2, S1, S2, fr, t1⟩ := freed ok hx hn hb hf ht
  have e := fr.flip
  rw [he] at e
  cases e
  have hm := he
  unfold flipA at hm
  rw [if_pos ⟨S, ok, hb, hn, hx⟩] at hm
  have tt := flip_touch ok hx hn hb hf (by omega) hm
  obtain ⟨S1', st1, -⟩ := keep_flip ok hx hb hf hm tt.1
  obtain ⟨S0, ok0, hs⟩ := scanA_some fr.scan
  have ts := scan_touch st1.ok (by dsimp only; omega) (by decide) hs
  obtain ⟨S2', st2⟩ := keep_scan st1.ok st1.roots hs ts.2.2.1
  refine ⟨S, ok, hn, hx, s2, fr.scan, fun K hK => ?_⟩
  have k1 := kept_of st1 hn hK
  refine ⟨k1, ?_⟩
  have k2 := kept_of st2 (by have := k1.ylen; omega) k1.g.ends
  exact ⟨k2.ok, k2.g, k2.len.trans k1.len, k2.ylen.trans k1.ylen, k2.sameY.trans k1.sameY, k2.sameO.trans k1.sameO⟩

end Go.Proofs.Ytebpgglegnljgaa

namespace Go.Proofs.Ytebpgglegnljgaa
open Go.RowKit

theorem graph_told (bs xs : List Int) (h : HpN) (hm : bs.length ≤ 1048576) (hx : xs.length ≤ 1048576) : ∃ os ys ok, os.length ≤ 8000 ∧ (∀ i, i < os.length → (fieldsOf os i).length ≤ 5) ∧ ys.length ≤ 20 ∧
    (∀ S, OkHeap bs S h → xs.length ≤ 20 → (∀ i, i < xs.length → wordOkZ S h (xs.getD i 0) = true) → ok = true ∧ ∃ K, Ends bs xs K ∧ os = (graphRun bs K (tellsRun bs xs xs.length []).1).2 ∧ ys = (tellsRun bs xs xs.length []).2) ∧
    (∀ B g cp B2 rg rc W, bs.length ≤ cp → SliceR 3 1 B W (.slice (some ⟨g, 0, none⟩) bs.length cp) bs.length (intCells bs) → SliceR 3 1 B2 W (.slice (some ⟨rg, 0, none⟩) xs.length rc) xs.length (intCells xs) → Calls Try.prog 9 #[heapV (.slice (some ⟨g, 0, none⟩) bs.length cp) h, .slice (some ⟨rg, 0, none⟩) xs.length rc] W (ToldG W os ys ok)) ∧
    (∀ B g cp B2 rg rc W, bs.length ≤ cp → SliceR 3 1 B W (.slice (some ⟨g, 0, none⟩) bs.length cp) bs.length (intCells bs) → SliceR 3 1 B2 W (.slice (some ⟨rg, 0, none⟩) xs.length rc) xs.length (intCells xs) → Calls Try.prog 8 #[heapV (.slice (some ⟨g, 0, none⟩) bs.length cp) h, .slice (some ⟨rg, 0, none⟩) xs.length rc] W (ToldGI W os ys ok)) := by
  by_cases ho : Ordered h bs.length
  case neg =>
    exact ⟨[], [], _, by simp, by simp, by simp, (fun S' ok' a2 a3 => by exfalso; first | exact ho ok'.ord | (rw [ok_spec ok'] at hk; cases hk; done) | exact hn a2 | (obtain rfl : S' = S := Option.some.inj (ok'.spec.symm.trans ok.spec); rw [roots_all a3] at hro; cases hro; done)), fun B g cp B2 rg rc W _ _ _ => (sGraph_notOk g 0 cp bs.length h rg xs.length rc W (fun X _ => specOk_bad _ _ _ h X hm ho)).mono (fun _ _ => toldG_none), fun B g cp B2 rg rc W _ _ _ => (iGraph_notOk g 0 cp bs.length h rg xs.length rc W (fun X _ => layOut_bad _ _ _ h X ho)).mono (fun _ _ => toldGI_none)⟩
  obtain ⟨o1, o2, o3, o4, o5, o6, o7, o8, o9, o10, o11, o12, o13⟩ := id ho
  have hN0 : bs.length ≠ 0 := by omega
  have hN8 : bs.length ≤ 8000 := by omega
  have SOk : ∀ B g cp W, bs.length ≤ cp → SliceR 3 1 B W (.slice (some ⟨g, 0, none⟩) bs.length cp) bs.length (intCells bs) → ∀ X, Below W.heap.size W X → Calls Try.prog 35 #[heapV (.slice (some ⟨g, 0, none⟩) bs.length cp) h] X fun e w' => e = .returned (.bool (specOk bs h)) ∧ Below X.heap.size X w' := fun B g cp W hcp hs X hX =>
    specOk_calls g 0 cp bs.length bs h X rfl ho (row_atC hN0 hs hX).1 (row_atC hN0 hs hX).2
  have ILy : ∀ B g cp W, bs.length ≤ cp → SliceR 3 1 B W (.slice (some ⟨g, 0, none⟩) bs.length cp) bs.length (intCells bs) → ∀ X, Below W.heap.size W X → Calls Try.prog 30 #[heapV (.slice (some ⟨g, 0, none⟩) bs.length cp) h] X (LayTold g 0 cp bs.length bs h X) := fun B g cp W hcp hs X hX =>
    layOut_calls g 0 cp bs.length bs h X rfl ho hcp (row_atC hN0 hs hX).1 (row_atC hN0 hs hX).2
  cases hk : specOk bs h with
  | false =>
    have hki : implOk bs h = false := by rw [← ok_same ho]; exact hk
    rw [hk] at SOk
    refine ⟨[], [], _, by simp, by simp, by simp, (fun S' ok' a2 a3 => by exfalso; first | exact ho ok'.ord | (rw [ok_spec ok'] at hk; cases hk; done) | exact hn a2 | (obtain rfl : S' = S := Option.some.inj (ok'.spec.symm.trans ok.spec); rw [roots_all a3] at hro; cases hro; done)), fun B g cp B2 rg rc W hcp hs _ => (sGraph_notOk g 0 cp bs.length h rg xs.length rc W (SOk B g cp W hcp hs)).mono (fun _ _ => toldG_none), fun B g cp B2 rg rc W hcp hs _ => (iGraph_notOk g 0 cp bs.length h rg xs.length rc W (fun X hX => (ILy B g cp W hcp hs X hX).mono ?_)).mono (fun _ _ => toldGI_none)⟩
    rintro e w' ⟨hres, hb'⟩
    rcases hres with ⟨_, e1⟩ | ⟨S, gb, _, e2, _⟩
    · exact ⟨e1, hb'⟩
    · rw [hki] at e2
      cases e2
  | true =>
    have hki : implOk bs h = true := by rw [← ok_same ho]; exact hk
    rw [hk] at SOk
    obtain ⟨S, ok⟩ := ok_facts ho hk
    have ILg : ∀ B g cp W, bs.length ≤ cp → SliceR 3 1 B W (.slice (some ⟨g, 0, none⟩) bs.length cp) bs.length (intCells bs) → ∀ X, Below W.heap.size W X → Calls Try.prog 30 #[heapV (.slice (some ⟨g, 0, none⟩) bs.length cp) h] X fun e w' => ∃ gb, e = .returned (.tuple #[layV (.slice (some ⟨g, 0, none⟩) bs.length cp) h (.slice (some ⟨gb, 0, none⟩) bs.length bs.length), .bool true]) ∧ Hid (ISt g 0 gb bs.length bs S w') ∧ Below X.heap.size X w' := fun B g cp W hcp hs X hX => (ILy B g cp W hcp hs X hX).mono (by
      rintro e w' ⟨hres, hb'⟩
      rcases hres with ⟨e1, _⟩ | ⟨S', gb, e1, _, e2, _, e3⟩
      · rw [hki] at e1
        cases e1
      · rw [ok.impl] at e1
        cases e1
        exact ⟨gb, e2, e3, hb'⟩)
    have IRt : ∀ g cp B2 rg rc W, SliceR 3 1 B2 W (.slice (some ⟨rg, 0, none⟩) xs.length rc) xs.length (intCells xs) → ∀ (X : World) (gb : Nat), Below W.heap.size W X → ISt g 0 gb bs.length bs S X → Calls Try.prog 31 #[layV (.slice (some ⟨g, 0, none⟩) bs.length cp) h (.slice (some ⟨gb, 0, none⟩) bs.length bs.length), .slice (some ⟨rg, 0, none⟩) xs.length rc] X fun e w' => e = .returned (.bool (decide (xs.length ≤ 20) && implRoots S h xs)) ∧ Below X.heap.size X w' := fun g cp B2 rg rc W hr X gb hX hI => rootsOk_calls (some ⟨rg, 0, none⟩) rc g 0 cp gb bs.length bs S h xs X ho hI (hr.below hX).intSlice hx
    by_cases hn : xs.length ≤ 20
    case neg =>
      rw [decide_eq_false hn, Bool.false_and] at IRt
      exact ⟨[], [], _, by simp, by simp, by simp, (fun S' ok' a2 a3 => by exfalso; first | exact ho ok'.ord | (rw [ok_spec ok'] at hk; cases hk; done) | exact hn a2 | (obtain rfl : S' = S := Option.some.inj (ok'.spec.symm.trans ok.spec); rw [roots_all a3] at hro; cases hro; done)), fun B g cp B2 rg rc W hcp hs _ => (sGraph_many g 0 cp bs.length h rg xs.length rc W (by omega) (SOk B g cp W hcp hs)).mono (fun _ _ => toldG_none), fun B g cp B2 rg rc W hcp hs hr => (iGraph_noRoot g 0 cp bs.length h rg xs.length rc W bs S (ILg B g cp W hcp hs) (IRt g cp B2 rg rc W hr)).mono (fun _ _ => toldGI_none)⟩
    have hn2 : ¬ (20 : Int) < (xs.length : Int) := by omega
    rw [decide_eq_true hn, Bool.true_and] at IRt
    have SRt : ∀ B g cp B2 rg rc W, bs.length ≤ cp → SliceR 3 1 B W (.slice (some ⟨g, 0, none⟩) bs.length cp) bs.length (intCells bs) → SliceR 3 1 B2 W (.slice (some ⟨rg, 0, none⟩) xs.length rc) xs.length (intCells xs) → ∀ X, Below W.heap.size W X → Calls Try.prog 36 #[heapV (.slice (some ⟨g, 0, none⟩) bs.length cp) h, .slice (some ⟨rg, 0, none⟩) xs.length rc] X fun e w' => e = .returned (.bool (specRoots bs S h xs)) ∧ Below X.heap.size X w' := fun B g cp B2 rg rc W hcp hs hr X hX => specRoots_calls g 0 cp bs.length bs S h _ xs X rfl ho ok.spec (row_atC hN0 hs hX).1 (row_atC hN0 hs hX).2 (hr.below hX).intSlice hn
    have hsame : specRoots bs S h xs = implRoots S h xs := (roots_same ok xs).symm
    have hsame2 := hsame
    rw [hsame] at SRt
    cases hro : implRoots S h xs with
    | false =>
      rw [hro] at SRt IRt
      exact ⟨[], [], _, by simp, by simp, by simp, (fun S' ok' a2 a3 => by exfalso; first | exact ho ok'.ord | (rw [ok_spec ok'] at hk; cases hk; done) | exact hn a2 | (obtain rfl : S' = S := Option.some.inj (ok'.spec.symm.trans ok.spec); rw [roots_all a3] at hro; cases hro; done)), fun B g cp B2 rg rc W hcp hs hr => (sGraph_noRoot g 0 cp bs.length h rg xs.length rc W hn2 (SOk B g cp W hcp hs) (SRt B g cp B2 rg rc W hcp hs hr)).mono (fun _ _ => toldG_none), fun B g cp B2 rg rc W hcp hs hr => (iGraph_noRoot g 0 cp bs.length h rg xs.length rc W bs S (ILg B g cp W hcp hs) (IRt g cp B2 rg rc W hr)).mono (fun _ _ => toldGI_none)⟩
    | true =>
      rw [hro] at SRt IRt hsame2
      have hle : ∀ i, i < xs.length → Leads bs S (xs.getD i 0) := fun i hi => by
        unfold specRoots at hsame2
        rw [List.all_eq_true] at hsame2
        exact leads_of (hsame2 i (List.mem_range.2 hi))
      obtain ⟨K, hK⟩ := ends_some ok hle
      have ht := Met.tells ok (met := []) ⟨List.nodup_nil, fun a ha => by cases ha⟩ hle xs.length (Nat.le_refl _)
      have hyl := ht.2.2
      have hg := ht.1.graph ok K hK.1
      have hKN : (graphRun bs K (tellsRun bs xs xs.length []).1).2.length ≤ 8000 := by
        rw [hg.2.2]
        by_cases h0 : K = 0
        · omega
        · have h1 := hK.1 (K - 1) (by omega)
          have h2 := (ht.1.graph ok (K - 1) (fun j hj => hK.1 j (by omega))).1.short ok
          omega
      have HW : ∀ B g cp W, bs.length ≤ cp → SliceR 3 1 B W (.slice (some ⟨g, 0, none⟩) bs.length cp) bs.length (intCells bs) → Wds g 0 bs.length bs W := fun B g cp W hcp hs => ⟨rfl, (row_atC hN0 hs (Below.refl _ _)).1, (row_atC hN0 hs (Below.refl _ _)).2⟩
      have HLs : ∀ B2 rg rc W, SliceR 3 1 B2 W (.slice (some ⟨rg, 0, none⟩) xs.length rc) xs.length (intCells xs) → ListAt rg 0 xs W := fun B2 rg rc W hr => ⟨fun h0 => (row_atC (by omega) hr (Below.refl _ _)).1, fun k hk => (row_atC (by omega) hr (Below.refl _ _)).2 k hk⟩
      refine ⟨_, _, true, hKN, fun i hi => graph_small ok ht.1 K hK.1 i (by rw [hg.2.2] at hi; exact hi), by rw [hyl]; exact hn, fun _ _ _ _ => ⟨rfl, K, hK, rfl, rfl⟩, fun B g cp B2 rg rc W hcp hs hr => (sGraph_good g 0 cp bs.length h rg xs.length rc W bs S xs ok (HW B g cp W hcp hs) hN8 (HLs B2 rg rc W hr) rfl hn hle (SOk B g cp W hcp hs) (SRt B g cp B2 rg rc W hcp hs hr)).mono (fun _ _ => toldG_some hK hyl), fun B g cp B2 rg rc W hcp hs hr => (iGraph_good g 0 cp bs.length h rg xs.length rc W bs S xs ok (HW B g cp W hcp hs) hN8 hcp (HLs B2 rg rc W hr) rfl hn hle (ILg B g cp W hcp hs) (IRt g cp B2 rg rc W hr)).mono (fun _ _ => toldGI_some hK hyl)⟩
end Go.Proofs.Ytebpgglegnljgaa

namespace Go.Proofs.Ytebpgglegnljgaa
open Go.RowKit

def GrI (n ny : Nat) (ws xs : List Int) (h : HpN) (os : List (Int × List Int)) (ys : List Int) (ok : Bool) : Prop :=
  ∀ B g cp B2 rg rc W, n ≤ cp → SliceR 3 1 B W (.slice (some ⟨g, 0, none⟩) n cp) n (intCells ws) → SliceR 3 1 B2 W (.slice (some ⟨rg, 0, none⟩) ny rc) ny (intCells xs) → Calls Try.prog 8 #[heapV (.slice (some ⟨g, 0, none⟩) n cp) h, .slice (some ⟨rg, 0, none⟩) ny rc] W (ToldGI W os ys ok)

def GrS (n ny : Nat) (ws xs : List Int) (h : HpN) (os : List (Int × List Int)) (ys : List Int) (ok : Bool) : Prop :=
  ∀ B g cp B2 rg rc W, n ≤ cp → SliceR 3 1 B W (.slice (some ⟨g, 0, none⟩) n cp) n (intCells ws) → SliceR 3 1 B2 W (.slice (some ⟨rg, 0, none⟩) ny rc) ny (intCells xs) → Calls Try.prog 9 #[heapV (.slice (some ⟨g, 0, none⟩) n cp) h, .slice (some ⟨rg, 0, none⟩) ny rc] W (ToldG W os ys ok)

def OkI (n : Nat) (ws : List Int) (h : HpN) : Prop :=
  ∀ B g cp W, n ≤ cp → SliceR 3 1 B W (.slice (some ⟨g, 0, none⟩) n cp) n (intCells ws) → Calls Try.prog 15 #[heapV (.slice (some ⟨g, 0, none⟩) n cp) h] W fun e w' => e = .returned (.bool true) ∧ Below W.heap.size W w'

structure HalfA (n nf : Nat) (ws rs fs : List Int) (h : HpN) (kind mi : Int) (os : List (Int × List Int)) (ys : List Int) (ok : Bool) (A : List Int) (H : HpN) (Y : List Int) (D : Int) (md : Bool) : Prop where
  ol : os.length ≤ 8000
  fl : ∀ i, i < os.length → (fieldsOf os i).length ≤ 5
  yl : ys.length ≤ 20
  al : A.length ≤ 8000
  Yl : Y.length ≤ 20
  gi : GrI n 4 ws rs h os ys ok
  gs : GrS n 4 ws rs h os ys ok
  ms : ∀ B g cp B2 rg rc B3 fg fc W, n ≤ cp → SliceR 3 1 B W (.slice (some ⟨g, 0, none⟩) n cp) n (intCells ws) → SliceR 3 1 B2 W (.slice (some ⟨rg, 0, none⟩) 4 rc) 4 (intCells rs) → SliceR 3 1 B3 W (.slice (some ⟨fg, 0, none⟩) nf fc) nf (intCells fs) → Calls Try.prog 13 #[heapV (.slice (some ⟨g, 0, none⟩) n cp) h, .slice (some ⟨rg, 0, none⟩) 4 rc, .int .i64 kind, .slice (some ⟨fg, 0, none⟩) nf fc, .int .i64 mi] W (ToldM W A H Y D md)
  mi : ∀ B g cp B2 rg rc B3 fg fc W, n ≤ cp → SliceR 3 1 B W (.slice (some ⟨g, 0, none⟩) n cp) n (intCells ws) → SliceR 3 1 B2 W (.slice (some ⟨rg, 0, none⟩) 4 rc) 4 (intCells rs) → SliceR 3 1 B3 W (.slice (some ⟨fg, 0, none⟩) nf fc) nf (intCells fs) → Calls Try.prog 12 #[heapV (.slice (some ⟨g, 0, none⟩) n cp) h, .slice (some ⟨rg, 0, none⟩) 4 rc, .int .i64 kind, .slice (some ⟨fg, 0, none⟩) nf fc, .int .i64 mi] W (ToldMC W A H Y D md)
  made : md = true → A.length ≠ 0 ∧ Y.length ≠ 0 ∧ GrI A.length Y.length A Y H os ys true ∧ OkI A.length A H

theorem half_a (ws rs fs : List Int) (h : HpN) (kind mi : Int) (n nf : Nat) (hn : ws.length = n) (hnf : fs.length = nf) (l8 : ws.length ≤ 8000) (l0 : 0 < ws.length) (rl : rs.length = 4) (hf : h.flips ≤ 100) (ht : h.touched ≤ 200000000) :
    ∃ os ys ok A H Y D md, HalfA n nf ws rs fs h kind mi os ys ok A H Y D md := by
  subst hn
  subst hnf
  obtain ⟨os, ys, ok, h1, h2, h3, hk, gs, gi⟩ := graph_told ws rs h (by omega) (by omega)
  obtain ⟨ms, mI⟩ := make_told ws rs fs h kind mi (by omega) (by omega) (by omega)
  rw [rl] at gs gi ms mI
  cases ho : makeA ws rs fs h kind mi with
  | none =>
    rw [ho] at ms mI
    exact ⟨os, ys, ok, _, _, _, _, _, h1, h2, h3, by simp [mW], by simp [mY], gi, gs, ms, mI, fun k => by cases k⟩
  | some p =>
    obtain ⟨Y, s1⟩ := p
    rw [ho] at ms mI
    have hk15 : kind < 15 := by
      have he := ho
      unfold makeA at he
      split at he
      · rename_i hc
        obtain ⟨S, -, c1, -⟩ := hc
        unfold fieldsZ at c1
        split at c1
        · omega
        · split at c1
          · omega
          · exact absurd rfl c1
      · cases he
    obtain ⟨S, okh, hx20, hx, kept⟩ := make_kept ho hk15 (by omega) (by omega)
    obtain ⟨e1, K, hK, e2, e3⟩ := hk S okh hx20 hx
    have kl := kept K hK
    have g1 := kl.g.calls
    obtain ⟨S1, ok1, -⟩ := kl.ok
    rw [kl.sameO, kl.sameY, ← e2, ← e3] at g1
    have a1 := kl.len
    have a2 := kl.ylen
    refine ⟨os, ys, ok, _, _, _, _, _, h1, h2, h3, ?_, ?_, gi, gs, ms, mI, fun _ => ⟨?_, ?_, g1, fun B g cp W hcp hs => ok_good ok1 B g cp W hcp hs⟩⟩ <;> (try unfold mW mY) <;> (try unfold mW) <;> (try unfold mY) <;> dsimp only <;> omega

structure HalfB (n : Nat) (ws rs : List Int) (h : HpN) (os : List (Int × List Int)) (ys : List Int) (ok : Bool) (A : List Int) (H : HpN) (Y : List Int) (md : Bool) (A2 : List Int) (H2 : HpN) : Prop where
  ol : os.length ≤ 8000
  fl : ∀ i, i < os.length → (fieldsOf os i).length ≤ 5
  yl : ys.length ≤ 20
  al : A.length ≤ 8000
  Yl : Y.length ≤ 20
  gi : GrI n 4 ws rs h os ys ok
  fs : ∀ B g cp B2 rg rc W, n ≤ cp → SliceR 3 1 B W (.slice (some ⟨g, 0, none⟩) n cp) n (intCells ws) → SliceR 3 1 B2 W (.slice (some ⟨rg, 0, none⟩) 4 rc) 4 (intCells rs) → Calls Try.prog 18 #[heapV (.slice (some ⟨g, 0, none⟩) n cp) h, .slice (some ⟨rg, 0, none⟩) 4 rc] W (ToldF W A H Y md)
  fi : ∀ B g cp B2 rg rc W, n ≤ cp → SliceR 3 1 B W (.slice (some ⟨g, 0, none⟩) n cp) n (intCells ws) → SliceR 3 1 B2 W (.slice (some ⟨rg, 0, none⟩) 4 rc) 4 (intCells rs) → Calls Try.prog 17 #[heapV (.slice (some ⟨g, 0, none⟩) n cp) h, .slice (some ⟨rg, 0, none⟩) 4 rc] W (ToldFC W A H Y md)
  none : md = false → A.length = 0
  made : md = true → ok = true ∧ A.length ≠ 0 ∧ Y.length ≠ 0 ∧ GrI A.length Y.length A Y H os ys true ∧ OkI A.length A H ∧ A2.length ≠ 0 ∧ A2.length ≤ 8000 ∧ GrI A2.length Y.length A2 Y H2 os ys true ∧ ∀ B g cp W, A.length ≤ cp → SliceR 3 1 B W (.slice (some ⟨g, 0, Option.none⟩) A.length cp) A.length (intCells A) → Calls Try.prog 19 #[heapV (.slice (some ⟨g, 0, Option.none⟩) A.length cp) H, .int .i64 4000] W (Told2C W A2 H2 true)

theorem half_b (ws rs : List Int) (h : HpN) (n : Nat) (hn : ws.length = n) (l8 : ws.length ≤ 8000) (l0 : 0 < ws.length) (rl : rs.length = 4) (hf : h.flips ≤ 100) (ht : h.touched ≤ 200000000) :
    ∃ os ys ok A H Y md A2 H2, HalfB n ws rs h os ys ok A H Y md A2 H2 := by
  subst hn
  obtain ⟨os, ys, ok, h1, h2, h3, hk, gs, gi⟩ := graph_told ws rs h (by omega) (by omega)
  obtain ⟨fS, fI⟩ := flip_told ws rs h (by omega) (by omega) (by omega)
  rw [rl] at gi fS fI
  cases ho : flipA ws rs h with
  | none =>
    rw [ho] at fS fI
    exact ⟨os, ys, ok, _, _, _, _, [], h, h1, h2, h3, by simp [mW], by simp [mY], gi, fS, fI, fun _ => rfl, fun k => by cases k⟩
  | some p =>
    obtain ⟨Y, s1⟩ := p
    rw [ho] at fS fI
    obtain ⟨S0, ok0, hb0, hn0, hx0⟩ := flipA_ok ho
    obtain ⟨ys0, s10, s20, S10, S20, fr, tt⟩ := freed ok0 hx0 hn0 hb0 (by omega) (by omega)
    have e0 := fr.flip
    rw [ho] at e0
    cases e0
    obtain ⟨S, okh, hx20, hx, s2, hsc, kept⟩ := flip_kept ho (by omega) (by omega)
    obtain ⟨e1, K, hK, e2, e3⟩ := hk S okh hx20 hx
    obtain ⟨k1, k2⟩ := kept K hK
    have g1 := k1.g.calls
    have g2 := k2.g.calls
    obtain ⟨S1, ok1, -⟩ := k1.ok
    rw [k1.sameO, k1.sameY, ← e2, ← e3] at g1
    rw [k2.sameO, k2.sameY, ← e2, ← e3] at g2
    have a1 := k1.len
    have a2 := k1.ylen
    have b1 := k2.len
    have hst := (scan_toldC s1.ws { s1.h with touched := touchZ s1 } (by dsimp only; omega) (by omega) 4000).2
    rw [hsc] at hst
    refine ⟨os, ys, ok, _, _, _, _, s2.ws, { s2.h with touched := touchZ s2 }, h1, h2, h3, ?_, ?_, gi, fS, fI, (fun k => by cases k), fun _ => ⟨e1, ?_, ?_, g1, fun B g cp W hcp hs => ok_good ok1 B g cp W hcp hs, ?_, ?_, g2, hst⟩⟩ <;> (try unfold mW) <;> (try unfold mY) <;> (try dsimp only) <;> omega

end Go.Proofs.Ytebpgglegnljgaa

namespace Go.Proofs.Ytebpgglegnljgaa
open Go.RowKit

set_option maxRecDepth 100000 in
theorem hrInts_none (ad ad' : Option Addr) (cap cap' : Nat) (w : World) :
    Calls Try.prog 11 #[.slice ad 0 cap, .slice ad' 0 cap'] w fun e w' => e = .returned (.bool true) ∧ Below w.heap.size w w' := by
  go_enter Try.func11, Try.ntmps11
  go_wp2
  refine wp_loop_rounds 1 ?_
  rw [rounds_succ]
  go_wp2
  go_ret
  exact ⟨rfl, Below.refl _ _⟩

set_option maxHeartbeats 1000000 in
set_option maxRecDepth 100000 in
theorem hrInts_rows (b off b' off' len cap cap' : Nat) (bs : List Int) (w : World) (hn : ∀ k, k < len → w.cell? ⟨b, off + k, none⟩ = some (.int .i64 (bs.getD k 0))) (hn' : ∀ k, k < len → w.cell? ⟨b', off' + k, none⟩ = some (.int .i64 (bs.getD k 0))) (hm : len ≤ 1048576) :
    Calls Try.prog 11 #[.slice (some ⟨b, off, none⟩) len cap, .slice (some ⟨b', off', none⟩) len cap'] w fun e w' => e = .returned (.bool true) ∧ Below w.heap.size w w' := by
  have HM : Hid (len ≤ 1048576) := hm
  have HN : Hid ((∀ k, k < len → w.cell? ⟨b, off + k, none⟩ = some (.int .i64 (bs.getD k 0))) ∧ ∀ k, k < len → w.cell? ⟨b', off' + k, none⟩ = some (.int .i64 (bs.getD k 0))) := ⟨hn, hn'⟩
  clear hm hn hn'
  go_enter Try.func11, Try.ntmps11
  go_wp2_with fail
  go_loopw [5] (fun i wr => ∃ k : Nat, k ≤ len ∧ i = .int .i64 k ∧ Below w.heap.size w wr ∧ ∀ a, wr.cell? a = w.cell? a) (fun i _ => len - (intOf i).toNat)
  case atStart => exact ⟨0, Nat.zero_le _, rfl, Below.refl _ _, fun _ => rfl⟩
  case round =>
    obtain ⟨k, hk, rfl, hnx, hce⟩ := hrel
    by_cases hkl : (k : Int) < (len : Int)
    · have c0 := (hce _).trans (HN.out.1 k (by omega))
      have d0 := (hce _).trans (HN.out.2 k (by omega))
      generalize bs.getD k 0 = n at c0 d0
      have hi0 : (0 : Int) ≤ (k : Int) := by omega
      have Hce : Hid (∀ a, wr.cell? a = w.cell? a) := hce
      clear hce
      go_wp2_with fail
      go_region
      all_goals
        go_wp2_with fail
        have hs : len - (intOf (.int .i64 ((k + 1 : Nat) : Int))).toNat < len - (intOf (.int .i64 (k : Int))).toNat := by simp only [intOf, Int.toNat_natCast]; omega
        try rw [wrap_inc (n := len) (by omega) HM.out]
        exact ⟨⟨k + 1, by omega, rfl, hnx.drew, Hce.out⟩, hs⟩
    · go_wp2_with fail
      go_ret
      exact ⟨rfl, hnx⟩

theorem hrInts_any {v v' : Value} {bs : List Int} (w : World) (hm : bs.length ≤ 1048576) (h : IntSlice w v bs) (h' : IntSlice w v' bs) :
    Calls Try.prog 11 #[v, v'] w fun e w' => e = .returned (.bool true) ∧ Below w.heap.size w w' := by
  obtain ⟨ad, cap, rfl, h⟩ := h
  obtain ⟨ad', cap', rfl, h'⟩ := h'
  by_cases h0 : bs = []
  · subst h0
    exact hrInts_none ad ad' cap cap' w
  · obtain ⟨g, o, rfl, -, hr⟩ := h.resolve_left h0
    obtain ⟨g', o', rfl, -, hr'⟩ := h'.resolve_left h0
    exact hrInts_rows g o g' o' _ cap cap' bs w hr hr' hm
end Go.Proofs.Ytebpgglegnljgaa

namespace Go.Proofs.Ytebpgglegnljgaa
open Go.RowKit

set_option maxHeartbeats 4000000 in
set_option maxRecDepth 100000 in
theorem hrHeap_any {v v' : Value} {bs : List Int} {h : HpN} (w : World) (hm : bs.length ≤ 1048576) (h1 : IntSlice w v bs) (h2 : IntSlice w v' bs) :
    Calls Try.prog 14 #[heapV v h, heapV v' h] w fun e w' => e = .returned (.bool true) ∧ Below w.heap.size w w' := by
  have HI : Hid (∀ X, Below w.heap.size w X → Calls Try.prog 11 #[v, v'] X fun e w' => e = .returned (.bool true) ∧ Below X.heap.size X w') := fun X hX => hrInts_any X hm (h1.below hX) (h2.below hX)
  obtain ⟨a, c, hv, -⟩ := h1
  obtain ⟨a', c', hv', -⟩ := h2
  obtain ⟨g1, g2, g3, g4, g5, g6, g7, g8, g9⟩ := h
  unfold heapV
  dsimp only
  clear hm
  subst hv hv'
  generalize bs.length = n at *
  go_enter Try.func14, Try.ntmps14
  go_wp2_with fail
  have hb := ((Below.refl w.heap.size w).alloc (Nat.le_refl _) (.cells #[.slice a n c, .int .i64 g1, .int .i64 g2, .int .i64 g3, .int .i64 g4, .int .i64 g5, .int .i64 g6, .int .i64 g7, .int .i64 g8, .int .i64 g9] 25)).alloc (by simp) (.cells #[.slice a' n c', .int .i64 g1, .int .i64 g2, .int .i64 g3, .int .i64 g4, .int .i64 g5, .int .i64 g6, .int .i64 g7, .int .i64 g8, .int .i64 g9] 25)
  obtain ⟨eA, eB, eS⟩ := heap_alloc2 w (.cells #[.slice a n c, .int .i64 g1, .int .i64 g2, .int .i64 g3, .int .i64 g4, .int .i64 g5, .int .i64 g6, .int .i64 g7, .int .i64 g8, .int .i64 g9] 25) (.cells #[.slice a' n c', .int .i64 g1, .int .i64 g2, .int .i64 g3, .int .i64 g4, .int .i64 g5, .int .i64 g6, .int .i64 g7, .int .i64 g8, .int .i64 g9] 25)
  refine (HI.out _ hb).mono ?_
  rintro e W1 ⟨rfl, hb1⟩
  have k1 : HeapBlk W1 w.heap.size (.slice a n c) ⟨g1, g2, g3, g4, g5, g6, g7, g8, g9⟩ := (hb1.block _ (by rw [eS]; omega)).trans eA
  have k2 : HeapBlk W1 (w.heap.size + 1) (.slice a' n c') ⟨g1, g2, g3, g4, g5, g6, g7, g8, g9⟩ := (hb1.block _ (by rw [eS]; omega)).trans eB
  obtain ⟨c0, c1, c2, c3, c4, c5, c6, c7, c8, c9⟩ := k1.cells
  obtain ⟨d0, d1, d2, d3, d4, d5, d6, d7, d8, d9⟩ := k2.cells
  have HB := hid (hb.trans (hb1.mono hb.size))
  clear hb hb1 eA eB eS k1 k2 HI
  dsimp only at c0 c1 c2 c3 c4 c5 c6 c7 c8 c9 d0 d1 d2 d3 d4 d5 d6 d7 d8 d9
  go_wp2_with fail
  go_ret
  exact ⟨rfl, HB.out⟩
end Go.Proofs.Ytebpgglegnljgaa

namespace Go.Proofs.Ytebpgglegnljgaa
open Go.RowKit

set_option maxRecDepth 100000 in
theorem hrObjs_none (ad ad' : Option Addr) (cap cap' : Nat) (w : World) :
    Calls Try.prog 10 #[.slice ad 0 cap, .slice ad' 0 cap'] w fun e w' => e = .returned (.bool true) ∧ Below w.heap.size w w' := by
  go_enter Try.func10, Try.ntmps10
  go_wp2
  refine wp_loop_rounds 1 ?_
  rw [rounds_succ]
  go_wp2
  go_ret
  exact ⟨rfl, Below.refl _ _⟩

set_option maxHeartbeats 1000000 in
set_option maxRecDepth 100000 in
theorem hrObjs_rows {B B' g g' n cap cap' : Nat} {ks : Nat → Int} {fv fv' : Nat → Value} (fs : Nat → List Int) (w : World) (hm : n ≤ 1048576) (hl : ∀ i, i < n → (fs i).length ≤ 1048576) (hn0 : n ≠ 0)
    (o : ObR B w (.slice (some ⟨g, 0, none⟩) n cap) n ks fv (fun i => (fs i).length) (fun i => intCells (fs i))) (o' : ObR B' w (.slice (some ⟨g', 0, none⟩) n cap') n ks fv' (fun i => (fs i).length) (fun i => intCells (fs i))) :
    Calls Try.prog 10 #[.slice (some ⟨g, 0, none⟩) n cap, .slice (some ⟨g', 0, none⟩) n cap'] w fun e w' => e = .returned (.bool true) ∧ Below w.heap.size w w' := by
  have HM := hid hm
  have HL := hid hl
  have HO := hid o
  have HO' := hid o'
  have hlt : g < w.heap.size := (o.lo (Or.inl ⟨hn0, rfl⟩)).2
  have hlt' : g' < w.heap.size := (o'.lo (Or.inl ⟨hn0, rfl⟩)).2
  have HC : Hid (∀ X, Below w.heap.size w X → ∀ k, k < n → X.cell? ⟨g, k * 2, none⟩ = some (.int .i64 (ks k)) ∧ X.cell? ⟨g, k * 2 + 1, none⟩ = some (fv k) ∧ X.cell? ⟨g', k * 2, none⟩ = some (.int .i64 (ks k)) ∧ X.cell? ⟨g', k * 2 + 1, none⟩ = some (fv' k)) := fun X hX k hk => by
    obtain ⟨ad, c, e, h⟩ := (o.below hX).row
    cases e
    obtain ⟨g1, e2, -, hr⟩ := h.resolve_left hn0
    cases e2
    obtain ⟨ad, c, e, h⟩ := (o'.below hX).row
    cases e
    obtain ⟨g1, e2, -, hr'⟩ := h.resolve_left hn0
    cases e2
    exact ⟨by rw [hr.cell (by omega), objF_kind], by rw [hr.cell (by omega), objF_fields], by rw [hr'.cell (by omega), objF_kind], by rw [hr'.cell (by omega), objF_fields]⟩
  clear hm hl o o'
  go_enter Try.func10, Try.ntmps10
  go_wp2_with fail
  go_loopw [5] (fun i wr => ∃ k : Nat, k ≤ n ∧ i = .int .i64 k ∧ Below w.heap.size w wr) (fun i _ => n - (intOf i).toNat)
  case atStart => exact ⟨0, Nat.zero_le _, rfl, Below.refl _ _⟩
  case round =>
    obtain ⟨k, hk, rfl, hnx⟩ := hrel
    by_cases hkl : (k : Int) < (n : Int)
    · have hkn : k < n := by omega
      have HE : Hid (∀ X, Below w.heap.size w X → Calls Try.prog 11 #[fv k, fv' k] X fun e w' => e = .returned (.bool true) ∧ Below X.heap.size X w') := fun X hX => hrInts_any X (HL.out k hkn) ((HO.out.below hX).fld k hkn).intSlice ((HO'.out.below hX).fld k hkn).intSlice
      obtain ⟨aa, ca, hva, -⟩ := id (HO.out.fld k hkn)
      obtain ⟨ab, cb, hvb, -⟩ := id (HO'.out.fld k hkn)
      have hc := fun (y : Later wr.heap.size wr) => HC.out y.w (hnx.trans (y.h.mono hnx.size)) k hkn
      generalize ks k = kk at *
      rw [hva, hvb] at HE
      simp only [hva, hvb] at hc
      clear hva hvb
      generalize (fs k).length = nk at *
      have c0 := fun y => (hc y).1
      have c1 := fun y => (hc y).2.1
      have d0 := fun y => (hc y).2.2.1
      have d1 := fun y => (hc y).2.2.2
      clear hc hkn HC
      have hi0 : (0 : Int) ≤ (k : Int) := by omega
      go_wp2_with fail
      refine wp_region_calm wr.heap.size (by kernel_rfl) (by kernel_rfl) ?_
      repeat (go_big_quiet_step (first | (rename_i y; go_at_call 11; refine (HE.out _ (hnx.trans (y.h.mono hnx.size))).mono ?_; rintro e w5 ⟨rfl, hb5⟩; exact ⟨rfl, ⟨w5, y.h.trans (hb5.mono y.h.size)⟩, rfl⟩)))
      refine wpQuiet_nil ?_
      rintro w6 ⟨y, rfl⟩
      have hb2 := hnx.trans (y.h.mono hnx.size)
      clear c0 c1 d0 d1 HE
      go_wp2_with fail
      have hs : n - (intOf (.int .i64 ((k + 1 : Nat) : Int))).toNat < n - (intOf (.int .i64 (k : Int))).toNat := by simp only [intOf, Int.toNat_natCast]; omega
      rw [wrap_inc (n := n) (by omega) HM.out]
      exact ⟨⟨k + 1, by omega, rfl, hb2⟩, hs⟩
    · go_wp2_with fail
      go_ret
      exact ⟨rfl, hnx⟩

theorem hrObjs_any {B B' n : Nat} {v v' : Value} {ks : Nat → Int} {fv fv' : Nat → Value} (fs : Nat → List Int) (w : World) (hm : n ≤ 1048576) (hl : ∀ i, i < n → (fs i).length ≤ 1048576)
    (o : ObR B w v n ks fv (fun i => (fs i).length) (fun i => intCells (fs i))) (o' : ObR B' w v' n ks fv' (fun i => (fs i).length) (fun i => intCells (fs i))) :
    Calls Try.prog 10 #[v, v'] w fun e w' => e = .returned (.bool true) ∧ Below w.heap.size w w' := by
  obtain ⟨ad, cap, rfl, h⟩ := id o.row
  obtain ⟨ad', cap', rfl, h'⟩ := id o'.row
  by_cases h0 : n = 0
  · subst h0
    exact hrObjs_none ad ad' cap cap' w
  · obtain ⟨g, rfl, -, -⟩ := h.resolve_left h0
    obtain ⟨g', rfl, -, -⟩ := h'.resolve_left h0
    exact hrObjs_rows fs w hm hl h0 o o'
end Go.Proofs.Ytebpgglegnljgaa
