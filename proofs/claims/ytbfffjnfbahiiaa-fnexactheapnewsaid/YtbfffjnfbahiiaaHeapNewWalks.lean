/- A new heap: the specification and the program make the same, each in memory of its own. -/
import Derived.Test.YtbfffjnfbahiiaaHeapVal
namespace Go.Proofs.Ytbfffjnfbahiiaa
open Go.RowKit

def newHeap (s : Int) : HpN := ⟨s, 0, 0, s, 0, s, 2 * s, 0, 0⟩

set_option maxRecDepth 100000 in
theorem sizeOk_calls (s : Int) (w : World) :
    Calls Try.prog 26 #[.int .i64 s] w fun e w' => e = .returned (.bool (decide (20 ≤ s ∧ s ≤ 4000))) ∧ w = w' := by
  go_enter Try.func26, Try.ntmps26
  go_wp2
  all_goals
    go_ret
    refine ⟨?_, rfl⟩
    simp_all
    try omega

set_option maxRecDepth 100000 in
theorem implNew_bad (s : Int) (w : World) (h : ¬ (20 ≤ s ∧ s ≤ 4000)) :
    Calls Try.prog 20 #[.int .i64 s] w fun e w' => e = .returned (.tuple #[noHeap, .bool false]) ∧ Below w.heap.size w w' := by
  have h1 : decide (20 ≤ s ∧ s ≤ 4000) = false := by simpa using h
  go_enter Try.func20, Try.ntmps20
  go_wp2_with fail
  refine (sizeOk_calls _ _).mono ?_
  rw [h1]
  rintro e w1 ⟨rfl, rfl⟩
  go_wp2_with fail
  exact bodyPost_ret (v := .tuple #[noHeap, .bool false]) (by simp [results, Try.results20, go_sem, noHeap, heapV]) rfl ⟨rfl, (Below.refl _ _).alloc (Nat.le_refl _) _⟩

set_option maxRecDepth 100000 in
theorem specNew_bad (s : Int) (w : World) (h : ¬ (20 ≤ s ∧ s ≤ 4000)) :
    Calls Try.prog 19 #[.int .i64 s] w fun e w' => e = .returned (.tuple #[noHeap, .bool false]) ∧ Below w.heap.size w w' := by
  go_enter Try.func19, Try.ntmps19
  go_wp2_with fail
  all_goals
    exact bodyPost_ret (v := .tuple #[noHeap, .bool false]) (by simp [results, Try.results19, go_sem, noHeap, heapV]) rfl ⟨rfl, (Below.refl _ _).alloc (Nat.le_refl _) _⟩

/-- What a call leaves that makes a heap of s words a space. -/
def NewPost (s : Nat) (w : World) (e : Ending) (w' : World) : Prop :=
  (∃ v, e = .returned (.tuple #[heapV v (newHeap s), .bool true]) ∧ SliceR 3 1 w.heap.size w' v (List.replicate (2 * s) (0 : Int)).length (intCells (List.replicate (2 * s) 0))) ∧ Below w.heap.size w w'

theorem zeros_at (n i : Nat) (h : i < n) : (madeCells #[.int .i64 0] n)[i]? = some (intCells (List.replicate n 0) i) := by
  simp [madeCells, h, Nat.mod_one, intCells, List.getD]

theorem new_post (s : Nat) (w : World) (o : Obj) :
    NewPost s w (.returned (.tuple #[heapV (.slice (some ⟨w.heap.size + 1, 0, none⟩) (2 * s) (2 * s)) (newHeap s), .bool true])) ((w.alloc o).alloc (.cells (madeCells #[.int .i64 0] (2 * s)) 3)) := by
  have hrow := World.rowIs_alloc (w.alloc o) (madeCells #[.int .i64 0] (2 * s)) 3 (intCells (List.replicate (2 * s) 0)) (fun i hi => zeros_at _ _ (by simpa [size_madeCells] using hi))
  have hsz : (madeCells #[(.int .i64 0 : Value)] (2 * s)).size = 2 * s := by rw [size_madeCells]
  rw [hsz] at hrow
  have e1 : (w.alloc o).heap.size = w.heap.size + 1 := by simp
  rw [e1] at hrow
  refine ⟨⟨_, rfl, ?_⟩, ((Below.refl _ _).alloc (Nat.le_refl _) _).alloc (by simp) _⟩
  rw [List.length_replicate]
  exact ⟨_, _, rfl, Or.inr ⟨_, rfl, by omega, _, _, rw_of_row hrow _, by omega, fun i _ => rfl⟩⟩

set_option maxRecDepth 100000 in
theorem implNew_ok (s : Nat) (w : World) (h0 : 20 ≤ s) (h1 : s ≤ 4000) :
    Calls Try.prog 20 #[.int .i64 s] w (NewPost s w) := by
  have h2 : decide (20 ≤ (s : Int) ∧ (s : Int) ≤ 4000) = true := by simp; omega
  have hmk := run_make_row' (P := Try.prog) 31 3 (.int .i64 0) 8 Try.underlying31 info_int rfl .i64 .i64 (2 * s) (by omega) (by omega)
  rw [show ((2 * s : Nat) : Int) = 2 * (s : Int) by omega] at hmk
  go_enter Try.func20, Try.ntmps20
  go_wp2_with fail
  refine (sizeOk_calls _ _).mono ?_
  rw [h2]
  rintro e w1 ⟨rfl, rfl⟩
  go_wp2_with fail
  exact bodyPost_ret (v := .tuple #[heapV (.slice (some ⟨w.heap.size + 1, 0, none⟩) (2 * s) (2 * s)) (newHeap s), .bool true]) (by simp [results, Try.results20, go_sem, newHeap, heapV]) rfl (new_post s w _)

set_option maxRecDepth 100000 in
theorem specNew_ok (s : Nat) (w : World) (h0 : 20 ≤ s) (h1 : s ≤ 4000) :
    Calls Try.prog 19 #[.int .i64 s] w (NewPost s w) := by
  have hmk := run_make_row' (P := Try.prog) 31 3 (.int .i64 0) 8 Try.underlying31 info_int rfl .i64 .i64 (2 * s) (by omega) (by omega)
  rw [show ((2 * s : Nat) : Int) = 2 * (s : Int) by omega] at hmk
  go_enter Try.func19, Try.ntmps19
  go_wp2_with fail
  exact bodyPost_ret (v := .tuple #[heapV (.slice (some ⟨w.heap.size + 1, 0, none⟩) (2 * s) (2 * s)) (newHeap s), .bool true]) (by simp [results, Try.results19, go_sem, newHeap, heapV]) rfl (new_post s w _)
end Go.Proofs.Ytbfffjnfbahiiaa
