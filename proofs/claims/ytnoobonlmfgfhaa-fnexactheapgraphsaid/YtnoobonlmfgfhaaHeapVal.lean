/- A heap as a value: its words in a slice, its numbers beside. -/
import Derived.Test.YtnoobonlmfgfhaaIntRows
namespace Go.Proofs.Ytnoobonlmfgfhaa
open Go.RowKit

theorem info_int : (Try.prog.info? 3).map (fun i => (i.zero, i.size, i.bytes)) = some (some (.int .i64 0), 1, 8) := by kernel_rfl

/-- The numbers of a heap, beside its words. -/
structure HpN where
  size : Int
  to : Int
  bottom : Int
  top : Int
  scan : Int
  fb : Int
  ft : Int
  flips : Int
  touched : Int

def heapV (v : Value) (h : HpN) : Value := .agg #[v, .int .i64 h.size, .int .i64 h.to, .int .i64 h.bottom, .int .i64 h.top, .int .i64 h.scan, .int .i64 h.fb, .int .i64 h.ft, .int .i64 h.flips, .int .i64 h.touched]

def noHeap : Value := heapV (.slice none 0 0) ⟨0, 0, 0, 0, 0, 0, 0, 0, 0⟩

/-- Block b holds a heap. -/
def HeapBlk (w : World) (b : Nat) (v : Value) (h : HpN) : Prop := w.heap[b]? = some (.cells #[v, .int .i64 h.size, .int .i64 h.to, .int .i64 h.bottom, .int .i64 h.top, .int .i64 h.scan, .int .i64 h.fb, .int .i64 h.ft, .int .i64 h.flips, .int .i64 h.touched] 27)

theorem HeapBlk.cells {w : World} {b : Nat} {v : Value} {h : HpN} (e : HeapBlk w b v h) :
    w.cell? ⟨b, 0, none⟩ = some v ∧ w.cell? ⟨b, 1, none⟩ = some (.int .i64 h.size) ∧ w.cell? ⟨b, 2, none⟩ = some (.int .i64 h.to) ∧ w.cell? ⟨b, 3, none⟩ = some (.int .i64 h.bottom) ∧ w.cell? ⟨b, 4, none⟩ = some (.int .i64 h.top) ∧ w.cell? ⟨b, 5, none⟩ = some (.int .i64 h.scan) ∧ w.cell? ⟨b, 6, none⟩ = some (.int .i64 h.fb) ∧ w.cell? ⟨b, 7, none⟩ = some (.int .i64 h.ft) ∧ w.cell? ⟨b, 8, none⟩ = some (.int .i64 h.flips) ∧ w.cell? ⟨b, 9, none⟩ = some (.int .i64 h.touched) := by
  refine ⟨?_, ?_, ?_, ?_, ?_, ?_, ?_, ?_, ?_, ?_⟩ <;> · rw [cell_of_heap e]; rfl

theorem HeapBlk.below {w w' : World} {b : Nat} {v : Value} {h : HpN} (e : HeapBlk w b v h) (hb : Below w.heap.size w w') : HeapBlk w' b v h := (hb.block b (heap_lt e)).trans e

theorem HeapBlk.new (w : World) (v : Value) (h : HpN) : HeapBlk (w.alloc (.cells #[v, .int .i64 h.size, .int .i64 h.to, .int .i64 h.bottom, .int .i64 h.top, .int .i64 h.scan, .int .i64 h.fb, .int .i64 h.ft, .int .i64 h.flips, .int .i64 h.touched] 27)) w.heap.size v h := (MapKept.heap_alloc w _).1

theorem HeapBlk.turned {w w' : World} {b : Nat} {v u : Value} {h : HpN} {n : Nat} (e : HeapBlk w b v h) (ht : Turned w w' u n) (hne : n ≠ 0 → u.ownBlock ≠ some b) : HeapBlk w' b v h := by
  obtain ⟨row, hg, hrow⟩ := ht
  refine (hg.block b (heap_lt e) (fun k => ?_)).trans e
  rcases hrow with rfl | ⟨hn, rfl⟩
  · cases k
  · exact hne hn k.symm

theorem two_kept {w w2 : World} {o o' : Obj} (h : Below ((w.alloc o).alloc o').heap.size ((w.alloc o).alloc o') w2) : w2.heap[w.heap.size]? = some o ∧ w2.heap[w.heap.size + 1]? = some o' ∧ Below w.heap.size w w2 := by
  have s1 : (w.alloc o).heap.size = w.heap.size + 1 := by simp
  obtain ⟨h1, h2⟩ := one_kept h
  obtain ⟨h3, h4⟩ := one_kept h2
  exact ⟨h3, by rw [← s1]; exact h1, h4⟩

set_option maxRecDepth 100000 in
set_option maxHeartbeats 1000000 in
theorem eqHeap_calls {v v' : Value} {bs : List Int} (h : HpN) (w : World) (hm : bs.length ≤ 1048576) (hv : IntSlice w v bs) (hv' : IntSlice w v' bs) :
    Calls Try.prog 13 #[heapV v h, heapV v' h] w fun e w' => e = .returned (.bool true) ∧ Below w.heap.size w w' := by
  have HM := hid hm
  have HV := hid hv
  have HV' := hid hv'
  clear hm hv hv'
  obtain ⟨h1, h2, h3, h4, h5, h6, h7, h8, h9⟩ := h
  unfold heapV
  dsimp only
  go_enter Try.func13, Try.ntmps13
  go_wp2_with fail
  refine (eqIntS_any _ HM.out (HV.out.below (((Below.refl _ _).alloc (Nat.le_refl _) _).alloc (by simp) _)) (HV'.out.below (((Below.refl _ _).alloc (Nat.le_refl _) _).alloc (by simp) _))).mono ?_
  rintro e w1 ⟨rfl, hb⟩
  obtain ⟨eA, eB, hb⟩ := two_kept hb
  obtain ⟨a0, a1, a2, a3, a4, a5, a6, a7, a8, a9⟩ := HeapBlk.cells (h := ⟨h1, h2, h3, h4, h5, h6, h7, h8, h9⟩) eA
  obtain ⟨b0, b1, b2, b3, b4, b5, b6, b7, b8, b9⟩ := HeapBlk.cells (h := ⟨h1, h2, h3, h4, h5, h6, h7, h8, h9⟩) eB
  dsimp only at a1 a2 a3 a4 a5 a6 a7 a8 a9 b1 b2 b3 b4 b5 b6 b7 b8 b9
  clear eA eB a0 b0 HM HV HV'
  go_wp2_with fail
  go_ret
  exact ⟨rfl, hb⟩

set_option maxRecDepth 100000 in
theorem markHeap_any (s : Int) (HS : Hid (0 ≤ s ∧ s ≤ 1000000000)) {B n : Nat} {v : Value} {F : Nat → Value} (h : HpN) (w : World) (hm : n ≤ 1048576) (hv : SliceR 3 1 B w v n F) :
    Calls Try.prog 18 #[heapV v h, .int .i64 s] w fun e w' => e = .returned (.int .i64 (s + (n : Int))) ∧ SliceR 3 1 B w' v n (intMarks s) ∧ ∃ w1, Below w.heap.size w w1 ∧ Turned w1 w' v n := by
  have HM := hid hm
  have HV := hid hv
  clear hm hv
  obtain ⟨h1, h2, h3, h4, h5, h6, h7, h8, h9⟩ := h
  unfold heapV
  dsimp only
  go_enter Try.func18, Try.ntmps18
  go_wp2_with fail
  refine (markIntS_any s HS _ HM.out (HV.out.below ((Below.refl _ _).alloc (Nat.le_refl _) _))).mono ?_
  rintro e w1 ⟨rfl, hsl, ht⟩
  clear HM HV
  have HT := hid ht
  have HL := hid hsl
  clear ht hsl
  go_wp2_with fail
  go_ret
  exact ⟨rfl, HL.out, _, (Below.refl _ _).alloc (Nat.le_refl _) _, HT.out⟩

set_option maxRecDepth 100000 in
theorem heldHeap_any (s : Int) (HS : Hid (0 ≤ s ∧ s ≤ 1000000000)) {B n : Nat} {v : Value} (h : HpN) (w : World) (hm : n ≤ 1048576) (hv : SliceR 3 1 B w v n (intMarks s)) :
    Calls Try.prog 20 #[heapV v h, .int .i64 s] w fun e w' => e = .returned (.int .i64 (s + (n : Int))) ∧ Below w.heap.size w w' := by
  have HH : Hid (∀ w, SliceR 3 1 B w v n (intMarks s) → Calls Try.prog 21 #[v, .int .i64 s] w fun e w' => e = .returned (.int .i64 (s + (n : Int))) ∧ w = w') := fun w h => heldIntS_any s HS w hm h
  have HV := hid hv
  have h0 : 0 ≤ s + (n : Int) := by have := HS.out.1; omega
  clear hm hv HS
  generalize s + (n : Int) = y at *
  obtain ⟨h1, h2, h3, h4, h5, h6, h7, h8, h9⟩ := h
  unfold heapV
  dsimp only
  go_enter Try.func20, Try.ntmps20
  go_wp2_with fail
  refine (HH.out _ (HV.out.below ((Below.refl _ _).alloc (Nat.le_refl _) _))).mono ?_
  rintro e w1 ⟨rfl, rfl⟩
  clear HH HV
  go_wp2_with fail
  go_ret
  exact ⟨rfl, (Below.refl _ _).alloc (Nat.le_refl _) _⟩
end Go.Proofs.Ytnoobonlmfgfhaa
