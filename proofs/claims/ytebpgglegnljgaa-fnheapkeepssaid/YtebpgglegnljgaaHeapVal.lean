/- A heap as a value: its words in a slice, its numbers beside. -/
import Derived.Test.YtebpgglegnljgaaIntRows
namespace Go.Proofs.Ytebpgglegnljgaa
open Go.RowKit

theorem info_int : (Try.prog.info? 3).map (fun i => (i.zero, i.size, i.bytes)) = some (some (.int .i64 0), 1, 8) := by kernel_rfl

/-- The numbers of a heap, beside its words. -/
structure HpN where
  size : Int
  to : Int
  bottom : Int
  top : Int
  scan : Int
  fb : Int
  ft : Int
  flips : Int
  touched : Int

def heapV (v : Value) (h : HpN) : Value := .agg #[v, .int .i64 h.size, .int .i64 h.to, .int .i64 h.bottom, .int .i64 h.top, .int .i64 h.scan, .int .i64 h.fb, .int .i64 h.ft, .int .i64 h.flips, .int .i64 h.touched]

def noHeap : Value := heapV (.slice none 0 0) ⟨0, 0, 0, 0, 0, 0, 0, 0, 0⟩

/-- Block b holds a heap. -/
def HeapBlk (w : World) (b : Nat) (v : Value) (h : HpN) : Prop := w.heap[b]? = some (.cells #[v, .int .i64 h.size, .int .i64 h.to, .int .i64 h.bottom, .int .i64 h.top, .int .i64 h.scan, .int .i64 h.fb, .int .i64 h.ft, .int .i64 h.flips, .int .i64 h.touched] 25)

theorem HeapBlk.cells {w : World} {b : Nat} {v : Value} {h : HpN} (e : HeapBlk w b v h) :
    w.cell? ⟨b, 0, none⟩ = some v ∧ w.cell? ⟨b, 1, none⟩ = some (.int .i64 h.size) ∧ w.cell? ⟨b, 2, none⟩ = some (.int .i64 h.to) ∧ w.cell? ⟨b, 3, none⟩ = some (.int .i64 h.bottom) ∧ w.cell? ⟨b, 4, none⟩ = some (.int .i64 h.top) ∧ w.cell? ⟨b, 5, none⟩ = some (.int .i64 h.scan) ∧ w.cell? ⟨b, 6, none⟩ = some (.int .i64 h.fb) ∧ w.cell? ⟨b, 7, none⟩ = some (.int .i64 h.ft) ∧ w.cell? ⟨b, 8, none⟩ = some (.int .i64 h.flips) ∧ w.cell? ⟨b, 9, none⟩ = some (.int .i64 h.touched) := by
  refine ⟨?_, ?_, ?_, ?_, ?_, ?_, ?_, ?_, ?_, ?_⟩ <;> · rw [cell_of_heap e]; rfl

theorem HeapBlk.below {w w' : World} {b : Nat} {v : Value} {h : HpN} (e : HeapBlk w b v h) (hb : Below w.heap.size w w') : HeapBlk w' b v h := (hb.block b (heap_lt e)).trans e

theorem HeapBlk.new (w : World) (v : Value) (h : HpN) : HeapBlk (w.alloc (.cells #[v, .int .i64 h.size, .int .i64 h.to, .int .i64 h.bottom, .int .i64 h.top, .int .i64 h.scan, .int .i64 h.fb, .int .i64 h.ft, .int .i64 h.flips, .int .i64 h.touched] 25)) w.heap.size v h := (MapKept.heap_alloc w _).1

theorem HeapBlk.turned {w w' : World} {b : Nat} {v u : Value} {h : HpN} {n : Nat} (e : HeapBlk w b v h) (ht : Turned w w' u n) (hne : n ≠ 0 → u.ownBlock ≠ some b) : HeapBlk w' b v h := by
  obtain ⟨row, hg, hrow⟩ := ht
  refine (hg.block b (heap_lt e) (fun k => ?_)).trans e
  rcases hrow with rfl | ⟨hn, rfl⟩
  · cases k
  · exact hne hn k.symm

theorem two_kept {w w2 : World} {o o' : Obj} (h : Below ((w.alloc o).alloc o').heap.size ((w.alloc o).alloc o') w2) : w2.heap[w.heap.size]? = some o ∧ w2.heap[w.heap.size + 1]? = some o' ∧ Below w.heap.size w w2 := by
  have s1 : (w.alloc o).heap.size = w.heap.size + 1 := by simp
  obtain ⟨h1, h2⟩ := one_kept h
  obtain ⟨h3, h4⟩ := one_kept h2
  exact ⟨h3, by rw [← s1]; exact h1, h4⟩

end Go.Proofs.Ytebpgglegnljgaa