/- The program's collector: a heap of its own in one block, its words in another. -/
import Derived.Test.YtebpgglegnljgaaImplHeapS
namespace Go.Proofs.Ytebpgglegnljgaa
open Go.RowKit

/-- Block b holds a collector: a heap, and how many words were read and written. -/
def ColBlk (w : World) (b : Nat) (v : Value) (h : HpN) (r t : Int) : Prop := w.heap[b]? = some (.cells #[v, .int .i64 h.size, .int .i64 h.to, .int .i64 h.bottom, .int .i64 h.top, .int .i64 h.scan, .int .i64 h.fb, .int .i64 h.ft, .int .i64 h.flips, .int .i64 h.touched, .int .i64 r, .int .i64 t] 102)

theorem ColBlk.cells {w : World} {b : Nat} {v : Value} {h : HpN} {r t : Int} (e : ColBlk w b v h r t) :
    w.cell? ⟨b, 0, none⟩ = some v ∧ w.cell? ⟨b, 1, none⟩ = some (.int .i64 h.size) ∧ w.cell? ⟨b, 2, none⟩ = some (.int .i64 h.to) ∧ w.cell? ⟨b, 3, none⟩ = some (.int .i64 h.bottom) ∧ w.cell? ⟨b, 4, none⟩ = some (.int .i64 h.top) ∧ w.cell? ⟨b, 5, none⟩ = some (.int .i64 h.scan) ∧ w.cell? ⟨b, 6, none⟩ = some (.int .i64 h.fb) ∧ w.cell? ⟨b, 7, none⟩ = some (.int .i64 h.ft) ∧ w.cell? ⟨b, 8, none⟩ = some (.int .i64 h.flips) ∧ w.cell? ⟨b, 9, none⟩ = some (.int .i64 h.touched) ∧ w.cell? ⟨b, 10, none⟩ = some (.int .i64 r) ∧ w.cell? ⟨b, 11, none⟩ = some (.int .i64 t) := by
  refine ⟨?_, ?_, ?_, ?_, ?_, ?_, ?_, ?_, ?_, ?_, ?_, ?_⟩ <;> · rw [cell_of_heap e]; rfl

/-- All that was there is as it was, but for two blocks. -/
structure Frm (w0 : World) (b1 b2 : Nat) (W : World) : Prop where
  os : W.os = w0.os
  tape : W.tape = w0.tape
  output : W.output = w0.output
  size : w0.heap.size ≤ W.heap.size
  block : ∀ g, g < w0.heap.size → g ≠ b1 → g ≠ b2 → W.heap[g]? = w0.heap[g]?

theorem Frm.refl (w : World) (b1 b2 : Nat) : Frm w b1 b2 w := ⟨rfl, rfl, rfl, Nat.le_refl _, fun _ _ _ _ => rfl⟩

theorem Frm.keep {w0 W W' : World} {b1 b2 : Nat} (f : Frm w0 b1 b2 W) (hb : Below W.heap.size W W') : Frm w0 b1 b2 W' :=
  ⟨hb.os.trans f.os, hb.tape.trans f.tape, hb.output.trans f.output, Nat.le_trans f.size hb.size, fun g hg h1 h2 => (hb.block g (Nat.lt_of_lt_of_le hg f.size)).trans (f.block g hg h1 h2)⟩

theorem Frm.set {w0 W : World} {b1 b2 : Nat} (f : Frm w0 b1 b2 W) {p : Addr} (hp : p.block = b1 ∨ p.block = b2) (v : Value) : Frm w0 b1 b2 (W.setCell p v) :=
  ⟨f.os, f.tape, f.output, by simpa [World.setCell] using f.size, fun g hg h1 h2 => (Below.heap_setCell _ _ _ _ (by rcases hp with h | h <;> rw [h] <;> assumption)).trans (f.block g hg h1 h2)⟩

theorem Frm.of_below {w0 W : World} {b1 b2 : Nat} (h : Below w0.heap.size w0 W) : Frm w0 b1 b2 W := ⟨h.os, h.tape, h.output, h.size, fun g hg _ _ => h.block g hg⟩

theorem Frm.below {w0 W : World} {b1 b2 : Nat} (f : Frm w0 b1 b2 W) (h1 : w0.heap.size ≤ b1) (h2 : w0.heap.size ≤ b2) : Below w0.heap.size w0 W :=
  ⟨f.os, f.tape, f.output, f.size, fun g hg => f.block g hg (by omega) (by omega)⟩

/-- A collector at work: its block, its words, nothing that was there is changed. -/
structure Col (w0 : World) (bc bw N cap : Nat) (ws : List Int) (h : HpN) (r t : Int) (W : World) : Prop where
  blk : ColBlk W bc (.slice (some ⟨bw, 0, none⟩) N cap) h r t
  row : CellRow 3 W bw N (intCells ws)
  len : ws.length = N
  ne : bc ≠ bw
  frame : Frm w0 bc bw W

theorem Col.keep {w0 W W' : World} {bc bw N cap : Nat} {ws : List Int} {h : HpN} {r t : Int} (c : Col w0 bc bw N cap ws h r t W) (hb : Below W.heap.size W W') : Col w0 bc bw N cap ws h r t W' :=
  ⟨(hb.block bc (heap_lt c.blk)).trans c.blk, c.row.of_block (hb.block bw c.row.lt), c.len, c.ne, c.frame.keep hb⟩

theorem Col.rebase {w0 W : World} {bc bw N cap : Nat} {ws : List Int} {h : HpN} {r t : Int} (c : Col w0 bc bw N cap ws h r t W) (w1 : World) (f : Frm w1 bc bw W) : Col w1 bc bw N cap ws h r t W := ⟨c.blk, c.row, c.len, c.ne, f⟩

theorem Col.reads {w0 W : World} {bc bw N cap : Nat} {ws : List Int} {h : HpN} {r t : Int} (c : Col w0 bc bw N cap ws h r t W) (r' : Int) : Col w0 bc bw N cap ws h r' t (W.setCell ⟨bc, 10, none⟩ (.int .i64 r')) :=
  ⟨by simpa [ColBlk] using set_block c.blk 10 (.int .i64 r'), c.row.of_block (Below.heap_setCell _ _ _ _ (fun e => c.ne e.symm)), c.len, c.ne, c.frame.set (Or.inl rfl) _⟩

theorem Col.wrote {w0 W : World} {bc bw N cap : Nat} {ws : List Int} {h : HpN} {r t : Int} (c : Col w0 bc bw N cap ws h r t W) (t' : Int) : Col w0 bc bw N cap ws h r t' (W.setCell ⟨bc, 11, none⟩ (.int .i64 t')) :=
  ⟨by simpa [ColBlk] using set_block c.blk 11 (.int .i64 t'), c.row.of_block (Below.heap_setCell _ _ _ _ (fun e => c.ne e.symm)), c.len, c.ne, c.frame.set (Or.inl rfl) _⟩

theorem Col.bottom {w0 W : World} {bc bw N cap : Nat} {ws : List Int} {h : HpN} {r t : Int} (c : Col w0 bc bw N cap ws h r t W) (x : Int) : Col w0 bc bw N cap ws { h with bottom := x } r t (W.setCell ⟨bc, 3, none⟩ (.int .i64 x)) :=
  ⟨by simpa [ColBlk] using set_block c.blk 3 (.int .i64 x), c.row.of_block (Below.heap_setCell _ _ _ _ (fun e => c.ne e.symm)), c.len, c.ne, c.frame.set (Or.inl rfl) _⟩

theorem Col.word {w0 W : World} {bc bw N cap : Nat} {ws : List Int} {h : HpN} {r t : Int} (c : Col w0 bc bw N cap ws h r t W) {i : Nat} (hi : i < N) (x : Int) : Col w0 bc bw N cap (ws.set i x) h r t (W.setCell ⟨bw, i, none⟩ (.int .i64 x)) := by
  obtain ⟨N', f, hrow, hN', hf⟩ := c.row
  refine ⟨(Below.heap_setCell _ _ _ _ c.ne).trans c.blk, ⟨N', _, hrow.set i _, hN', int_set ws i (by rw [c.len]; exact hi) x hf⟩, by rw [List.length_set]; exact c.len, c.ne, c.frame.set (Or.inr rfl) _⟩

set_option maxRecDepth 100000 in
theorem read_calls {w0 W : World} {bc bw N cap : Nat} {ws : List Int} {h : HpN} {r t : Int} (c : Col w0 bc bw N cap ws h r t W) {i : Nat} (hi : i < N) (h0 : 0 ≤ r) (h1 : r ≤ 80000) :
    Calls Try.prog 77 #[.pointer (some ⟨bc, 0, none⟩), .int .i64 (i : Int)] W fun e w' => e = .returned (.int .i64 (ws.getD i 0)) ∧ Col w0 bc bw N cap ws h (r + 1) t w' := by
  have HC := hid c
  have c10 := c.blk.cells.2.2.2.2.2.2.2.2.2.2.1
  have c0 := c.blk.cells.1
  have f10 := frozen_of_heap c.blk 10
  have q0 := c.row.cell (i := i) hi
  unfold intCells at q0
  have hne := c.ne
  clear c
  go_enter Try.func77, Try.ntmps77
  go_wp2_with fail
  go_region
  all_goals go_wp2_with fail
  all_goals go_ret
  all_goals exact ⟨rfl, (HC.out.reads _).keep (Below.refl _ _).drew⟩

set_option maxRecDepth 100000 in
theorem write_calls {w0 W : World} {bc bw N cap : Nat} {ws : List Int} {h : HpN} {r t : Int} (c : Col w0 bc bw N cap ws h r t W) {i : Nat} (hi : i < N) (x : Int) (h0 : 0 ≤ t) (h1 : t ≤ 80000) :
    Calls Try.prog 72 #[.pointer (some ⟨bc, 0, none⟩), .int .i64 (i : Int), .int .i64 x] W fun e w' => e = .returned (.tuple #[]) ∧ Col w0 bc bw N cap (ws.set i x) h r (t + 1) w' := by
  have HC := hid c
  have c11 := c.blk.cells.2.2.2.2.2.2.2.2.2.2.2
  have c0 := c.blk.cells.1
  have f11 := frozen_of_heap c.blk 11
  have q0 := c.row.cell (i := i) hi
  obtain ⟨_, _, hrow, _, _⟩ := c.row
  have q1 := hrow.frozen i hi
  clear hrow
  unfold intCells at q0
  have hne := c.ne
  clear c
  go_enter Try.func72, Try.ntmps72
  go_wp2_with fail
  go_region
  all_goals go_wp2_with fail
  all_goals go_end0
  all_goals exact ⟨rfl, ((HC.out.wrote _).word hi x).keep (Below.refl _ _).drew⟩

set_option maxRecDepth 100000 in
theorem hasRoom_calls {w0 W : World} {bc bw N cap : Nat} {ws : List Int} {h : HpN} {r t : Int} (c : Col w0 bc bw N cap ws h r t W) (n : Int) (h0 : 0 ≤ h.bottom) (h1 : h.bottom ≤ 8000) (h2 : 0 ≤ h.top) (h3 : h.top ≤ 8000) :
    Calls Try.prog 70 #[.pointer (some ⟨bc, 0, none⟩), .int .i64 n] W fun e w' => e = .returned (.bool (decide (n ≤ h.top - h.bottom))) ∧ Below W.heap.size W w' := by
  have c3 := c.blk.cells.2.2.2.1
  have c4 := c.blk.cells.2.2.2.2.1
  clear c
  go_enter Try.func70, Try.ntmps70
  go_wp2_with fail
  go_region
  all_goals go_wp2_with fail
  all_goals go_ret
  all_goals exact ⟨rfl, (Below.refl _ _).drew⟩
end Go.Proofs.Ytebpgglegnljgaa
