/- The specification's worker: a heap of its own in one block, its words in another; reads, writes, whether a word leads nowhere old. -/
import Derived.Test.YtebpgglegnljgaaImplHeapUW
namespace Go.Proofs.Ytebpgglegnljgaa
open Go.RowKit

/-- Block b holds a worker: a heap, and whether there was no room. -/
def WkBlk (w : World) (b : Nat) (v : Value) (h : HpN) (tau : Int) (full : Bool) : Prop := w.heap[b]? = some (.cells #[v, .int .i64 h.size, .int .i64 h.to, .int .i64 h.bottom, .int .i64 h.top, .int .i64 h.scan, .int .i64 h.fb, .int .i64 h.ft, .int .i64 h.flips, .int .i64 tau, .bool full] 82)

theorem WkBlk.cells {w : World} {b : Nat} {v : Value} {h : HpN} {tau : Int} {full : Bool} (e : WkBlk w b v h tau full) :
    w.cell? ⟨b, 0, none⟩ = some v ∧ w.cell? ⟨b, 1, none⟩ = some (.int .i64 h.size) ∧ w.cell? ⟨b, 2, none⟩ = some (.int .i64 h.to) ∧ w.cell? ⟨b, 3, none⟩ = some (.int .i64 h.bottom) ∧ w.cell? ⟨b, 4, none⟩ = some (.int .i64 h.top) ∧ w.cell? ⟨b, 5, none⟩ = some (.int .i64 h.scan) ∧ w.cell? ⟨b, 6, none⟩ = some (.int .i64 h.fb) ∧ w.cell? ⟨b, 7, none⟩ = some (.int .i64 h.ft) ∧ w.cell? ⟨b, 8, none⟩ = some (.int .i64 h.flips) ∧ w.cell? ⟨b, 9, none⟩ = some (.int .i64 tau) ∧ w.cell? ⟨b, 10, none⟩ = some (.bool full) := by
  refine ⟨?_, ?_, ?_, ?_, ?_, ?_, ?_, ?_, ?_, ?_, ?_⟩ <;> · rw [cell_of_heap e]; rfl

/-- What the worker counts: the heap's own number and all that was read and written. -/
def touchZ (s : CN) : Int := wrap64 (s.h.touched + (s.r + s.t))

/-- A worker at work: its block, its words, nothing that was there is changed. -/
structure Wk (w0 : World) (bm bw N cap : Nat) (s : CN) (full : Bool) (W : World) : Prop where
  blk : WkBlk W bm (.slice (some ⟨bw, 0, none⟩) N cap) s.h (touchZ s) full
  row : CellRow 3 W bw N (intCells s.ws)
  len : s.ws.length = N
  ne : bm ≠ bw
  frame : Frm w0 bm bw W

theorem Wk.keep {w0 W W' : World} {bm bw N cap : Nat} {s : CN} {full : Bool} (c : Wk w0 bm bw N cap s full W) (hb : Below W.heap.size W W') : Wk w0 bm bw N cap s full W' :=
  ⟨(hb.block bm (heap_lt c.blk)).trans c.blk, c.row.of_block (hb.block bw c.row.lt), c.len, c.ne, c.frame.keep hb⟩

theorem Wk.rebase {w0 W : World} {bm bw N cap : Nat} {s : CN} {full : Bool} (c : Wk w0 bm bw N cap s full W) (w1 : World) (f : Frm w1 bm bw W) : Wk w1 bm bw N cap s full W := ⟨c.blk, c.row, c.len, c.ne, f⟩

theorem touch_more (s : CN) (r' t' : Int) (h : r' + t' = s.r + s.t + 1) : wrap64 (touchZ s + 1) = touchZ ⟨s.ws, s.h, r', t'⟩ := by
  unfold touchZ
  dsimp only
  rw [h]
  unfold wrap64
  omega

theorem Wk.touched {w0 W : World} {bm bw N cap : Nat} {s : CN} {full : Bool} (c : Wk w0 bm bw N cap s full W) (r' t' : Int) (h : r' + t' = s.r + s.t + 1) : Wk w0 bm bw N cap ⟨s.ws, s.h, r', t'⟩ full (W.setCell ⟨bm, 9, none⟩ (.int .i64 (wrap64 (touchZ s + 1)))) := by
  refine ⟨?_, c.row.of_block (Below.heap_setCell _ _ _ _ (fun e => c.ne e.symm)), c.len, c.ne, c.frame.set (Or.inl rfl) _⟩
  rw [touch_more s r' t' h]
  simpa [WkBlk] using set_block c.blk 9 (.int .i64 (touchZ ⟨s.ws, s.h, r', t'⟩))

theorem Wk.word {w0 W : World} {bm bw N cap : Nat} {s : CN} {full : Bool} (c : Wk w0 bm bw N cap s full W) {i : Nat} (hi : i < N) (x : Int) : Wk w0 bm bw N cap { s with ws := s.ws.set i x } full (W.setCell ⟨bw, i, none⟩ (.int .i64 x)) := by
  obtain ⟨N', f, hrow, hN', hf⟩ := c.row
  refine ⟨(Below.heap_setCell _ _ _ _ c.ne).trans c.blk, ⟨N', _, hrow.set i _, hN', int_set s.ws i (by rw [c.len]; exact hi) x hf⟩, by dsimp only; rw [List.length_set]; exact c.len, c.ne, c.frame.set (Or.inr rfl) _⟩

theorem Wk.bottom {w0 W : World} {bm bw N cap : Nat} {s : CN} {full : Bool} (c : Wk w0 bm bw N cap s full W) (x : Int) : Wk w0 bm bw N cap { s with h := { s.h with bottom := x } } full (W.setCell ⟨bm, 3, none⟩ (.int .i64 x)) :=
  ⟨by simpa [WkBlk, touchZ] using set_block c.blk 3 (.int .i64 x), c.row.of_block (Below.heap_setCell _ _ _ _ (fun e => c.ne e.symm)), c.len, c.ne, c.frame.set (Or.inl rfl) _⟩

theorem Wk.filled {w0 W : World} {bm bw N cap : Nat} {s : CN} {full : Bool} (c : Wk w0 bm bw N cap s full W) (b : Bool) : Wk w0 bm bw N cap s b (W.setCell ⟨bm, 10, none⟩ (.bool b)) :=
  ⟨by simpa [WkBlk, touchZ] using set_block c.blk 10 (.bool b), c.row.of_block (Below.heap_setCell _ _ _ _ (fun e => c.ne e.symm)), c.len, c.ne, c.frame.set (Or.inl rfl) _⟩

theorem Wk.scanned {w0 W : World} {bm bw N cap : Nat} {s : CN} {full : Bool} (c : Wk w0 bm bw N cap s full W) (x : Int) : Wk w0 bm bw N cap { s with h := { s.h with scan := x } } full (W.setCell ⟨bm, 5, none⟩ (.int .i64 x)) :=
  ⟨by simpa [WkBlk, touchZ] using set_block c.blk 5 (.int .i64 x), c.row.of_block (Below.heap_setCell _ _ _ _ (fun e => c.ne e.symm)), c.len, c.ne, c.frame.set (Or.inl rfl) _⟩

set_option maxRecDepth 100000 in
theorem sread_calls {w0 W : World} {bm bw N cap : Nat} {s : CN} (c : Wk w0 bm bw N cap s false W) {i : Nat} (hi : i < N) :
    Calls Try.prog 81 #[.pointer (some ⟨bm, 0, none⟩), .int .i64 (i : Int)] W fun e w' => e = .returned (.int .i64 (s.ws.getD i 0)) ∧ Wk w0 bm bw N cap ⟨s.ws, s.h, s.r + 1, s.t⟩ false w' := by
  have HC := hid (c.touched (s.r + 1) s.t (by omega))
  have HK := hid c
  obtain ⟨c0, -, -, -, -, -, -, -, -, c9, c10⟩ := c.blk.cells
  have f9 := frozen_of_heap c.blk 9
  have q0 := c.row.cell (i := i) hi
  unfold intCells at q0
  have hne := c.ne
  clear c
  generalize touchZ s = tau at *
  go_enter Try.func81, Try.ntmps81
  go_wp2_with fail
  go_ret
  exact ⟨rfl, HC.out⟩

set_option maxRecDepth 100000 in
theorem swrite_calls {w0 W : World} {bm bw N cap : Nat} {s : CN} (c : Wk w0 bm bw N cap s false W) {i : Nat} (hi : i < N) (x : Int) :
    Calls Try.prog 76 #[.pointer (some ⟨bm, 0, none⟩), .int .i64 (i : Int), .int .i64 x] W fun e w' => e = .returned (.tuple #[]) ∧ Wk w0 bm bw N cap ⟨s.ws.set i x, s.h, s.r, s.t + 1⟩ false w' := by
  have HC := hid ((c.touched s.r (s.t + 1) (by omega)).word hi x)
  obtain ⟨c0, -, -, -, -, -, -, -, -, c9, c10⟩ := c.blk.cells
  have f9 := frozen_of_heap c.blk 9
  have q0 := c.row.cell (i := i) hi
  obtain ⟨_, _, hrow, _, _⟩ := c.row
  have q1 := hrow.frozen i hi
  clear hrow
  unfold intCells at q0
  have hne := c.ne
  clear c
  generalize touchZ s = tau at *
  go_enter Try.func76, Try.ntmps76
  go_wp2_with fail
  go_end0
  exact ⟨rfl, HC.out⟩

set_option maxRecDepth 100000 in
theorem swrite_full {w0 W : World} {bm bw N cap : Nat} {s : CN} (c : Wk w0 bm bw N cap s true W) (i x : Int) :
    Calls Try.prog 76 #[.pointer (some ⟨bm, 0, none⟩), .int .i64 i, .int .i64 x] W fun e w' => e = .returned (.tuple #[]) ∧ W = w' := by
  obtain ⟨-, -, -, -, -, -, -, -, -, -, c10⟩ := c.blk.cells
  clear c
  go_enter Try.func76, Try.ntmps76
  go_wp2_with fail
  exact bodyPost_ret (v := .tuple #[]) (by simp [results, Try.results76, go_sem]) rfl ⟨rfl, rfl⟩

/-- A word leads nowhere, or into the space in use. -/
def hereZ (h : HpN) (x : Int) : Bool := if x % 8 = 0 then inZ h (x / 8) else true

set_option maxRecDepth 100000 in
theorem here_calls {w0 W : World} {bm bw N cap : Nat} {s : CN} {full : Bool} (c : Wk w0 bm bw N cap s full W) (x : Int) (h0 : 0 ≤ s.h.to) (h1 : s.h.to ≤ 4000) (h2 : 0 ≤ s.h.size) (h3 : s.h.size ≤ 4000) :
    Calls Try.prog 82 #[.pointer (some ⟨bm, 0, none⟩), .int .i64 x] W fun e w' => e = .returned (.bool (hereZ s.h x)) ∧ Below W.heap.size W w' := by
  have HT := hid (fun w => specTag_calls x w)
  have HNum := hid (fun w => specNum_calls x w)
  unfold tagZ at HT
  unfold numZ at HNum
  obtain ⟨-, c1, c2, -, -, -, -, -, -, -, -⟩ := c.blk.cells
  clear c
  by_cases ht : x % 8 = 0
  · rw [ht] at HT
    have hA : hereZ s.h x = decide (s.h.to ≤ x / 8 ∧ x / 8 < s.h.to + s.h.size) := by unfold hereZ inZ; rw [if_pos ht]
    rw [hA]
    clear hA ht
    generalize x / 8 = k at *
    generalize s.h.to = g2 at *
    generalize s.h.size = g1 at *
    by_cases hc1 : g2 ≤ k
    · by_cases hc2 : k < g2 + g1
      all_goals
        go_enter Try.func82, Try.ntmps82
        go_wp2_with fail
        refine (HT.out _).mono ?_
        rintro e w1 ⟨rfl, rfl⟩
        go_wp2_with fail
        refine (HNum.out _).mono ?_
        rintro e w1 ⟨rfl, rfl⟩
        go_wp2_with fail
        go_quiet (fail)
        go_wp2_with fail
        go_ret
        exact ⟨by simp [hc1, hc2], below_drewN (Below.refl _ _) _⟩
    · have e1 : decide (g2 ≤ k) = false := decide_eq_false hc1
      go_enter Try.func82, Try.ntmps82
      go_wp2_with fail
      refine (HT.out _).mono ?_
      rintro e w1 ⟨rfl, rfl⟩
      go_wp2_with fail
      refine (HNum.out _).mono ?_
      rintro e w1 ⟨rfl, rfl⟩
      go_wp2_with fail
      go_quiet (fail)
      go_wp2_with fail
      go_ret
      exact ⟨by rw [decide_eq_false (show ¬ (g2 ≤ k ∧ k < g2 + g1) by omega)]; rfl, below_drewN (Below.refl _ _) _⟩
  · have hA : hereZ s.h x = true := by unfold hereZ; rw [if_neg ht]
    rw [hA]
    clear hA
    generalize x % 8 = t at *
    go_enter Try.func82, Try.ntmps82
    go_wp2_with fail
    refine (HT.out _).mono ?_
    rintro e w1 ⟨rfl, rfl⟩
    go_wp2_with fail
    go_ret
    exact ⟨rfl, Below.refl _ _⟩
end Go.Proofs.Ytebpgglegnljgaa
