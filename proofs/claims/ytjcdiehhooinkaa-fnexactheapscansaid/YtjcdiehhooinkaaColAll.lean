/- The program's collector: a heap of its own in one block, its words in another. -/
import Derived.Test.YtjcdiehhooinkaaImplHeapS
namespace Go.Proofs.Ytjcdiehhooinkaa
open Go.RowKit

/-- Block b holds a collector: a heap, and how many words were read and written. -/
def ColBlk (w : World) (b : Nat) (v : Value) (h : HpN) (r t : Int) : Prop := w.heap[b]? = some (.cells #[v, .int .i64 h.size, .int .i64 h.to, .int .i64 h.bottom, .int .i64 h.top, .int .i64 h.scan, .int .i64 h.fb, .int .i64 h.ft, .int .i64 h.flips, .int .i64 h.touched, .int .i64 r, .int .i64 t] 96)

theorem ColBlk.cells {w : World} {b : Nat} {v : Value} {h : HpN} {r t : Int} (e : ColBlk w b v h r t) :
    w.cell? ⟨b, 0, none⟩ = some v ∧ w.cell? ⟨b, 1, none⟩ = some (.int .i64 h.size) ∧ w.cell? ⟨b, 2, none⟩ = some (.int .i64 h.to) ∧ w.cell? ⟨b, 3, none⟩ = some (.int .i64 h.bottom) ∧ w.cell? ⟨b, 4, none⟩ = some (.int .i64 h.top) ∧ w.cell? ⟨b, 5, none⟩ = some (.int .i64 h.scan) ∧ w.cell? ⟨b, 6, none⟩ = some (.int .i64 h.fb) ∧ w.cell? ⟨b, 7, none⟩ = some (.int .i64 h.ft) ∧ w.cell? ⟨b, 8, none⟩ = some (.int .i64 h.flips) ∧ w.cell? ⟨b, 9, none⟩ = some (.int .i64 h.touched) ∧ w.cell? ⟨b, 10, none⟩ = some (.int .i64 r) ∧ w.cell? ⟨b, 11, none⟩ = some (.int .i64 t) := by
  refine ⟨?_, ?_, ?_, ?_, ?_, ?_, ?_, ?_, ?_, ?_, ?_, ?_⟩ <;> · rw [cell_of_heap e]; rfl

/-- A collector at work: its block, its words, nothing that was there is changed. -/
structure Col (w0 : World) (bc bw N cap : Nat) (ws : List Int) (h : HpN) (r t : Int) (W : World) : Prop where
  blk : ColBlk W bc (.slice (some ⟨bw, 0, none⟩) N cap) h r t
  row : CellRow 3 W bw N (intCells ws)
  len : ws.length = N
  ne : bc ≠ bw
  lowC : w0.heap.size ≤ bc
  lowW : w0.heap.size ≤ bw
  below : Below w0.heap.size w0 W

theorem Col.keep {w0 W W' : World} {bc bw N cap : Nat} {ws : List Int} {h : HpN} {r t : Int} (c : Col w0 bc bw N cap ws h r t W) (hb : Below W.heap.size W W') : Col w0 bc bw N cap ws h r t W' :=
  ⟨(hb.block bc (heap_lt c.blk)).trans c.blk, c.row.of_block (hb.block bw c.row.lt), c.len, c.ne, c.lowC, c.lowW, c.below.trans (hb.mono c.below.size)⟩

theorem Col.reads {w0 W : World} {bc bw N cap : Nat} {ws : List Int} {h : HpN} {r t : Int} (c : Col w0 bc bw N cap ws h r t W) (r' : Int) : Col w0 bc bw N cap ws h r' t (W.setCell ⟨bc, 10, none⟩ (.int .i64 r')) :=
  ⟨by simpa [ColBlk] using set_block c.blk 10 (.int .i64 r'), c.row.of_block (Below.heap_setCell _ _ _ _ (fun e => c.ne e.symm)), c.len, c.ne, c.lowC, c.lowW, c.below.setCell c.lowC _⟩

theorem Col.wrote {w0 W : World} {bc bw N cap : Nat} {ws : List Int} {h : HpN} {r t : Int} (c : Col w0 bc bw N cap ws h r t W) (t' : Int) : Col w0 bc bw N cap ws h r t' (W.setCell ⟨bc, 11, none⟩ (.int .i64 t')) :=
  ⟨by simpa [ColBlk] using set_block c.blk 11 (.int .i64 t'), c.row.of_block (Below.heap_setCell _ _ _ _ (fun e => c.ne e.symm)), c.len, c.ne, c.lowC, c.lowW, c.below.setCell c.lowC _⟩

theorem Col.bottom {w0 W : World} {bc bw N cap : Nat} {ws : List Int} {h : HpN} {r t : Int} (c : Col w0 bc bw N cap ws h r t W) (x : Int) : Col w0 bc bw N cap ws { h with bottom := x } r t (W.setCell ⟨bc, 3, none⟩ (.int .i64 x)) :=
  ⟨by simpa [ColBlk] using set_block c.blk 3 (.int .i64 x), c.row.of_block (Below.heap_setCell _ _ _ _ (fun e => c.ne e.symm)), c.len, c.ne, c.lowC, c.lowW, c.below.setCell c.lowC _⟩

theorem Col.word {w0 W : World} {bc bw N cap : Nat} {ws : List Int} {h : HpN} {r t : Int} (c : Col w0 bc bw N cap ws h r t W) {i : Nat} (hi : i < N) (x : Int) : Col w0 bc bw N cap (ws.set i x) h r t (W.setCell ⟨bw, i, none⟩ (.int .i64 x)) := by
  obtain ⟨N', f, hrow, hN', hf⟩ := c.row
  refine ⟨(Below.heap_setCell _ _ _ _ c.ne).trans c.blk, ⟨N', _, hrow.set i _, hN', int_set ws i (by rw [c.len]; exact hi) x hf⟩, by rw [List.length_set]; exact c.len, c.ne, c.lowC, c.lowW, c.below.setCell c.lowW _⟩

set_option maxRecDepth 100000 in
theorem read_calls {w0 W : World} {bc bw N cap : Nat} {ws : List Int} {h : HpN} {r t : Int} (c : Col w0 bc bw N cap ws h r t W) {i : Nat} (hi : i < N) (h0 : 0 ≤ r) (h1 : r ≤ 80000) :
    Calls Try.prog 85 #[.pointer (some ⟨bc, 0, none⟩), .int .i64 (i : Int)] W fun e w' => e = .returned (.int .i64 (ws.getD i 0)) ∧ Col w0 bc bw N cap ws h (r + 1) t w' := by
  have HC := hid c
  have c10 := c.blk.cells.2.2.2.2.2.2.2.2.2.2.1
  have c0 := c.blk.cells.1
  have f10 := frozen_of_heap c.blk 10
  have q0 := c.row.cell (i := i) hi
  unfold intCells at q0
  have hne := c.ne
  clear c
  go_enter Try.func85, Try.ntmps85
  go_wp2_with fail
  go_region
  all_goals go_wp2_with fail
  all_goals go_ret
  all_goals exact ⟨rfl, (HC.out.reads _).keep (Below.refl _ _).drew⟩

set_option maxRecDepth 100000 in
theorem write_calls {w0 W : World} {bc bw N cap : Nat} {ws : List Int} {h : HpN} {r t : Int} (c : Col w0 bc bw N cap ws h r t W) {i : Nat} (hi : i < N) (x : Int) (h0 : 0 ≤ t) (h1 : t ≤ 80000) :
    Calls Try.prog 78 #[.pointer (some ⟨bc, 0, none⟩), .int .i64 (i : Int), .int .i64 x] W fun e w' => e = .returned (.tuple #[]) ∧ Col w0 bc bw N cap (ws.set i x) h r (t + 1) w' := by
  have HC := hid c
  have c11 := c.blk.cells.2.2.2.2.2.2.2.2.2.2.2
  have c0 := c.blk.cells.1
  have f11 := frozen_of_heap c.blk 11
  have q0 := c.row.cell (i := i) hi
  obtain ⟨_, _, hrow, _, _⟩ := c.row
  have q1 := hrow.frozen i hi
  clear hrow
  unfold intCells at q0
  have hne := c.ne
  clear c
  go_enter Try.func78, Try.ntmps78
  go_wp2_with fail
  go_region
  all_goals go_wp2_with fail
  all_goals go_end0
  all_goals exact ⟨rfl, ((HC.out.wrote _).word hi x).keep (Below.refl _ _).drew⟩

set_option maxRecDepth 100000 in
theorem hasRoom_calls {w0 W : World} {bc bw N cap : Nat} {ws : List Int} {h : HpN} {r t : Int} (c : Col w0 bc bw N cap ws h r t W) (n : Int) (h0 : 0 ≤ h.bottom) (h1 : h.bottom ≤ 8000) (h2 : 0 ≤ h.top) (h3 : h.top ≤ 8000) :
    Calls Try.prog 76 #[.pointer (some ⟨bc, 0, none⟩), .int .i64 n] W fun e w' => e = .returned (.bool (decide (n ≤ h.top - h.bottom))) ∧ Below W.heap.size W w' := by
  have c3 := c.blk.cells.2.2.2.1
  have c4 := c.blk.cells.2.2.2.2.1
  clear c
  go_enter Try.func76, Try.ntmps76
  go_wp2_with fail
  go_region
  all_goals go_wp2_with fail
  all_goals go_ret
  all_goals exact ⟨rfl, (Below.refl _ _).drew⟩
end Go.Proofs.Ytjcdiehhooinkaa

/- Does a word lead into the other space? -/
namespace Go.Proofs.Ytjcdiehhooinkaa
open Go.RowKit

def lateZ (h : HpN) (x : Int) : Bool := decide (x % 8 = 0) && decide (h.size - h.to ≤ x / 8 ∧ x / 8 < h.size - h.to + h.size)

theorem ColBlk.later {B : Nat} {w : World} {b : Nat} {v : Value} {h : HpN} {r t : Int} (e : ColBlk w b v h r t) (hb : b < B) :
    (∀ x : Later B w, x.w.cell? ⟨b, 0, none⟩ = some v) ∧ (∀ x : Later B w, x.w.cell? ⟨b, 1, none⟩ = some (.int .i64 h.size)) ∧ (∀ x : Later B w, x.w.cell? ⟨b, 2, none⟩ = some (.int .i64 h.to)) ∧ (∀ x : Later B w, x.w.cell? ⟨b, 3, none⟩ = some (.int .i64 h.bottom)) ∧ (∀ x : Later B w, x.w.cell? ⟨b, 4, none⟩ = some (.int .i64 h.top)) ∧ (∀ x : Later B w, x.w.cell? ⟨b, 5, none⟩ = some (.int .i64 h.scan)) ∧ (∀ x : Later B w, x.w.cell? ⟨b, 6, none⟩ = some (.int .i64 h.fb)) ∧ (∀ x : Later B w, x.w.cell? ⟨b, 7, none⟩ = some (.int .i64 h.ft)) ∧ (∀ x : Later B w, x.w.cell? ⟨b, 8, none⟩ = some (.int .i64 h.flips)) ∧ ∀ x : Later B w, x.w.cell? ⟨b, 9, none⟩ = some (.int .i64 h.touched) := by
  obtain ⟨c0, c1, c2, c3, c4, c5, c6, c7, c8, c9, -, -⟩ := e.cells
  exact ⟨fun x => x.cell hb c0, fun x => x.cell hb c1, fun x => x.cell hb c2, fun x => x.cell hb c3, fun x => x.cell hb c4, fun x => x.cell hb c5, fun x => x.cell hb c6, fun x => x.cell hb c7, fun x => x.cell hb c8, fun x => x.cell hb c9⟩

set_option maxHeartbeats 1000000 in
set_option maxRecDepth 100000 in
theorem isOld_calls {w0 W : World} {bc bw N cap : Nat} {ws : List Int} {h : HpN} {r t : Int} (c : Col w0 bc bw N cap ws h r t W) (x : Int) (h0 : 0 ≤ h.to) (h1 : h.to ≤ h.size) (h3 : h.size ≤ 4000) :
    Calls Try.prog 86 #[.pointer (some ⟨bc, 0, none⟩), .int .i64 x] W fun e w' => e = .returned (.bool (lateZ h x)) ∧ Below W.heap.size W w' := by
  have HWi := hid (fun w => within_calls (.slice (some ⟨bw, 0, none⟩) N cap) h (x / 8) (h.size - h.to) w (by omega) (by omega) (by omega) h3)
  have HOt := hid (fun w => other_calls (.slice (some ⟨bw, 0, none⟩) N cap) h w h0 (by omega) (by omega) h3)
  have hbc := heap_lt c.blk
  obtain ⟨v0, v1, v2, v3, v4, v5, v6, v7, v8, v9⟩ := c.blk.later (B := W.heap.size) hbc
  clear c
  obtain ⟨g1, g2, g3, g4, g5, g6, g7, g8, g9⟩ := h
  unfold heapV at *
  dsimp only at *
  by_cases ht : x % 8 = 0
  · have HT : Hid (∀ w, Calls Try.prog 83 #[.int .i64 x] w fun e w' => e = .returned (.int .i64 0) ∧ w = w') := fun w => by
      have := implTag_calls x w
      unfold tagZ at this
      rw [ht] at this
      exact this
    have HNum := hid (fun w => implNum_calls x w)
    unfold numZ at HNum
    have hA : lateZ ⟨g1, g2, g3, g4, g5, g6, g7, g8, g9⟩ x = decide (g1 - g2 ≤ x / 8 ∧ x / 8 < g1 - g2 + g1) := by unfold lateZ; rw [decide_eq_true ht, Bool.true_and]
    rw [hA]
    clear hA ht
    generalize decide (g1 - g2 ≤ x / 8 ∧ x / 8 < g1 - g2 + g1) = d at *
    generalize x / 8 = k at *
    generalize g1 - g2 = o at *
    go_enter Try.func86, Try.ntmps86
    go_wp2_with fail
    refine wp_region_calm W.heap.size (by kernel_rfl) (by kernel_rfl) ?_
    repeat (go_big_quiet_step (first | (rename_i x; go_at_call 83; refine (HT.out _).mono ?_; rintro e w5 ⟨rfl, rfl⟩; exact ⟨rfl, x, rfl⟩) | (rename_i x; go_at_call 54; refine (HNum.out _).mono ?_; rintro e w5 ⟨rfl, rfl⟩; exact ⟨rfl, x, rfl⟩) | (rename_i x; go_at_call 69; refine (HOt.out _).mono ?_; rintro e w5 ⟨rfl, hb5⟩; exact ⟨rfl, ⟨w5, x.h.trans (hb5.mono x.h.size)⟩, rfl⟩) | (rename_i x; go_at_call 84; refine (HWi.out _).mono ?_; rintro e w5 ⟨rfl, hb5⟩; exact ⟨rfl, ⟨w5, x.h.trans (hb5.mono x.h.size)⟩, rfl⟩)))
    refine wpQuiet_nil ?_
    rintro w5 ⟨x, rfl⟩
    have HBx := hid x.h
    clear v0 v1 v2 v3 v4 v5 v6 v7 v8 v9
    go_wp2_with fail
    go_ret
    exact ⟨rfl, HBx.out⟩
  · have hA : lateZ ⟨g1, g2, g3, g4, g5, g6, g7, g8, g9⟩ x = false := by unfold lateZ; rw [decide_eq_false ht, Bool.false_and]
    have HT := hid (fun w => implTag_calls x w)
    have ht0 : (tagZ x == 0) = false := by unfold tagZ; simpa using ht
    have ht1 : ¬ tagZ x = 0 := ht
    rw [hA]
    clear hA ht
    generalize tagZ x = t at *
    go_enter Try.func86, Try.ntmps86
    go_wp2_with fail
    refine wp_region_calm W.heap.size (by kernel_rfl) (by kernel_rfl) ?_
    repeat (go_big_quiet_step (first | (rename_i x; go_at_call 83; refine (HT.out _).mono ?_; rintro e w5 ⟨rfl, rfl⟩; exact ⟨rfl, x, rfl⟩)))
    refine wpQuiet_nil ?_
    rintro w5 ⟨x, rfl⟩
    have HBx := hid x.h
    clear v0 v1 v2 v3 v4 v5 v6 v7 v8 v9
    go_wp2_with fail
    go_ret
    exact ⟨rfl, HBx.out⟩
end Go.Proofs.Ytjcdiehhooinkaa

/- The program moves an object. -/
namespace Go.Proofs.Ytjcdiehhooinkaa
open Go.RowKit

/-- The first n words of an object are copied, one behind the other. -/
def copyW (ws : List Int) (a to : Nat) : Nat → List Int
  | 0 => ws
  | n + 1 => (copyW ws a to n).set (to + n) ((copyW ws a to n).getD (a + n) 0)

theorem copyW_length (ws : List Int) (a to n : Nat) : (copyW ws a to n).length = ws.length := by
  induction n with
  | zero => rfl
  | succ n ih => rw [copyW, List.length_set, ih]

set_option maxRecDepth 100000 in
theorem head_calls (n : Nat) (hn : n = 3 ∨ n = 6) (w : World) : Calls Try.prog 79 #[.int .i64 15, .int .i64 (n : Int)] w fun e w' => e = .returned (.int .i64 ((n : Int) * 16 + 15)) ∧ w = w' := by
  rcases hn with rfl | rfl
  · go_enter Try.func79, Try.ntmps79
    go_wp2
    go_ret
    exact ⟨rfl, rfl⟩
  · go_enter Try.func79, Try.ntmps79
    go_wp2
    go_ret
    exact ⟨rfl, rfl⟩

set_option maxRecDepth 100000 in
theorem move_stays {w0 W : World} {bc bw N cap : Nat} {ws : List Int} {h : HpN} {r t : Int} (c : Col w0 bc bw N cap ws h r t W) (x : Int) (h0 : 0 ≤ h.to) (h1 : h.to ≤ h.size) (h3 : h.size ≤ 4000) (hold : lateZ h x = false) :
    Calls Try.prog 87 #[.pointer (some ⟨bc, 0, none⟩), .int .i64 x] W fun e w' => e = .returned (.tuple #[.int .i64 x, .bool true]) ∧ Col w0 bc bw N cap ws h r t w' := by
  have HIo := hid (isOld_calls c x h0 h1 h3)
  rw [hold] at HIo
  have HC := hid c
  clear c
  go_enter Try.func87, Try.ntmps87
  go_wp2_with fail
  refine HIo.out.mono ?_
  rintro e W1 ⟨rfl, hb1⟩
  have HC1 := hid (HC.out.keep hb1)
  clear hb1 HIo
  go_wp2_with fail
  exact bodyPost_ret (v := .tuple #[.int .i64 x, .bool true]) (by simp [results, Try.results87, go_sem]) rfl ⟨rfl, HC1.out⟩

set_option maxRecDepth 100000 in
theorem move_copies {w0 W : World} {bc bw N cap : Nat} {ws : List Int} {h : HpN} {r t : Int} (c : Col w0 bc bw N cap ws h r t W) (x : Int) (a to n : Nat) (h0 : 0 ≤ h.to) (h1 : h.to ≤ h.size) (h3 : h.size ≤ 4000) (hold : lateZ h x = true)
    (ha : x / 8 = a) (hto : h.bottom = to) (hN : N ≤ 8000) (hn : n = 3 ∨ n = 6) (hf : ws.getD a 0 / 16 = n) (hk : ws.getD a 0 % 16 ≠ 15) (hroom : (n : Int) ≤ h.top - to) (htop : h.top ≤ N) (han : a + n ≤ N) (hr0 : 0 ≤ r) (hr1 : r ≤ 70000) (ht0 : 0 ≤ t) (ht1 : t ≤ 70000) :
    Calls Try.prog 87 #[.pointer (some ⟨bc, 0, none⟩), .int .i64 x] W fun e w' => e = .returned (.tuple #[.int .i64 (8 * (to : Int)), .bool true]) ∧ Col w0 bc bw N cap (((copyW ws a to n).set a ((n : Int) * 16 + 15)).set (a + 1) (8 * (to : Int))) { h with bottom := (to : Int) + n } (r + n) (t + n + 2) w' := by
  have HIo := hid (isOld_calls c x h0 h1 h3)
  rw [hold] at HIo
  have HNum := hid (fun w => implNum_calls x w)
  unfold numZ at HNum
  rw [ha] at HNum
  have HC := hid c
  clear c
  go_enter Try.func87, Try.ntmps87
  go_wp2_with fail
  refine HIo.out.mono ?_
  rintro e W1 ⟨rfl, hb1⟩
  have HC1 := hid (HC.out.keep hb1)
  have v3 := (HC1.out.blk.later (B := W1.heap.size) (heap_lt HC1.out.blk)).2.2.2.1
  rw [hto] at v3
  have hk1 : (bits .and .i64 (ws.getD a 0) 15 == 15) = false := by rw [and15]; simpa using hk
  clear hk
  have HTo := hid hto
  have HTp := hid htop
  have HRoom := hid hroom
  clear hb1 HIo hold ha hto htop hroom
  go_wp2_with fail
  refine wp_region_calm W1.heap.size (by kernel_rfl) (by kernel_rfl) ?_
  repeat (go_big_quiet_step (first | (rename_i x; go_at_call 54; refine (HNum.out _).mono ?_; rintro e w5 ⟨rfl, rfl⟩; exact ⟨rfl, x, rfl⟩)))
  refine wpQuiet_nil ?_
  rintro w5 ⟨y, rfl⟩
  have HC2 := hid (HC1.out.keep y.h)
  have HRd := hid (read_calls HC2.out (i := a) (by omega) hr0 (by omega))
  clear v3
  generalize y.w = W2 at *
  go_wp2_with fail
  refine HRd.out.mono ?_
  rintro e W3 ⟨rfl, hC3⟩
  have HC3 := hid hC3
  clear hC3 HRd
  have HF0 : Hid (copyW ws a to 1 = ws.set to (ws.getD a 0)) := rfl
  have HHr := hid (hasRoom_calls HC3.out (n : Int) (by rw [HTo.out]; omega) (by have := HRoom.out; have := HTp.out; rw [HTo.out]; omega) (by have := HRoom.out; omega) (by have := HTp.out; omega))
  rw [HTo.out, decide_eq_true HRoom.out] at HHr
  have hto1 : to + n ≤ N := by have := HRoom.out; have := HTp.out; omega
  generalize ws.getD a 0 = F at *
  have HWr := hid (fun (X : World) (b : Below W3.heap.size W3 X) => write_calls (HC3.out.keep b) (i := to) (by omega) F ht0 (by omega))
  go_wp2_with fail
  refine HHr.out.mono ?_
  rintro e W4 ⟨rfl, hb4⟩
  have HW4 := hid (HWr.out W4 hb4)
  rw [← HF0.out] at HW4
  clear hb4 HWr HHr HC3 HC2 HC1 HC HNum
  go_wp2_with fail
  refine HW4.out.mono ?_
  rintro e W5 ⟨rfl, hC5⟩
  clear HW4
  have HC5 := hid hC5
  clear hC5
  go_wp2_with fail
  go_loopw [11] (fun i wr => ∃ p : Nat, i = .int .i64 p ∧ p ≤ n ∧ Hid (1 ≤ p) ∧ Hid (Col w0 bc bw N cap (copyW ws a to p) h (r + p) (t + p) wr)) (fun i _ => n - (intOf i).toNat)
  case atStart => exact ⟨1, rfl, by omega, Nat.le_refl _, HC5.out⟩
  case round =>
    obtain ⟨p, rfl, hpn, HP, HI⟩ := hrel
    clear HC5
    by_cases hlt : (p : Int) < (n : Int)
    · have HRd := hid (read_calls HI.out (i := a + p) (by omega) (by omega) (by omega))
      rw [Int.natCast_add] at HRd
      go_wp2_with fail
      refine HRd.out.mono ?_
      rintro e W6 ⟨rfl, hC6⟩
      have HWr := hid (write_calls hC6 (i := to + p) (by omega) ((copyW ws a to p).getD (a + p) 0) (by omega) (by omega))
      rw [Int.natCast_add] at HWr
      have HS : Hid (copyW ws a to (p + 1) = (copyW ws a to p).set (to + p) ((copyW ws a to p).getD (a + p) 0)) := rfl
      rw [← HS.out] at HWr
      clear hC6 HRd HS HI
      generalize (copyW ws a to p).getD (a + p) 0 = y at *
      go_wp2_with fail
      refine HWr.out.mono ?_
      rintro e W7 ⟨rfl, hC7⟩
      have HC7 := hid hC7
      clear hC7 HWr
      go_wp2_with fail
      have hs : n - (intOf (.int .i64 ((p : Int) + 1))).toNat < n - (intOf (.int .i64 (p : Int))).toNat := by simp only [intOf, Int.toNat_natCast]; omega
      refine ⟨⟨p + 1, ?_, by omega, Nat.le_add_left _ _, ?_⟩, hs⟩
      · push_cast
        rfl
      · push_cast
        rw [← Int.add_assoc, ← Int.add_assoc]
        exact HC7.out
    · obtain rfl : p = n := by omega
      have c3 := HI.out.blk.cells.2.2.2.1
      rw [HTo.out] at c3
      have f3 := frozen_of_heap HI.out.blk 3
      have HMk := hid (fun w => implMake_calls 0 (to : Int) w)
      have HMz : Hid (makeZ 0 (to : Int) = 8 * (to : Int)) := by
        show _ = _
        unfold makeZ wrap64
        rw [if_neg (by omega)]
        omega
      rw [HMz.out] at HMk
      have HHd := hid (fun w => head_calls p hn w)
      have HW1 := hid (fun (X : World) (b : Below (wr.setCell ⟨bc, 3, none⟩ (.int .i64 ((to : Int) + p))).heap.size (wr.setCell ⟨bc, 3, none⟩ (.int .i64 ((to : Int) + p))) X) => write_calls ((HI.out.bottom ((to : Int) + p)).keep b) (i := a) (by omega) ((p : Int) * 16 + 15) (by omega) (by omega))
      clear HMz HI
      go_wp2_with fail
      refine (HHd.out _).mono ?_
      rintro e W6 ⟨rfl, rfl⟩
      go_wp2_with fail
      refine (HW1.out _ (by first | exact Below.refl _ _ | exact (Below.refl _ _).drew)).mono ?_
      rintro e W7 ⟨rfl, hC7⟩
      have HC7 := hid hC7
      clear hC7 HW1 HHd c3 f3
      have HW2 := hid (fun (X : World) (b : Below W7.heap.size W7 X) => write_calls (HC7.out.keep b) (i := a + 1) (by omega) (8 * (to : Int)) (by omega) (by omega))
      rw [show ((a + 1 : Nat) : Int) = (a : Int) + 1 from rfl] at HW2
      go_wp2_with fail
      refine (HMk.out _).mono ?_
      rintro e W8 ⟨rfl, rfl⟩
      go_wp2_with fail
      refine (HW2.out _ (by first | exact Below.refl _ _ | exact (Below.refl _ _).drew)).mono ?_
      rintro e W9 ⟨rfl, hC9⟩
      have HC9 := hid hC9
      clear hC9 HW2 HC7
      go_wp2_with fail
      refine (HMk.out _).mono ?_
      rintro e W8 ⟨rfl, rfl⟩
      go_wp2_with fail
      refine bodyPost_ret (v := .tuple #[.int .i64 (8 * (to : Int)), .bool true]) (by simp [results, Try.results87, go_sem]) rfl ⟨rfl, ?_⟩
      have E : t + (p : Int) + 1 + 1 = t + p + 2 := by omega
      rw [← E]
      first | exact HC9.out | exact HC9.out.keep (Below.refl _ _).drew
end Go.Proofs.Ytjcdiehhooinkaa

/- The program's move of a word, all ways; a field read. -/
namespace Go.Proofs.Ytjcdiehhooinkaa
open Go.RowKit

set_option maxRecDepth 100000 in
theorem move_moved {w0 W : World} {bc bw N cap : Nat} {ws : List Int} {h : HpN} {r t : Int} (c : Col w0 bc bw N cap ws h r t W) (x : Int) (a : Nat) (h0 : 0 ≤ h.to) (h1 : h.to ≤ h.size) (h3 : h.size ≤ 4000) (hold : lateZ h x = true)
    (ha : x / 8 = a) (hk : ws.getD a 0 % 16 = 15) (han : a + 1 < N) (hN : N ≤ 8000) (hr0 : 0 ≤ r) (hr1 : r ≤ 70000) :
    Calls Try.prog 87 #[.pointer (some ⟨bc, 0, none⟩), .int .i64 x] W fun e w' => e = .returned (.tuple #[.int .i64 (ws.getD (a + 1) 0), .bool true]) ∧ Col w0 bc bw N cap ws h (r + 1 + 1) t w' := by
  have HIo := hid (isOld_calls c x h0 h1 h3)
  rw [hold] at HIo
  have HNum := hid (fun w => implNum_calls x w)
  unfold numZ at HNum
  rw [ha] at HNum
  have HC := hid c
  clear c
  go_enter Try.func87, Try.ntmps87
  go_wp2_with fail
  refine HIo.out.mono ?_
  rintro e W1 ⟨rfl, hbb⟩
  have HC1 := hid (HC.out.keep hbb)
  have v3 := (HC1.out.blk.later (B := W1.heap.size) (heap_lt HC1.out.blk)).2.2.2.1
  have hk1 : (bits .and .i64 (ws.getD a 0) 15 == 15) = true := by rw [and15]; simpa using hk
  have hk2 : bits .and .i64 (ws.getD a 0) 15 = 15 := by rw [and15]; exact hk
  clear hbb HIo hold ha hk HC
  go_wp2_with fail
  refine wp_region_calm W1.heap.size (by kernel_rfl) (by kernel_rfl) ?_
  repeat (go_big_quiet_step (first | (rename_i x; go_at_call 54; refine (HNum.out _).mono ?_; rintro e w5 ⟨rfl, rfl⟩; exact ⟨rfl, x, rfl⟩)))
  refine wpQuiet_nil ?_
  rintro w5 ⟨y, rfl⟩
  have HC2 := hid (HC1.out.keep y.h)
  have HRd := hid (read_calls HC2.out (i := a) (by omega) hr0 (by omega))
  clear v3 HNum
  generalize y.w = W2 at *
  clear HC1
  go_wp2_with fail
  refine HRd.out.mono ?_
  rintro e W3 ⟨rfl, hC3⟩
  have HRe := hid (fun (X : World) (b : Below W3.heap.size W3 X) => read_calls (hC3.keep b) (i := a + 1) (by omega) (by omega) (by omega))
  rw [show ((a + 1 : Nat) : Int) = (a : Int) + 1 from rfl] at HRe
  clear hC3 HRd HC2
  generalize ws.getD a 0 = F at *
  go_wp2_with fail
  refine (HRe.out _ (by first | exact Below.refl _ _ | exact (Below.refl _ _).drew)).mono ?_
  rintro e W4 ⟨rfl, hC4⟩
  have HC4 := hid hC4
  clear hC4 HRe
  go_wp2_with fail
  exact bodyPost_ret (v := .tuple #[.int .i64 (ws.getD (a + 1) 0), .bool true]) (by simp [results, Try.results87, go_sem]) rfl ⟨rfl, by first | exact HC4.out | exact HC4.out.keep (Below.refl _ _).drew⟩

set_option maxRecDepth 100000 in
theorem move_full {w0 W : World} {bc bw N cap : Nat} {ws : List Int} {h : HpN} {r t : Int} (c : Col w0 bc bw N cap ws h r t W) (x : Int) (a n : Nat) (h0 : 0 ≤ h.to) (h1 : h.to ≤ h.size) (h3 : h.size ≤ 4000) (hold : lateZ h x = true)
    (ha : x / 8 = a) (hf : ws.getD a 0 / 16 = n) (hk : ws.getD a 0 % 16 ≠ 15) (hroom : ¬ (n : Int) ≤ h.top - h.bottom) (han : a < N) (hr0 : 0 ≤ r) (hr1 : r ≤ 70000) (hb0 : 0 ≤ h.bottom) (hb1 : h.bottom ≤ 8000) (ht0 : 0 ≤ h.top) (ht1 : h.top ≤ 8000) :
    Calls Try.prog 87 #[.pointer (some ⟨bc, 0, none⟩), .int .i64 x] W fun e w' => e = .returned (.tuple #[.int .i64 0, .bool false]) ∧ Col w0 bc bw N cap ws h (r + 1) t w' := by
  have HIo := hid (isOld_calls c x h0 h1 h3)
  rw [hold] at HIo
  have HNum := hid (fun w => implNum_calls x w)
  unfold numZ at HNum
  rw [ha] at HNum
  have HC := hid c
  clear c
  go_enter Try.func87, Try.ntmps87
  go_wp2_with fail
  refine HIo.out.mono ?_
  rintro e W1 ⟨rfl, hbb⟩
  have HC1 := hid (HC.out.keep hbb)
  have v3 := (HC1.out.blk.later (B := W1.heap.size) (heap_lt HC1.out.blk)).2.2.2.1
  have hk1 : (bits .and .i64 (ws.getD a 0) 15 == 15) = false := by rw [and15]; simpa using hk
  have HRoom := hid hroom
  clear hbb HIo hold ha hk HC hroom
  go_wp2_with fail
  refine wp_region_calm W1.heap.size (by kernel_rfl) (by kernel_rfl) ?_
  repeat (go_big_quiet_step (first | (rename_i x; go_at_call 54; refine (HNum.out _).mono ?_; rintro e w5 ⟨rfl, rfl⟩; exact ⟨rfl, x, rfl⟩)))
  refine wpQuiet_nil ?_
  rintro w5 ⟨y, rfl⟩
  have HC2 := hid (HC1.out.keep y.h)
  have HRd := hid (read_calls HC2.out (i := a) han hr0 (by omega))
  clear v3 HNum
  generalize y.w = W2 at *
  clear HC1
  go_wp2_with fail
  refine HRd.out.mono ?_
  rintro e W3 ⟨rfl, hC3⟩
  have HC3 := hid hC3
  have HHr := hid (hasRoom_calls HC3.out (n : Int) hb0 hb1 ht0 ht1)
  rw [decide_eq_false (show ¬ (n : Int) ≤ h.top - h.bottom by have := HRoom.out; omega)] at HHr
  clear hC3 HRd HC2
  generalize ws.getD a 0 = F at *
  go_wp2_with fail
  refine HHr.out.mono ?_
  rintro e W4 ⟨rfl, hb4⟩
  have HC4 := hid (HC3.out.keep hb4)
  clear hb4 HHr HC3
  go_wp2_with fail
  exact bodyPost_ret (v := .tuple #[.int .i64 0, .bool false]) (by simp [results, Try.results87, go_sem]) rfl ⟨rfl, by first | exact HC4.out | exact HC4.out.keep (Below.refl _ _).drew⟩

set_option maxRecDepth 100000 in
/-- A field that leads nowhere old. -/
theorem field_stays {w0 W : World} {bc bw N cap : Nat} {ws : List Int} {h : HpN} {r t : Int} (c : Col w0 bc bw N cap ws h r t W) (q : Nat) (hq : q < N) (h0 : 0 ≤ h.to) (h1 : h.to ≤ h.size) (h3 : h.size ≤ 4000) (hr0 : 0 ≤ r) (hr1 : r ≤ 70000) (hold : lateZ h (ws.getD q 0) = false) :
    Calls Try.prog 55 #[.pointer (some ⟨bc, 0, none⟩), .int .i64 (q : Int)] W fun e w' => e = .returned (.tuple #[.int .i64 (ws.getD q 0), .bool true]) ∧ Col w0 bc bw N cap ws h (r + 1) t w' := by
  have HRd := hid (read_calls c (i := q) hq hr0 (by omega))
  clear c
  go_enter Try.func55, Try.ntmps55
  go_wp2_with fail
  refine HRd.out.mono ?_
  rintro e W1 ⟨rfl, hC1⟩
  have HIo := hid (fun (X : World) (b : Below W1.heap.size W1 X) => isOld_calls (hC1.keep b) (ws.getD q 0) h0 h1 h3)
  rw [hold] at HIo
  have HC1 := hid hC1
  clear hC1 HRd
  go_wp2_with fail
  refine (HIo.out _ (by first | exact Below.refl _ _ | exact (Below.refl _ _).drew)).mono ?_
  rintro e W2 ⟨rfl, hb2⟩
  have HC2 := hid (HC1.out.keep (by first | exact hb2 | exact (Below.refl _ _).drew.trans hb2))
  clear hb2 HIo HC1
  go_wp2_with fail
  exact bodyPost_ret (v := .tuple #[.int .i64 (ws.getD q 0), .bool true]) (by simp [results, Try.results55, go_sem]) rfl ⟨rfl, by first | exact HC2.out | exact HC2.out.keep (Below.refl _ _).drew⟩

set_option maxRecDepth 100000 in
/-- A field that leads to what is old: what its move answers is written there. -/
theorem field_moves {w0 W : World} {bc bw N cap : Nat} {ws : List Int} {h : HpN} {r t : Int} (c : Col w0 bc bw N cap ws h r t W) (q : Nat) (hq : q < N) (h0 : 0 ≤ h.to) (h1 : h.to ≤ h.size) (h3 : h.size ≤ 4000) (hr0 : 0 ≤ r) (hr1 : r ≤ 70000) (hold : lateZ h (ws.getD q 0) = true)
    (y : Int) (ws' : List Int) (h' : HpN) (r' t' : Int) (ht0 : 0 ≤ t') (ht1 : t' ≤ 80000)
    (hm : ∀ X, Col w0 bc bw N cap ws h (r + 1) t X → Calls Try.prog 87 #[.pointer (some ⟨bc, 0, none⟩), .int .i64 (ws.getD q 0)] X fun e w' => e = .returned (.tuple #[.int .i64 y, .bool true]) ∧ Col w0 bc bw N cap ws' h' r' t' w') :
    Calls Try.prog 55 #[.pointer (some ⟨bc, 0, none⟩), .int .i64 (q : Int)] W fun e w' => e = .returned (.tuple #[.int .i64 y, .bool true]) ∧ Col w0 bc bw N cap (ws'.set q y) h' r' (t' + 1) w' := by
  have HRd := hid (read_calls c (i := q) hq hr0 (by omega))
  have HM := hid hm
  clear c hm
  go_enter Try.func55, Try.ntmps55
  go_wp2_with fail
  refine HRd.out.mono ?_
  rintro e W1 ⟨rfl, hC1⟩
  have HIo := hid (fun (X : World) (b : Below W1.heap.size W1 X) => isOld_calls (hC1.keep b) (ws.getD q 0) h0 h1 h3)
  rw [hold] at HIo
  have HC1 := hid hC1
  clear hC1 HRd
  go_wp2_with fail
  refine (HIo.out _ (by first | exact Below.refl _ _ | exact (Below.refl _ _).drew)).mono ?_
  rintro e W2 ⟨rfl, hb2⟩
  have HC2 := hid (HC1.out.keep (by first | exact hb2 | exact (Below.refl _ _).drew.trans hb2))
  clear hb2 HIo HC1
  go_wp2_with fail
  refine (HM.out _ (by first | exact HC2.out | exact HC2.out.keep (Below.refl _ _).drew)).mono ?_
  rintro e W3 ⟨rfl, hC3⟩
  have HW := hid (fun (X : World) (b : Below W3.heap.size W3 X) => write_calls (hC3.keep b) (i := q) hq y ht0 ht1)
  clear hC3 HM HC2
  go_wp2_with fail
  refine (HW.out _ (by first | exact Below.refl _ _ | exact (Below.refl _ _).drew)).mono ?_
  rintro e W4 ⟨rfl, hC4⟩
  have HC4 := hid hC4
  clear hC4 HW
  go_wp2_with fail
  exact bodyPost_ret (v := .tuple #[.int .i64 y, .bool true]) (by simp [results, Try.results55, go_sem]) rfl ⟨rfl, by first | exact HC4.out | exact HC4.out.keep (Below.refl _ _).drew⟩
end Go.Proofs.Ytjcdiehhooinkaa

/- The program makes a collector of a heap. -/
namespace Go.Proofs.Ytjcdiehhooinkaa
open Go.RowKit

set_option maxHeartbeats 1000000 in
set_option maxRecDepth 100000 in
theorem collectorOf_calls (b off cap N : Nat) (ws : List Int) (h : HpN) (w : World) (hN0 : 0 < N) (hl : ws.length = N) (hN : N ≤ 8000) (hb : b < w.heap.size)
    (hw : ∀ k, k < N → w.cell? ⟨b, off + k, none⟩ = some (.int .i64 (ws.getD k 0))) :
    Calls Try.prog 48 #[heapV (.slice (some ⟨b, off, none⟩) N cap) h] w fun e w' => ∃ bc bw cap' : Nat, e = .returned (.pointer (some ⟨bc, 0, none⟩)) ∧ Col w bc bw N cap' ws h 0 0 w' := by
  have HCl := hid (fun (X : World) (hX : Below w.heap.size w X) => Try.slices_Clone_int b off N cap ws X (by omega) (by omega) (fun j hj => (hX.cell (p := ⟨b, off + j, none⟩) hb).trans (hw j (by omega))))
  clear hw
  obtain ⟨g1, g2, g3, g4, g5, g6, g7, g8, g9⟩ := h
  unfold heapV
  dsimp only
  go_enter Try.func48, Try.ntmps48
  go_wp2_with fail
  refine (HCl.out _ (by first | exact (Below.refl _ _).alloc (Nat.le_refl _) _ | exact ((Below.refl _ _).alloc (Nat.le_refl _) _).drew)).mono ?_
  rintro e W1 ⟨v', rfl, how, hv0, hb1⟩
  have hH : HeapBlk W1 w.heap.size (.slice (some ⟨b, off, none⟩) N cap) ⟨g1, g2, g3, g4, g5, g6, g7, g8, g9⟩ := (hb1.block w.heap.size (by simp)).trans ((MapKept.heap_alloc w _).1)
  obtain ⟨hxl, hh | ⟨g, cp, cur, rfl, hg, hcur, hcp, -, hcs, htk⟩⟩ := how
  · exact absurd hh.1 hv0
  have hbl : Below w.heap.size w W1 := one_below hb1
  obtain ⟨c0, c1, c2, c3, c4, c5, c6, c7, c8, c9⟩ := hH.cells
  dsimp only at c0 c1 c2 c3 c4 c5 c6 c7 c8 c9
  have f0 := frozen_of_heap hH 0
  have HB := hid hbl
  have HCur := hid hcur
  have HG : Hid (w.heap.size < g) := by have := hg; simp at this; exact this
  have HH := hid hH
  clear hb1 hbl hcur hg hH HCl hv0 hxl
  go_wp2_with fail
  go_ret
  have hrow : CellRow 3 W1 g N (intCells ws) := by
    refine ⟨cp, fun i => (cur[i]?).getD undef, ⟨cur, (0, 0), HCur.out, by omega, fun i hi => ?_, Or.inl rfl⟩, hcp, fun i hi => ?_⟩
    · have e := Array.getElem?_eq_getElem (xs := cur) (i := i) (by omega)
      dsimp only
      rw [e]
      rfl
    · have e : (cur.toList.take (N * 1))[i]? = (List.map (Value.int IntKind.i64) (List.take N ws))[i]? := by rw [htk]
      rw [Nat.mul_one, List.getElem?_take_of_lt hi, List.getElem?_map, List.getElem?_take_of_lt hi, Array.getElem?_toList, List.getElem?_eq_getElem (by omega)] at e
      dsimp only
      rw [e]
      simp [intCells, List.getD, hl, hi]
  have hs : (W1.setCell ⟨w.heap.size, 0, none⟩ (.slice (some ⟨g, 0, none⟩) N cp)).heap.size = W1.heap.size := by simp [World.setCell]
  have hgl := hrow.lt
  have hsz := HB.out.size
  refine ⟨W1.heap.size, g, cp, rfl, ?_, ?_, hl, by omega, hsz, Nat.le_of_lt HG.out, (HB.out.setCell (Nat.le_refl _) _).alloc (by rw [hs]; exact hsz) _⟩
  · have e := (MapKept.heap_alloc (W1.setCell ⟨w.heap.size, 0, none⟩ (.slice (some ⟨g, 0, none⟩) N cp)) (.cells #[.slice (some ⟨g, 0, none⟩) N cp, .int .i64 g1, .int .i64 g2, .int .i64 g3, .int .i64 g4, .int .i64 g5, .int .i64 g6, .int .i64 g7, .int .i64 g8, .int .i64 g9, .int .i64 0, .int .i64 0] 96)).1
    rw [hs] at e
    exact e
  · refine hrow.of_block ?_
    have e1 := ((Below.refl (W1.setCell ⟨w.heap.size, 0, none⟩ (.slice (some ⟨g, 0, none⟩) N cp)).heap.size _).alloc (Nat.le_refl _) (.cells #[.slice (some ⟨g, 0, none⟩) N cp, .int .i64 g1, .int .i64 g2, .int .i64 g3, .int .i64 g4, .int .i64 g5, .int .i64 g6, .int .i64 g7, .int .i64 g8, .int .i64 g9, .int .i64 0, .int .i64 0] 96)).block g (by rw [hs]; exact hgl)
    exact e1.trans (Below.heap_setCell _ _ _ _ (by have := HG.out; dsimp only; omega))
end Go.Proofs.Ytjcdiehhooinkaa

/- The heap that a collector tells. -/
namespace Go.Proofs.Ytjcdiehhooinkaa
open Go.RowKit

theorem set10T (a0 a1 a2 a3 a4 a5 a6 a7 a8 a9 x0 x1 x2 x3 x4 x5 x6 x7 x8 x9 : Value) : ((((((((((#[a0, a1, a2, a3, a4, a5, a6, a7, a8, a9].setIfInBounds 0 x0).setIfInBounds 1 x1).setIfInBounds 2 x2).setIfInBounds 3 x3).setIfInBounds 4 x4).setIfInBounds 5 x5).setIfInBounds 6 x6).setIfInBounds 7 x7).setIfInBounds 8 x8).setIfInBounds 9 x9) = #[x0, x1, x2, x3, x4, x5, x6, x7, x8, x9] := by
  simp

/-- A heap is stored into a block of its kind. -/
theorem heap_useT {W : World} {b : Nat} {v : Value} {h : HpN} (e : HeapBlk W b v h) (v' : Value) (h' : HpN) (Q : World → Prop)
    (k : ∀ W' : World, HeapBlk W' b v' h' → (∀ B, B ≤ b → Below B W W') → (∀ g, g ≠ b → W'.heap[g]? = W.heap[g]?) → Q W') : Q ((((((((((W.setCell ⟨b, 0, none⟩ v').setCell ⟨b, 1, none⟩ (.int .i64 h'.size)).setCell ⟨b, 2, none⟩ (.int .i64 h'.to)).setCell ⟨b, 3, none⟩ (.int .i64 h'.bottom)).setCell ⟨b, 4, none⟩ (.int .i64 h'.top)).setCell ⟨b, 5, none⟩ (.int .i64 h'.scan)).setCell ⟨b, 6, none⟩ (.int .i64 h'.fb)).setCell ⟨b, 7, none⟩ (.int .i64 h'.ft)).setCell ⟨b, 8, none⟩ (.int .i64 h'.flips)).setCell ⟨b, 9, none⟩ (.int .i64 h'.touched)) := by
  refine k _ ?_ (fun B hB => ?_) (fun g hg => ?_)
  · have e1 := set_block (set_block (set_block (set_block (set_block (set_block (set_block (set_block (set_block (set_block e 0 v') 1 (.int .i64 h'.size)) 2 (.int .i64 h'.to)) 3 (.int .i64 h'.bottom)) 4 (.int .i64 h'.top)) 5 (.int .i64 h'.scan)) 6 (.int .i64 h'.fb)) 7 (.int .i64 h'.ft)) 8 (.int .i64 h'.flips)) 9 (.int .i64 h'.touched)
    rw [set10T] at e1
    exact e1
  · exact ((((((((((Below.refl B W).setCell hB _).setCell hB _).setCell hB _).setCell hB _).setCell hB _).setCell hB _).setCell hB _).setCell hB _).setCell hB _).setCell hB _
  · have hh : ∀ (X : World) (i : Nat) (x : Value), (X.setCell ⟨b, i, none⟩ x).heap[g]? = X.heap[g]? := fun X i x => Below.heap_setCell X ⟨b, i, none⟩ x g hg
    simp only [hh]

set_option maxHeartbeats 1000000 in
set_option maxRecDepth 100000 in
theorem told_calls {w0 W : World} {bc bw N cap : Nat} {ws : List Int} {h : HpN} {r t : Int} (c : Col w0 bc bw N cap ws h r t W) :
    Calls Try.prog 51 #[.pointer (some ⟨bc, 0, none⟩)] W fun e w' => e = .returned (heapV (.slice (some ⟨bw, 0, none⟩) N cap) { h with touched := wrap64 (wrap64 (h.touched + r) + t) }) ∧ Below W.heap.size W w' := by
  obtain ⟨c0, c1, c2, c3, c4, c5, c6, c7, c8, c9, c10, c11⟩ := c.blk.cells
  have hbc := heap_lt c.blk
  clear c
  obtain ⟨g1, g2, g3, g4, g5, g6, g7, g8, g9⟩ := h
  dsimp only at c0 c1 c2 c3 c4 c5 c6 c7 c8 c9 c10 c11
  unfold heapV
  dsimp only
  go_enter Try.func51, Try.ntmps51
  go_wp2_with fail
  go_loopw [14] (fun i wr => ∃ T : Int, (i = .int .i64 0 ∧ T = g9 ∨ i = .int .i64 1 ∧ T = wrap64 (g9 + r) ∨ i = .int .i64 2 ∧ T = wrap64 (wrap64 (g9 + r) + t)) ∧ Hid (Below W.heap.size W wr) ∧ HeapBlk wr W.heap.size (.slice none 0 0) ⟨0, 0, 0, 0, 0, 0, 0, 0, 0⟩ ∧ HeapBlk wr (W.heap.size + 1) (.slice (some ⟨bw, 0, none⟩) N cap) ⟨g1, g2, g3, g4, g5, g6, g7, g8, T⟩) (fun i _ => 2 - (intOf i).toNat)
  case atStart =>
    obtain ⟨eA, eB, hbw⟩ := two_kept (Below.refl ((W.alloc (.cells #[.slice none 0 0, .int .i64 0, .int .i64 0, .int .i64 0, .int .i64 0, .int .i64 0, .int .i64 0, .int .i64 0, .int .i64 0, .int .i64 0] 27)).alloc (.cells #[.slice (some ⟨bw, 0, none⟩) N cap, .int .i64 g1, .int .i64 g2, .int .i64 g3, .int .i64 g4, .int .i64 g5, .int .i64 g6, .int .i64 g7, .int .i64 g8, .int .i64 g9] 27)).heap.size _)
    exact ⟨g9, Or.inl ⟨rfl, rfl⟩, hbw, eA, eB⟩
  case round =>
    obtain ⟨T, hT, HBw, hR, hH⟩ := hrel
    have HR := hid hR
    have HH := hid hH
    obtain ⟨d0, d1, d2, d3, d4, d5, d6, d7, d8, d9⟩ := hH.cells
    dsimp only at d0 d1 d2 d3 d4 d5 d6 d7 d8 d9
    have f9 := frozen_of_heap hH 9
    have HS : ∀ X : Int, Hid (HeapBlk (wr.setCell ⟨W.heap.size + 1, 9, none⟩ (.int .i64 X)) (W.heap.size + 1) (.slice (some ⟨bw, 0, none⟩) N cap) ⟨g1, g2, g3, g4, g5, g6, g7, g8, X⟩) := fun X => by
      have e := set_block hH 9 (.int .i64 X)
      have e2 : HeapBlk (wr.setCell ⟨W.heap.size + 1, 9, none⟩ (.int .i64 X)) (W.heap.size + 1) (.slice (some ⟨bw, 0, none⟩) N cap) ⟨g1, g2, g3, g4, g5, g6, g7, g8, X⟩ := by simpa [HeapBlk] using e
      exact e2
    have HS' : ∀ X : Int, Hid (HeapBlk (wr.setCell ⟨W.heap.size + 1, 9, none⟩ (.int .i64 X)) W.heap.size (.slice none 0 0) ⟨0, 0, 0, 0, 0, 0, 0, 0, 0⟩) := fun X => (Below.heap_setCell _ _ _ _ (by dsimp only; omega)).trans hR
    clear hR hH c0 c1 c2 c3 c4 c5 c6 c7 c8 c9 c10 c11
    rcases hT with ⟨rfl, rfl⟩ | ⟨rfl, rfl⟩ | ⟨rfl, rfl⟩
    · have E : Sem.run Try.prog (Instr.index 94 (.agg #[.int .i64 r, .int .i64 t]) (.int .i64 0)) wr = .ok (.int .i64 r) wr := by kernel_rfl
      go_wp2_with fail
      exact ⟨⟨wrap64 (T + r), Or.inr (Or.inl ⟨rfl, rfl⟩), HBw.out.setCell (p := ⟨W.heap.size + 1, 9, none⟩) (Nat.le_succ _) _, (HS' _).out, (HS _).out⟩, by decide⟩
    · generalize wrap64 (g9 + r) = T at *
      have E : Sem.run Try.prog (Instr.index 94 (.agg #[.int .i64 r, .int .i64 t]) (.int .i64 1)) wr = .ok (.int .i64 t) wr := by kernel_rfl
      go_wp2_with fail
      exact ⟨⟨wrap64 (T + t), Or.inr (Or.inr ⟨rfl, rfl⟩), HBw.out.setCell (p := ⟨W.heap.size + 1, 9, none⟩) (Nat.le_succ _) _, (HS' _).out, (HS _).out⟩, by decide⟩
    · generalize hT2 : wrap64 (wrap64 (g9 + r) + t) = T at *
      clear HS HS'
      obtain ⟨e0, e1, e2, e3, e4, e5, e6, e7, e8, e9⟩ := HR.out.cells
      dsimp only at e0 e1 e2 e3 e4 e5 e6 e7 e8 e9
      have z0 := frozen_of_heap HR.out 0
      have z1 := frozen_of_heap HR.out 1
      have z2 := frozen_of_heap HR.out 2
      have z3 := frozen_of_heap HR.out 3
      have z4 := frozen_of_heap HR.out 4
      have z5 := frozen_of_heap HR.out 5
      have z6 := frozen_of_heap HR.out 6
      have z7 := frozen_of_heap HR.out 7
      have z8 := frozen_of_heap HR.out 8
      have z9 := frozen_of_heap HR.out 9
      go_wp2_with fail
      refine heap_useT HR.out (.slice (some ⟨bw, 0, none⟩) N cap) ⟨g1, g2, g3, g4, g5, g6, g7, g8, T⟩ _ ?_
      intro W2 hL hb2 _
      obtain ⟨y0, y1, y2, y3, y4, y5, y6, y7, y8, y9⟩ := hL.cells
      dsimp only at y0 y1 y2 y3 y4 y5 y6 y7 y8 y9
      exact bodyPost_ret (v := .agg #[.slice (some ⟨bw, 0, none⟩) N cap, .int .i64 g1, .int .i64 g2, .int .i64 g3, .int .i64 g4, .int .i64 g5, .int .i64 g6, .int .i64 g7, .int .i64 g8, .int .i64 T]) (by simp [results, Try.results51, go_sem, y0, y1, y2, y3, y4, y5, y6, y7, y8, y9]) rfl ⟨by rw [hT2], HBw.out.trans (hb2 _ (Nat.le_refl _))⟩
end Go.Proofs.Ytjcdiehhooinkaa

/- A field that cannot be moved. -/
namespace Go.Proofs.Ytjcdiehhooinkaa
open Go.RowKit

set_option maxRecDepth 100000 in
/-- A field that leads to what is old, and there is no room for it. -/
theorem field_fails {w0 W : World} {bc bw N cap : Nat} {ws : List Int} {h : HpN} {r t : Int} (c : Col w0 bc bw N cap ws h r t W) (q : Nat) (hq : q < N) (h0 : 0 ≤ h.to) (h1 : h.to ≤ h.size) (h3 : h.size ≤ 4000) (hr0 : 0 ≤ r) (hr1 : r ≤ 70000) (hold : lateZ h (ws.getD q 0) = true)
    (ws' : List Int) (h' : HpN) (r' t' : Int)
    (hm : ∀ X, Col w0 bc bw N cap ws h (r + 1) t X → Calls Try.prog 87 #[.pointer (some ⟨bc, 0, none⟩), .int .i64 (ws.getD q 0)] X fun e w' => e = .returned (.tuple #[.int .i64 0, .bool false]) ∧ Col w0 bc bw N cap ws' h' r' t' w') :
    Calls Try.prog 55 #[.pointer (some ⟨bc, 0, none⟩), .int .i64 (q : Int)] W fun e w' => e = .returned (.tuple #[.int .i64 0, .bool false]) ∧ Col w0 bc bw N cap ws' h' r' t' w' := by
  have HRd := hid (read_calls c (i := q) hq hr0 (by omega))
  have HM := hid hm
  clear c hm
  go_enter Try.func55, Try.ntmps55
  go_wp2_with fail
  refine HRd.out.mono ?_
  rintro e W1 ⟨rfl, hC1⟩
  have HIo := hid (fun (X : World) (b : Below W1.heap.size W1 X) => isOld_calls (hC1.keep b) (ws.getD q 0) h0 h1 h3)
  rw [hold] at HIo
  have HC1 := hid hC1
  clear hC1 HRd
  go_wp2_with fail
  refine (HIo.out _ (by first | exact Below.refl _ _ | exact (Below.refl _ _).drew)).mono ?_
  rintro e W2 ⟨rfl, hb2⟩
  have HC2 := hid (HC1.out.keep (by first | exact hb2 | exact (Below.refl _ _).drew.trans hb2))
  clear hb2 HIo HC1
  go_wp2_with fail
  refine (HM.out _ (by first | exact HC2.out | exact HC2.out.keep (Below.refl _ _).drew)).mono ?_
  rintro e W3 ⟨rfl, hC3⟩
  have HC4 := hid hC3
  clear hC3 HM HC2
  go_wp2_with fail
  exact bodyPost_ret (v := .tuple #[.int .i64 0, .bool false]) (by simp [results, Try.results55, go_sem]) rfl ⟨rfl, by first | exact HC4.out | exact HC4.out.keep (Below.refl _ _).drew⟩
end Go.Proofs.Ytjcdiehhooinkaa

/- The program's move of a word as one plain function. -/
namespace Go.Proofs.Ytjcdiehhooinkaa
open Go.RowKit

/-- A collector in plain words: the words, the numbers, how many were read and written. -/
structure CN where
  ws : List Int
  h : HpN
  r : Int
  t : Int

/-- Where a word leads once its object was moved; none, if there is no room. -/
def moveZ (s : CN) (x : Int) : Option Int × CN :=
  if lateZ s.h x = false then (some x, s) else
  if s.ws.getD (x / 8).toNat 0 % 16 = 15 then (some (s.ws.getD ((x / 8).toNat + 1) 0), { s with r := s.r + 1 + 1 }) else
  if s.ws.getD (x / 8).toNat 0 / 16 ≤ s.h.top - s.h.bottom then
    (some (8 * s.h.bottom), ⟨((copyW s.ws (x / 8).toNat s.h.bottom.toNat (s.ws.getD (x / 8).toNat 0 / 16).toNat).set (x / 8).toNat (s.ws.getD (x / 8).toNat 0 / 16 * 16 + 15)).set ((x / 8).toNat + 1) (8 * s.h.bottom), { s.h with bottom := s.h.bottom + s.ws.getD (x / 8).toNat 0 / 16 }, s.r + s.ws.getD (x / 8).toNat 0 / 16, s.t + s.ws.getD (x / 8).toNat 0 / 16 + 2⟩)
  else (none, { s with r := s.r + 1 })

def moveV : Option Int → Value
  | some y => .tuple #[.int .i64 y, .bool true]
  | none => .tuple #[.int .i64 0, .bool false]

/-- What a move asks of a word that leads into the other space. -/
def MoveOk (ws : List Int) (h : HpN) (N : Nat) (x : Int) : Prop :=
  lateZ h x = true → (x / 8).toNat + 1 < N ∧ (ws.getD (x / 8).toNat 0 % 16 ≠ 15 → (ws.getD (x / 8).toNat 0 / 16 = 3 ∨ ws.getD (x / 8).toNat 0 / 16 = 6) ∧ (x / 8).toNat + (ws.getD (x / 8).toNat 0 / 16).toNat ≤ N)

theorem move_calls {w0 W : World} {bc bw N cap : Nat} (s : CN) (c : Col w0 bc bw N cap s.ws s.h s.r s.t W) (x : Int) (h0 : 0 ≤ s.h.to) (h1 : s.h.to ≤ s.h.size) (h3 : s.h.size ≤ 4000) (hb0 : 0 ≤ s.h.bottom) (hbt : s.h.bottom ≤ s.h.top) (htN : s.h.top ≤ N) (hN : N ≤ 8000)
    (hr0 : 0 ≤ s.r) (hr1 : s.r ≤ 70000) (ht0 : 0 ≤ s.t) (ht1 : s.t ≤ 70000) (hm : MoveOk s.ws s.h N x) :
    Calls Try.prog 87 #[.pointer (some ⟨bc, 0, none⟩), .int .i64 x] W fun e w' => e = .returned (moveV (moveZ s x).1) ∧ Col w0 bc bw N cap (moveZ s x).2.ws (moveZ s x).2.h (moveZ s x).2.r (moveZ s x).2.t w' := by
  obtain ⟨ws, h, r, t⟩ := s
  dsimp only at *
  unfold moveZ
  dsimp only
  cases ho : lateZ h x with
  | false =>
    rw [if_pos rfl]
    exact move_stays c x h0 h1 h3 ho
  | true =>
    rw [if_neg (by decide)]
    obtain ⟨ha1, ha2⟩ := hm ho
    have hx0 : 0 ≤ x / 8 := by
      unfold lateZ at ho
      rw [Bool.and_eq_true, decide_eq_true_eq, decide_eq_true_eq] at ho
      omega
    obtain ⟨a, ha⟩ := Int.eq_ofNat_of_zero_le hx0
    rw [ha, Int.toNat_natCast] at ha1 ha2 ⊢
    by_cases hk : ws.getD a 0 % 16 = 15
    · rw [if_pos hk]
      exact move_moved c x a h0 h1 h3 ho ha hk ha1 hN hr0 hr1
    · rw [if_neg hk]
      obtain ⟨hs, han⟩ := ha2 hk
      obtain ⟨n, hn⟩ := Int.eq_ofNat_of_zero_le (show 0 ≤ ws.getD a 0 / 16 by omega)
      obtain ⟨to, hto⟩ := Int.eq_ofNat_of_zero_le hb0
      rw [hn, Int.toNat_natCast] at han
      by_cases hroom : ws.getD a 0 / 16 ≤ h.top - h.bottom
      · rw [if_pos hroom]
        have := move_copies c x a to n h0 h1 h3 ho ha hto hN (by omega) hn hk (by omega) htN han hr0 hr1 ht0 ht1
        dsimp only
        rw [hn, hto, Int.toNat_natCast, Int.toNat_natCast]
        exact this
      · rw [if_neg hroom]
        exact move_full c x a n h0 h1 h3 ho ha hn hk (by omega) (by omega) hr0 hr1 hb0 (by omega) (by omega) (by omega)
end Go.Proofs.Ytjcdiehhooinkaa

/- The program's read of a field as one plain function. -/
namespace Go.Proofs.Ytjcdiehhooinkaa
open Go.RowKit

/-- What a field holds, moved if need be; none, if there is no room. -/
def fieldZ (s : CN) (q : Nat) : Option Int × CN :=
  if lateZ s.h (s.ws.getD q 0) = false then (some (s.ws.getD q 0), { s with r := s.r + 1 }) else
  match moveZ { s with r := s.r + 1 } (s.ws.getD q 0) with
  | (some y, s2) => (some y, ⟨s2.ws.set q y, s2.h, s2.r, s2.t + 1⟩)
  | (none, s2) => (none, s2)

theorem moveZ_t {s : CN} {N : Nat} {x : Int} (hm : MoveOk s.ws s.h N x) : s.t ≤ (moveZ s x).2.t ∧ (moveZ s x).2.t ≤ s.t + 8 := by
  unfold moveZ
  cases ho : lateZ s.h x with
  | false =>
    rw [if_pos rfl]
    dsimp only
    omega
  | true =>
    rw [if_neg (by decide)]
    have h2 := (hm ho).2
    split
    · dsimp only
      omega
    · rename_i hk
      have h3 := (h2 hk).1
      split
      · dsimp only
        omega
      · dsimp only
        omega

theorem field_calls {w0 W : World} {bc bw N cap : Nat} (s : CN) (c : Col w0 bc bw N cap s.ws s.h s.r s.t W) (q : Nat) (hq : q < N) (h0 : 0 ≤ s.h.to) (h1 : s.h.to ≤ s.h.size) (h3 : s.h.size ≤ 4000) (hb0 : 0 ≤ s.h.bottom) (hbt : s.h.bottom ≤ s.h.top) (htN : s.h.top ≤ N) (hN : N ≤ 8000)
    (hr0 : 0 ≤ s.r) (hr1 : s.r ≤ 60000) (ht0 : 0 ≤ s.t) (ht1 : s.t ≤ 60000) (hm : MoveOk s.ws s.h N (s.ws.getD q 0)) :
    Calls Try.prog 55 #[.pointer (some ⟨bc, 0, none⟩), .int .i64 (q : Int)] W fun e w' => e = .returned (moveV (fieldZ s q).1) ∧ Col w0 bc bw N cap (fieldZ s q).2.ws (fieldZ s q).2.h (fieldZ s q).2.r (fieldZ s q).2.t w' := by
  cases ho : lateZ s.h (s.ws.getD q 0) with
  | false =>
    have e : fieldZ s q = (some (s.ws.getD q 0), { s with r := s.r + 1 }) := by unfold fieldZ; rw [if_pos ho]
    rw [e]
    exact field_stays c q hq h0 h1 h3 hr0 (by omega) ho
  | true =>
    have hc := fun (X : World) (hX : Col w0 bc bw N cap s.ws s.h (s.r + 1) s.t X) => move_calls { s with r := s.r + 1 } hX (s.ws.getD q 0) h0 h1 h3 hb0 hbt htN hN (show 0 ≤ s.r + 1 by omega) (show s.r + 1 ≤ 70000 by omega) ht0 (show s.t ≤ 70000 by omega) hm
    have hb := moveZ_t (s := { s with r := s.r + 1 }) hm
    have e : fieldZ s q = match moveZ { s with r := s.r + 1 } (s.ws.getD q 0) with
        | (some y, s2) => (some y, ⟨s2.ws.set q y, s2.h, s2.r, s2.t + 1⟩)
        | (none, s2) => (none, s2) := by unfold fieldZ; rw [if_neg (by rw [ho]; decide)]
    rw [e]
    generalize moveZ { s with r := s.r + 1 } (s.ws.getD q 0) = m at *
    obtain ⟨o, s2⟩ := m
    dsimp only at hb hc
    cases o with
    | some y => exact field_moves c q hq h0 h1 h3 hr0 (by omega) ho y s2.ws s2.h s2.r s2.t (by omega) (by omega) hc
    | none => exact field_fails c q hq h0 h1 h3 hr0 (by omega) ho s2.ws s2.h s2.r s2.t hc
end Go.Proofs.Ytjcdiehhooinkaa
