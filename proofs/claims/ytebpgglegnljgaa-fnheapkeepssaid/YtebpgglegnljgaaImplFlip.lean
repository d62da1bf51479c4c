/- The program changes the spaces and moves words. -/
import Derived.Test.YtebpgglegnljgaaImplScan
import Derived.Test.YtebpgglegnljgaaFlipPure
import Derived.Deep.RegionHeld3
namespace Go.Proofs.Ytebpgglegnljgaa
open Go.RowKit

/-- All that was there is as it was, but for three blocks. -/
def Frm3 (w0 : World) (b1 b2 b3 : Nat) (W : World) : Prop := W.os = w0.os ∧ W.tape = w0.tape ∧ W.output = w0.output ∧ w0.heap.size ≤ W.heap.size ∧ ∀ g, g < w0.heap.size → g ≠ b1 → g ≠ b2 → g ≠ b3 → W.heap[g]? = w0.heap[g]?

theorem Frm3.refl (w : World) (b1 b2 b3 : Nat) : Frm3 w b1 b2 b3 w := ⟨rfl, rfl, rfl, Nat.le_refl _, fun _ _ _ _ _ => rfl⟩

theorem Frm3.step {w0 W W' : World} {b1 b2 b3 : Nat} (f : Frm3 w0 b1 b2 b3 W) (g : Frm W b1 b2 W') : Frm3 w0 b1 b2 b3 W' := by
  obtain ⟨f1, f2, f3, f4, f5⟩ := f
  exact ⟨g.os.trans f1, g.tape.trans f2, g.output.trans f3, Nat.le_trans f4 g.size, fun c hc h1 h2 h3 => (g.block c (Nat.lt_of_lt_of_le hc f4) h1 h2).trans (f5 c hc h1 h2 h3)⟩

theorem Frm3.trans {w0 W W' : World} {b1 b2 b3 : Nat} (f : Frm3 w0 b1 b2 b3 W) (g : Frm3 W b1 b2 b3 W') : Frm3 w0 b1 b2 b3 W' := by
  obtain ⟨f1, f2, f3, f4, f5⟩ := f
  obtain ⟨g1, g2, g3, g4, g5⟩ := g
  exact ⟨g1.trans f1, g2.trans f2, g3.trans f3, Nat.le_trans f4 g4, fun c hc h1 h2 h3 => (g5 c (Nat.lt_of_lt_of_le hc f4) h1 h2 h3).trans (f5 c hc h1 h2 h3)⟩

theorem Frm3.set {w0 W : World} {b1 b2 b3 : Nat} (f : Frm3 w0 b1 b2 b3 W) (i : Nat) (v : Value) : Frm3 w0 b1 b2 b3 (W.setCell ⟨b3, i, none⟩ v) := by
  obtain ⟨f1, f2, f3, f4, f5⟩ := f
  exact ⟨f1, f2, f3, by simpa [World.setCell] using f4, fun c hc h1 h2 h3 => (Below.heap_setCell _ _ _ _ h3).trans (f5 c hc h1 h2 h3)⟩

/-- A list of words in a row of its own. -/
theorem row_set {W : World} {g n : Nat} {xs : List Int} (hr : CellRow 3 W g n (intCells xs)) (hl : xs.length = n) {i : Nat} (hi : i < n) (x : Int) : CellRow 3 (W.setCell ⟨g, i, none⟩ (.int .i64 x)) g n (intCells (xs.set i x)) := by
  obtain ⟨N', f, hrow, hN', hf⟩ := hr
  exact ⟨N', _, hrow.set i _, hN', int_set xs i (by omega) x hf⟩

theorem Col.beside {w0 W : World} {bc bw N cap g : Nat} {ws : List Int} {h : HpN} {r t : Int} (c : Col w0 bc bw N cap ws h r t W) (h1 : g ≠ bc) (h2 : g ≠ bw) (i : Nat) (x : Value) : Col (W.setCell ⟨g, i, none⟩ x) bc bw N cap ws h r t (W.setCell ⟨g, i, none⟩ x) :=
  ⟨(Below.heap_setCell _ _ _ _ (fun e => h1 e.symm)).trans c.blk, c.row.of_block (Below.heap_setCell _ _ _ _ (fun e => h2 e.symm)), c.len, c.ne, Frm.refl _ _ _⟩

/-- What moving a list comes to. -/
def MovesPost (W : World) (bc bw N cap g n : Nat) (o : Option (List Int × CN)) (e : Ending) (w' : World) : Prop :=
  match o with
  | some (ys, s) => e = .returned (.bool true) ∧ ColAt w' bc bw N cap s w' ∧ CellRow 3 w' g n (intCells ys) ∧ Frm3 W bc bw g w'
  | none => e = .returned (.bool false) ∧ (∃ s, ColAt w' bc bw N cap s w') ∧ Frm3 W bc bw g w'

set_option maxHeartbeats 4000000 in
set_option maxRecDepth 100000 in
theorem moveAll_calls {w0 W : World} {bc bw N cap g n gcap j : Nat} {S : List Int} (s : CN) (c : ColAt w0 bc bw N cap s W) (hs : Mvs S N j s) (xs : List Int) (hl : xs.length = n) (hn : j + n ≤ 30) (hg1 : g ≠ bc) (hg2 : g ≠ bw) (hr : CellRow 3 W g n (intCells xs)) (ha : ∀ i, i < xs.length → Aim S s.h N (xs.getD i 0)) :
    Calls Try.prog 71 #[.pointer (some ⟨bc, 0, none⟩), .slice (some ⟨g, 0, none⟩) n gcap] W (MovesPost W bc bw N cap g n (movesRun xs n s)) := by
  have HC := hid (Col.rebase c W (Frm.refl _ _ _))
  have HRw := hid hr
  have HMv := hid (movesRun_mvs hs ha)
  obtain ⟨R, hR⟩ : ∃ R, movesRun xs n s = R := ⟨_, rfl⟩
  rw [hR]
  have HR := hid hR
  have HL := hid hl
  have HG1 := hid hg1
  have HG2 := hid hg2
  have HNn := hid hn
  clear c hr hR hs ha hl hg1 hg2 hn
  go_enter Try.func71, Try.ntmps71
  go_wp2_with fail
  go_loopw [11] (fun i wr => ∃ (ii : Int) (k : Nat) (ys : List Int) (s' : CN), i = .int .i64 ii ∧ Hid (ii = (k : Int) ∧ k ≤ n) ∧ Hid (movesRun xs k s = some (ys, s')) ∧ Hid (ColAt wr bc bw N cap s' wr) ∧ Hid (CellRow 3 wr g n (intCells ys)) ∧ Hid (Frm3 W bc bw g wr)) (fun i _ => n - (intOf i).toNat)
  case atStart => exact ⟨0, 0, xs, s, rfl, ⟨rfl, by omega⟩, rfl, HC.out, HRw.out, Frm3.refl _ _ _ _⟩
  case round =>
    obtain ⟨ii, k, ys, s', rfl, HQ, HK, HI, HRo, HF3⟩ := hrel
    clear HC HRw
    have hi0 : 0 ≤ ii := by have := HQ.out; omega
    by_cases hlt : ii < (n : Int)
    · have hkn : k < n := by have := HQ.out; omega
      obtain ⟨m1, m2, m3⟩ := HMv.out k (by have := HL.out; omega) ys s' HK.out
      obtain ⟨e1, e2⟩ := m3 k (Nat.le_refl _) (by have := HL.out; omega)
      rw [← e1] at e2
      obtain ⟨k2, k3, k4, k5, k6, k7, k8, k9, k10, k11, k12⟩ := m1.asks (by have := HNn.out; omega) e2
      have HMo := hid (move_calls s' HI.out (ys.getD k 0) k2 k3 k4 k5 k6 k7 k8 m1.r0 k9 m1.t0 k10 k11)
      have q0 := HRo.out.cell (i := k) hkn
      unfold intCells at q0
      obtain ⟨_, _, hrow, _, _⟩ := HRo.out
      have q1 := hrow.frozen k hkn
      have hik : ii.toNat = k := by have := HQ.out; omega
      have HLy : Hid (ys.length = n) := m2.trans HL.out
      obtain ⟨o, s2, hz⟩ : ∃ o s2, moveZ s' (ys.getD k 0) = (o, s2) := ⟨_, _, rfl⟩
      rw [hz] at HMo
      have HZ := hid hz
      clear hz m1 m2 m3 e1 e2 k2 k3 k4 k5 k6 k7 k8 k9 k10 k11 k12 hrow
      have hs : Hid (n - (intOf (.int .i64 (ii + 1))).toNat < n - (intOf (.int .i64 ii)).toNat) := by show _ < _; simp only [intOf]; have := HQ.out; omega
      cases o with
      | none =>
        dsimp only [moveV] at HMo
        have HF : Hid (R = none) := by
          have h1 := movesRun_none (movesRun_stop HK.out HZ.out) (n - (k + 1))
          rw [show k + 1 + (n - (k + 1)) = n by omega, HR.out] at h1
          exact h1
        go_wp2_with fail
        refine HMo.out.mono ?_
        rintro e W4 ⟨rfl, hC4⟩
        have HC4 := hid hC4
        clear hC4 HMo q0 q1
        go_wp2_with fail
        go_ret
        rw [HF.out]
        exact ⟨rfl, ⟨s2, HC4.out.rebase _ (Frm.refl _ _ _)⟩, HF3.out.step HC4.out.frame⟩
      | some y =>
        dsimp only [moveV] at HMo
        go_wp2_with fail
        refine HMo.out.mono ?_
        rintro e W4 ⟨rfl, hC4⟩
        have HC4 := hid hC4
        have hblk := hC4.frame.block g HRo.out.lt HG1.out HG2.out
        have HRo4 := hid (HRo.out.of_block hblk)
        have q0' : W4.cell? ⟨g, k, none⟩ = some (.int .i64 (ys.getD k 0)) := (World.cell?_of_block (w := wr) hblk).trans q0
        obtain ⟨_, _, hrow, _, _⟩ := HRo4.out
        have q1' := hrow.frozen k hkn
        clear hC4 HMo q0 q1 hrow hblk
        go_wp2_with fail
        have hw : wrap64 (ii + 1) = ii + 1 := by have := HQ.out; have := HNn.out; unfold wrap64; omega
        rw [hw]
        exact ⟨⟨ii + 1, k + 1, ys.set k y, s2, rfl, ⟨by have := HQ.out; push_cast; omega, by omega⟩, movesRun_more HK.out HZ.out, HC4.out.beside HG1.out HG2.out k _, row_set HRo4.out HLy.out hkn y, (HF3.out.step HC4.out.frame).set k _⟩, hs.out⟩
    · have hkn : k = n := by have := HQ.out; omega
      have HF : Hid (R = some (ys, s')) := by have h := HK.out; rw [hkn, HR.out] at h; exact h
      go_wp2_with fail
      go_ret
      rw [HF.out]
      exact ⟨rfl, HI.out, HRo.out, HF3.out⟩

theorem cell_off (W : World) (b : Nat) {i j : Nat} (h : i ≠ j) (v : Value) : (W.setCell ⟨b, i, none⟩ v).cell? ⟨b, j, none⟩ = W.cell? ⟨b, j, none⟩ :=
  World.cell?_setCell_other _ _ _ _ (fun e => h (by cases e; rfl))

theorem Col.toSet {w0 W : World} {bc bw N cap : Nat} {ws : List Int} {h : HpN} {r t : Int} (c : Col w0 bc bw N cap ws h r t W) (x : Int) : Col w0 bc bw N cap ws { h with to := x } r t (W.setCell ⟨bc, 2, none⟩ (.int .i64 x)) :=
  ⟨by simpa [ColBlk] using set_block c.blk 2 (.int .i64 x), c.row.of_block (Below.heap_setCell _ _ _ _ (fun e => c.ne e.symm)), c.len, c.ne, c.frame.set (Or.inl rfl) _⟩

theorem Col.topSet {w0 W : World} {bc bw N cap : Nat} {ws : List Int} {h : HpN} {r t : Int} (c : Col w0 bc bw N cap ws h r t W) (x : Int) : Col w0 bc bw N cap ws { h with top := x } r t (W.setCell ⟨bc, 4, none⟩ (.int .i64 x)) :=
  ⟨by simpa [ColBlk] using set_block c.blk 4 (.int .i64 x), c.row.of_block (Below.heap_setCell _ _ _ _ (fun e => c.ne e.symm)), c.len, c.ne, c.frame.set (Or.inl rfl) _⟩

theorem Col.fbSet {w0 W : World} {bc bw N cap : Nat} {ws : List Int} {h : HpN} {r t : Int} (c : Col w0 bc bw N cap ws h r t W) (x : Int) : Col w0 bc bw N cap ws { h with fb := x } r t (W.setCell ⟨bc, 6, none⟩ (.int .i64 x)) :=
  ⟨by simpa [ColBlk] using set_block c.blk 6 (.int .i64 x), c.row.of_block (Below.heap_setCell _ _ _ _ (fun e => c.ne e.symm)), c.len, c.ne, c.frame.set (Or.inl rfl) _⟩

theorem Col.ftSet {w0 W : World} {bc bw N cap : Nat} {ws : List Int} {h : HpN} {r t : Int} (c : Col w0 bc bw N cap ws h r t W) (x : Int) : Col w0 bc bw N cap ws { h with ft := x } r t (W.setCell ⟨bc, 7, none⟩ (.int .i64 x)) :=
  ⟨by simpa [ColBlk] using set_block c.blk 7 (.int .i64 x), c.row.of_block (Below.heap_setCell _ _ _ _ (fun e => c.ne e.symm)), c.len, c.ne, c.frame.set (Or.inl rfl) _⟩

theorem Col.flipsSet {w0 W : World} {bc bw N cap : Nat} {ws : List Int} {h : HpN} {r t : Int} (c : Col w0 bc bw N cap ws h r t W) (x : Int) : Col w0 bc bw N cap ws { h with flips := x } r t (W.setCell ⟨bc, 8, none⟩ (.int .i64 x)) :=
  ⟨by simpa [ColBlk] using set_block c.blk 8 (.int .i64 x), c.row.of_block (Below.heap_setCell _ _ _ _ (fun e => c.ne e.symm)), c.len, c.ne, c.frame.set (Or.inl rfl) _⟩

set_option maxHeartbeats 4000000 in
set_option maxRecDepth 100000 in
/-- The spaces change; then whatever list is moved. -/
theorem change_any {w0 W : World} {bc bw N cap : Nat} (s : CN) (c : ColAt w0 bc bw N cap s W) (h0 : 0 ≤ s.h.to) (h1 : s.h.to ≤ s.h.size) (h2 : s.h.size ≤ 4000) (v : Value) (Q : Bool → World → Prop)
    (hMA : ∀ X, ColAt X bc bw N cap { s with h := flipH s.h } X → Frm W bc bw X → Calls Try.prog 71 #[.pointer (some ⟨bc, 0, none⟩), v] X fun e w' => ∃ b, e = .returned (.bool b) ∧ Q b w') :
    Calls Try.prog 48 #[.pointer (some ⟨bc, 0, none⟩), v] W fun e w' => ∃ b, e = .returned (.bool b) ∧ Q b w' := by
  have HC := hid (Col.rebase c W (Frm.refl _ _ _))
  have HMA := hid hMA
  obtain ⟨c0, c1, c2, c3, c4, c5, c6, c7, c8, c9, c10, c11⟩ := c.blk.cells
  have hOt := hid (fun w => other_calls (.slice (some ⟨bw, 0, none⟩) N cap) { s.h with fb := s.h.bottom, ft := s.h.top } w h0 (show s.h.to ≤ 4000 by omega) (show 0 ≤ s.h.size by omega) h2)
  clear c hMA
  obtain ⟨ws, ⟨g1, g2, g3, g4, g5, g6, g7, g8, g9⟩, r, t⟩ := s
  unfold heapV at hOt
  dsimp only at *
  have f2 := frozen_of_heap HC.out.blk 2
  have f3 := frozen_of_heap HC.out.blk 3
  have f4 := frozen_of_heap HC.out.blk 4
  have f5 := frozen_of_heap HC.out.blk 5
  have f6 := frozen_of_heap HC.out.blk 6
  have f7 := frozen_of_heap HC.out.blk 7
  have f8 := frozen_of_heap HC.out.blk 8
  go_enter Try.func48, Try.ntmps48
  go_wp2_with fail
  go_region_held3 (fun w' => w'.cell? ⟨bc, 3, none⟩ = some (.int .i64 g3) ∧ w'.cell? ⟨bc, 4, none⟩ = some (.int .i64 g4)) (first | (refine ⟨(cell_off _ _ (by decide) _).trans c3, (cell_off _ _ (by decide) _).trans c4⟩) | (refine ⟨(cell_off _ _ (by decide) _).trans ((cell_off _ _ (by decide) _).trans c3), (cell_off _ _ (by decide) _).trans ((cell_off _ _ (by decide) _).trans c4)⟩) | (simp [*]; done)) (fail)
  have HC1 := hid (((HC.out.fbSet g3).ftSet g4).keep (Below.refl _ _).drew)
  generalize ((W.setCell ⟨bc, 6, none⟩ (.int .i64 g3)).setCell ⟨bc, 7, none⟩ (.int .i64 g4)).drew = W1 at *
  dsimp only at HC1
  obtain ⟨d0, d1, d2, d3, d4, d5, d6, d7, d8, d9, d10, d11⟩ := HC1.out.blk.cells
  dsimp only at d0 d1 d2 d3 d4 d5 d6 d7 d8 d9
  clear c0 c1 c2 c3 c4 c5 c6 c7 c8 c9 c10 c11 f2 f3 f4 f5 f6 f7 f8 HC
  go_wp2_with fail
  refine (hOt.out _).mono ?_
  rintro e W2 ⟨rfl, hb2⟩
  have HC2 := hid (HC1.out.keep hb2)
  have f2 := frozen_of_heap HC2.out.blk 2
  have d2' := HC2.out.blk.cells.2.2.1
  have d1' := HC2.out.blk.cells.2.1
  have HC3 := hid (HC2.out.toSet (g1 - g2))
  have d1b := HC3.out.blk.cells.2.1
  have d2b := HC3.out.blk.cells.2.2.1
  have f3 := frozen_of_heap HC3.out.blk 3
  have f4 := frozen_of_heap HC3.out.blk 4
  have f5 := frozen_of_heap HC3.out.blk 5
  have d3b := HC3.out.blk.cells.2.2.2.1
  have d4b := HC3.out.blk.cells.2.2.2.2.1
  have d5b := HC3.out.blk.cells.2.2.2.2.2.1
  dsimp only at d1' d2' d1b d2b d3b d4b d5b
  clear hb2 HC1 HC2 hOt d0 d1 d2 d3 d4 d5 d6 d7 d8 d9 d10 d11
  go_wp2_with fail
  generalize W2.setCell ⟨bc, 2, none⟩ (.int .i64 (g1 - g2)) = W3 at *
  go_region_held3 (fun w' => w'.cell? ⟨bc, 1, none⟩ = some (.int .i64 g1) ∧ w'.cell? ⟨bc, 2, none⟩ = some (.int .i64 (g1 - g2))) (first | (refine ⟨d1b, d2b⟩) | (refine ⟨(cell_off _ _ (by decide) _).trans (d1b), (cell_off _ _ (by decide) _).trans (d2b)⟩) | (refine ⟨(cell_off _ _ (by decide) _).trans ((cell_off _ _ (by decide) _).trans (d1b)), (cell_off _ _ (by decide) _).trans ((cell_off _ _ (by decide) _).trans (d2b))⟩) | (refine ⟨(cell_off _ _ (by decide) _).trans ((cell_off _ _ (by decide) _).trans ((cell_off _ _ (by decide) _).trans (d1b))), (cell_off _ _ (by decide) _).trans ((cell_off _ _ (by decide) _).trans ((cell_off _ _ (by decide) _).trans (d2b)))⟩) | (simp [*]; done)) (fail)
  have hw : IntKind.i64.wrap (g1 - g2 + g1) = g1 - g2 + g1 := by
    rw [IntKind.wrap_i64]
    omega
  rw [hw]
  have HC4 := hid ((((HC3.out.bottom (g1 - g2)).scanned (g1 - g2)).topSet (g1 - g2 + g1)).keep (Below.refl _ _).drew)
  generalize (((W3.setCell ⟨bc, 3, none⟩ (.int .i64 (g1 - g2))).setCell ⟨bc, 5, none⟩ (.int .i64 (g1 - g2))).setCell ⟨bc, 4, none⟩ (.int .i64 (g1 - g2 + g1))).drew = W4 at *
  have d8 := HC4.out.blk.cells.2.2.2.2.2.2.2.2.1
  have f8 := frozen_of_heap HC4.out.blk 8
  have HC5 := hid (HC4.out.flipsSet (wrap64 (g8 + 1)))
  dsimp only at d8 HC5
  clear HC3 HC4 hw d1b d2b d3b d4b d5b d1' d2' f2 f3 f4 f5
  go_wp2_with fail
  refine (HMA.out _ (HC5.out.rebase _ (Frm.refl _ _ _)) HC5.out.frame).mono ?_
  rintro e W6 ⟨b, rfl, hP⟩
  have HP := hid hP
  clear hP HMA HC5
  go_wp2_with fail
  go_ret
  exact ⟨b, rfl, HP.out⟩

theorem MovesPost.from {W X w' : World} {bc bw N cap g n : Nat} {o : Option (List Int × CN)} {e : Ending} (f : Frm W bc bw X) (h : MovesPost X bc bw N cap g n o e w') : MovesPost W bc bw N cap g n o e w' := by
  cases o with
  | none =>
    obtain ⟨h1, h2, h3⟩ := h
    exact ⟨h1, h2, ((Frm3.refl _ _ _ _).step f).trans h3⟩
  | some p =>
    obtain ⟨ys, s⟩ := p
    obtain ⟨h1, h2, h3, h4⟩ := h
    exact ⟨h1, h2, h3, ((Frm3.refl _ _ _ _).step f).trans h4⟩

theorem MovesPost.bool {W w' : World} {bc bw N cap g n : Nat} {o : Option (List Int × CN)} {e : Ending} (h : MovesPost W bc bw N cap g n o e w') : ∃ b, e = .returned (.bool b) := by
  cases o with
  | none => exact ⟨_, h.1⟩
  | some p => exact ⟨_, h.1⟩

theorem change_calls {w0 W : World} {bc bw N cap g n gcap : Nat} {S : List Int} (s : CN) (c : ColAt w0 bc bw N cap s W) (h0 : 0 ≤ s.h.to) (h1 : s.h.to ≤ s.h.size) (h2 : s.h.size ≤ 4000) (hs : Mvs S N 0 { s with h := flipH s.h }) (xs : List Int) (hl : xs.length = n) (hn : n ≤ 20) (hg1 : g ≠ bc) (hg2 : g ≠ bw) (hr : CellRow 3 W g n (intCells xs)) (ha : ∀ i, i < xs.length → Aim S (flipH s.h) N (xs.getD i 0)) :
    Calls Try.prog 48 #[.pointer (some ⟨bc, 0, none⟩), .slice (some ⟨g, 0, none⟩) n gcap] W (MovesPost W bc bw N cap g n (movesRun xs n { s with h := flipH s.h })) := by
  refine (change_any s c h0 h1 h2 (.slice (some ⟨g, 0, none⟩) n gcap) (fun b w' => MovesPost W bc bw N cap g n (movesRun xs n { s with h := flipH s.h }) (.returned (.bool b)) w') (fun X hX hf => ?_)).mono ?_
  · refine (moveAll_calls (gcap := gcap) { s with h := flipH s.h } hX hs xs hl (by omega) hg1 hg2 (hr.of_block (hf.block g hr.lt hg1 hg2)) ha).mono ?_
    intro e w' hP
    obtain ⟨b, rfl⟩ := hP.bool
    exact ⟨b, rfl, hP.from hf⟩
  · rintro e w' ⟨b, rfl, hP⟩
    exact hP

set_option maxRecDepth 100000 in
theorem moveAll_none {w0 W : World} {bc bw N cap c : Nat} {ad : Option Addr} {s : CN} (_hc : ColAt w0 bc bw N cap s W) :
    Calls Try.prog 71 #[.pointer (some ⟨bc, 0, none⟩), .slice ad 0 c] W fun e w' => e = .returned (.bool true) ∧ W = w' := by
  go_enter Try.func71, Try.ntmps71
  go_wp2_with fail
  refine wp_loop_rounds 1 ?_
  rw [rounds_succ]
  go_wp2_with fail
  go_ret
  exact ⟨rfl, rfl⟩
end Go.Proofs.Ytebpgglegnljgaa
