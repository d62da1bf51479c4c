/- The specification changes the spaces and moves words. -/
import Derived.Test.YtnoobonlmfgfhaaSpecScanRFlip
import Derived.Test.YtnoobonlmfgfhaaImplFlipRFlip
namespace Go.Proofs.Ytnoobonlmfgfhaa
open Go.RowKit

set_option maxRecDepth 100000 in
theorem sread_full {w0 W : World} {bm bw N cap : Nat} {s : CN} (c : Wk w0 bm bw N cap s true W) (i : Int) :
    Calls Try.prog 81 #[.pointer (some ⟨bm, 0, none⟩), .int .i64 i] W fun e w' => e = .returned (.int .i64 3) ∧ W = w' := by
  obtain ⟨-, -, -, -, -, -, -, -, -, -, c10⟩ := c.blk.cells
  have HMk := hid (fun w => specMake_calls 3 0 w)
  have HMz : Hid (makeZ 3 0 = 3) := by show _ = _; simp [makeZ, wrap64]
  rw [HMz.out] at HMk
  clear c
  go_enter Try.func81, Try.ntmps81
  go_wp2_with fail
  refine (HMk.out _).mono ?_
  rintro e w1 ⟨rfl, rfl⟩
  go_wp2_with fail
  go_ret
  exact ⟨rfl, rfl⟩

set_option maxHeartbeats 2000000 in
set_option maxRecDepth 100000 in
/-- Where there is no room any more a move changes nothing. -/
theorem smove_dead {w0 W : World} {bm bw N cap : Nat} {s : CN} (c : Wk w0 bm bw N cap s true W) (x : Int) (h0 : 0 ≤ s.h.to) (h1 : s.h.to ≤ s.h.size) (h3 : s.h.size ≤ 4000) (hb0 : 0 ≤ s.h.bottom) (hbt : s.h.bottom ≤ s.h.top) (hN : s.h.top ≤ 8000) :
    Calls Try.prog 71 #[.pointer (some ⟨bm, 0, none⟩), .int .i64 x] W fun e w' => (∃ z : Int, e = .returned (.int .i64 z)) ∧ Wk w0 bm bw N cap s true w' := by
  have HIo := hid (here_calls c x h0 (by omega) (by omega) h3)
  have HC := hid c
  clear c
  cases hh : hereZ s.h x with
  | true =>
    rw [hh] at HIo
    go_enter Try.func71, Try.ntmps71
    go_wp2_with fail
    refine HIo.out.mono ?_
    rintro e W1 ⟨rfl, hb1⟩
    have HC1 := hid (HC.out.keep hb1)
    clear hb1 HIo
    go_wp2_with fail
    go_ret
    exact ⟨⟨_, rfl⟩, HC1.out⟩
  | false =>
    rw [hh] at HIo
    have HNum := hid (fun w => specNum_calls x w)
    unfold numZ at HNum
    have HMk := hid (fun (y : Int) w => specMake_calls 0 y w)
    go_enter Try.func71, Try.ntmps71
    go_wp2_with fail
    refine HIo.out.mono ?_
    rintro e W1 ⟨rfl, hb1⟩
    have HC1 := hid (HC.out.keep hb1)
    have HRd := hid (fun i => sread_full HC1.out i)
    clear hb1 HIo HC
    go_wp2_with fail
    refine (HNum.out _).mono ?_
    rintro e W2 ⟨rfl, rfl⟩
    go_wp2_with fail
    refine (HRd.out _).mono ?_
    rintro e W3 ⟨rfl, rfl⟩
    obtain ⟨-, -, -, c3, c4, -, -, -, -, -, -⟩ := HC1.out.blk.cells
    have f3 := frozen_of_heap HC1.out.blk 3
    have hk : bits .and .i64 3 15 = 3 := rfl
    have HWr := hid (fun nq i y => swrite_full (HC1.out.keep (below_drewN (Below.refl _ _) nq)) i y)
    have HBs := hid (fun nq => (HC1.out.keep (below_drewN (Below.refl _ _) nq)).bottom s.h.bottom)
    generalize hbt' : s.h.bottom = bt at *
    generalize s.h.top = tp at *
    go_wp2_with fail
    go_quiet (fail)
    have HWr' := hid (HWr.out nq)
    have HBs' := hid (HBs.out nq)
    have c3' : (W1.drewN nq).cell? ⟨bm, 3, none⟩ = some (.int .i64 bt) := c3
    have f3' : (W1.drewN nq).frozen? ⟨bm, 3, none⟩ = false := f3
    clear HWr HBs c3 c4 f3 HRd HC1
    generalize W1.drewN nq = W4 at *
    go_wp2_with fail
    refine (HWr'.out _ _).mono ?_
    rintro e W5 ⟨rfl, rfl⟩
    go_wp2_with fail
    refine wp_loop_rounds 1 ?_
    rw [rounds_succ]
    have HS5 : Hid (Wk w0 bm bw N cap s true (W4.setCell ⟨bm, 3, none⟩ (.int .i64 bt))) := by
      have e := HBs'.out
      rw [← hbt'] at e ⊢
      exact e
    have HWs := hid (fun i y => swrite_full HS5.out i y)
    clear HBs'
    go_wp2_with fail
    refine (HWs.out _ _).mono ?_
    rintro e W6 ⟨rfl, rfl⟩
    go_wp2_with fail
    refine (HMk.out _ _).mono ?_
    rintro e W7 ⟨rfl, rfl⟩
    go_wp2_with fail
    refine (HWs.out _ _).mono ?_
    rintro e W8 ⟨rfl, rfl⟩
    go_wp2_with fail
    refine (HMk.out _ _).mono ?_
    rintro e W9 ⟨rfl, rfl⟩
    go_wp2_with fail
    go_ret
    exact ⟨⟨_, rfl⟩, HS5.out⟩

theorem Wk.beside {w0 W : World} {bm bw N cap g : Nat} {s : CN} {full : Bool} (c : Wk w0 bm bw N cap s full W) (h1 : g ≠ bm) (h2 : g ≠ bw) (i : Nat) (x : Value) : Wk (W.setCell ⟨g, i, none⟩ x) bm bw N cap s full (W.setCell ⟨g, i, none⟩ x) :=
  ⟨(Below.heap_setCell _ _ _ _ (fun e => h1 e.symm)).trans c.blk, c.row.of_block (Below.heap_setCell _ _ _ _ (fun e => h2 e.symm)), c.len, c.ne, Frm.refl _ _ _⟩

/-- What is known of the numbers where there is no room any more. -/
def FullOk (s : CN) : Prop := 0 ≤ s.h.to ∧ s.h.to ≤ s.h.size ∧ s.h.size ≤ 4000 ∧ 0 ≤ s.h.bottom ∧ s.h.bottom ≤ s.h.top ∧ s.h.top ≤ 8000

/-- What moving a list comes to on the specification's side. -/
def SMovesPost (W : World) (bm bw N cap g n : Nat) (o : Option (List Int × CN)) (e : Ending) (w' : World) : Prop :=
  e = .returned (.tuple #[]) ∧ Frm3 W bm bw g w' ∧ match o with
  | some (ys, s) => Wk w' bm bw N cap s false w' ∧ CellRow 3 w' g n (intCells ys)
  | none => (∃ s, Wk w' bm bw N cap s true w' ∧ FullOk s) ∧ ∃ ys : List Int, ys.length = n ∧ CellRow 3 w' g n (intCells ys)

theorem Wk.toSet {w0 W : World} {bm bw N cap : Nat} {s : CN} {full : Bool} (c : Wk w0 bm bw N cap s full W) (x : Int) : Wk w0 bm bw N cap { s with h := { s.h with to := x } } full (W.setCell ⟨bm, 2, none⟩ (.int .i64 x)) :=
  ⟨by simpa [WkBlk, touchZ] using set_block c.blk 2 (.int .i64 x), c.row.of_block (Below.heap_setCell _ _ _ _ (fun e => c.ne e.symm)), c.len, c.ne, c.frame.set (Or.inl rfl) _⟩

theorem Wk.topSet {w0 W : World} {bm bw N cap : Nat} {s : CN} {full : Bool} (c : Wk w0 bm bw N cap s full W) (x : Int) : Wk w0 bm bw N cap { s with h := { s.h with top := x } } full (W.setCell ⟨bm, 4, none⟩ (.int .i64 x)) :=
  ⟨by simpa [WkBlk, touchZ] using set_block c.blk 4 (.int .i64 x), c.row.of_block (Below.heap_setCell _ _ _ _ (fun e => c.ne e.symm)), c.len, c.ne, c.frame.set (Or.inl rfl) _⟩

theorem Wk.fbSet {w0 W : World} {bm bw N cap : Nat} {s : CN} {full : Bool} (c : Wk w0 bm bw N cap s full W) (x : Int) : Wk w0 bm bw N cap { s with h := { s.h with fb := x } } full (W.setCell ⟨bm, 6, none⟩ (.int .i64 x)) :=
  ⟨by simpa [WkBlk, touchZ] using set_block c.blk 6 (.int .i64 x), c.row.of_block (Below.heap_setCell _ _ _ _ (fun e => c.ne e.symm)), c.len, c.ne, c.frame.set (Or.inl rfl) _⟩

theorem Wk.ftSet {w0 W : World} {bm bw N cap : Nat} {s : CN} {full : Bool} (c : Wk w0 bm bw N cap s full W) (x : Int) : Wk w0 bm bw N cap { s with h := { s.h with ft := x } } full (W.setCell ⟨bm, 7, none⟩ (.int .i64 x)) :=
  ⟨by simpa [WkBlk, touchZ] using set_block c.blk 7 (.int .i64 x), c.row.of_block (Below.heap_setCell _ _ _ _ (fun e => c.ne e.symm)), c.len, c.ne, c.frame.set (Or.inl rfl) _⟩

theorem Wk.flipsSet {w0 W : World} {bm bw N cap : Nat} {s : CN} {full : Bool} (c : Wk w0 bm bw N cap s full W) (x : Int) : Wk w0 bm bw N cap { s with h := { s.h with flips := x } } full (W.setCell ⟨bm, 8, none⟩ (.int .i64 x)) :=
  ⟨by simpa [WkBlk, touchZ] using set_block c.blk 8 (.int .i64 x), c.row.of_block (Below.heap_setCell _ _ _ _ (fun e => c.ne e.symm)), c.len, c.ne, c.frame.set (Or.inl rfl) _⟩

set_option maxHeartbeats 4000000 in
set_option maxRecDepth 100000 in
theorem sflip_calls {w0 W : World} {bm bw N cap g n gcap : Nat} {S : List Int} {s : CN} (c : Wk w0 bm bw N cap s false W) (h0 : 0 ≤ s.h.to) (h1 : s.h.to ≤ s.h.size) (h2 : s.h.size ≤ 4000) (hs : Mvs S N 0 { s with h := flipH s.h }) (xs : List Int) (hl : xs.length = n) (hn : n ≤ 20) (hg1 : g ≠ bm) (hg2 : g ≠ bw) (hr : CellRow 3 W g n (intCells xs)) (ha : ∀ i, i < xs.length → Aim S (flipH s.h) N (xs.getD i 0)) :
    Calls Try.prog 58 #[.pointer (some ⟨bm, 0, none⟩), .slice (some ⟨g, 0, none⟩) n gcap] W (SMovesPost W bm bw N cap g n (movesRun xs n { s with h := flipH s.h })) := by
  have HC := hid (Wk.rebase c W (Frm.refl _ _ _))
  have HRw := hid hr
  have HMv := hid (movesRun_mvs hs ha)
  obtain ⟨R, hR⟩ : ∃ R, movesRun xs n { s with h := flipH s.h } = R := ⟨_, rfl⟩
  rw [hR]
  have HR := hid hR
  have HL := hid hl
  have HG1 := hid hg1
  have HG2 := hid hg2
  have HNn := hid hn
  obtain ⟨c0, c1, c2, c3, c4, c5, c6, c7, c8, c9, c10⟩ := c.blk.cells
  have hFr := hid (fun w => specFrom_calls (.slice (some ⟨bw, 0, none⟩) N cap) { s.h with touched := touchZ s } w h0 (show s.h.to ≤ 4000 by omega) (show 0 ≤ s.h.size by omega) h2)
  have f2 := frozen_of_heap HC.out.blk 2
  have f3 := frozen_of_heap HC.out.blk 3
  have f4 := frozen_of_heap HC.out.blk 4
  have f5 := frozen_of_heap HC.out.blk 5
  have f6 := frozen_of_heap HC.out.blk 6
  have f7 := frozen_of_heap HC.out.blk 7
  have f8 := frozen_of_heap HC.out.blk 8
  clear c hr hR hs ha hl hg1 hg2 hn
  obtain ⟨ws, ⟨g1, g2, g3, g4, g5, g6, g7, g8, g9⟩, r, t⟩ := s
  unfold heapV at hFr
  dsimp only at *
  generalize hTau : touchZ ⟨ws, ⟨g1, g2, g3, g4, g5, g6, g7, g8, g9⟩, r, t⟩ = tau at hFr c9
  clear hTau
  go_enter Try.func58, Try.ntmps58
  go_wp2_with fail
  refine (hFr.out _).mono ?_
  rintro e W1 ⟨rfl, hb1⟩
  have HC1 := hid (HC.out.keep hb1)
  have HC2 := hid (((((((HC1.out.fbSet g3).ftSet g4).toSet (g1 - g2)).bottom (g1 - g2)).scanned (g1 - g2)).topSet (g1 - g2 + g1)).flipsSet (wrap64 (g8 + 1)))
  clear c0 c1 c2 c3 c4 c5 c6 c7 c8 c9 c10 f2 f3 f4 f5 f6 f7 f8 hb1 hFr HC
  obtain ⟨-, c1, c2, c3, c4, c5, c6, c7, c8, -, -⟩ := HC1.out.blk.cells
  have f2 := frozen_of_heap HC1.out.blk 2
  have f3 := frozen_of_heap HC1.out.blk 3
  have f4 := frozen_of_heap HC1.out.blk 4
  have f5 := frozen_of_heap HC1.out.blk 5
  have f6 := frozen_of_heap HC1.out.blk 6
  have f7 := frozen_of_heap HC1.out.blk 7
  have f8 := frozen_of_heap HC1.out.blk 8
  dsimp only at c1 c2 c3 c4 c5 c6 c7 c8 HC2
  clear HC1
  go_wp2_with fail
  have HC3 : Hid (Wk _ bm bw N cap ⟨ws, flipH ⟨g1, g2, g3, g4, g5, g6, g7, g8, g9⟩, r, t⟩ false _) := HC2.out
  have HRw3 := hid (HRw.out.of_block (HC3.out.frame.block g HRw.out.lt HG1.out HG2.out))
  have HF3 := hid ((Frm3.refl W bm bw g).step HC3.out.frame)
  have HC4 := hid (HC3.out.rebase _ (Frm.refl _ _ _))
  clear HC2 HC3 HRw c1 c2 c3 c4 c5 c6 c7 c8 f2 f3 f4 f5 f6 f7 f8
  generalize (((((((W1.setCell ⟨bm, 6, none⟩ (.int .i64 g3)).setCell ⟨bm, 7, none⟩ (.int .i64 g4)).setCell ⟨bm, 2, none⟩ (.int .i64 (g1 - g2))).setCell ⟨bm, 3, none⟩ (.int .i64 (g1 - g2))).setCell ⟨bm, 5, none⟩ (.int .i64 (g1 - g2))).setCell ⟨bm, 4, none⟩ (.int .i64 (g1 - g2 + g1))).setCell ⟨bm, 8, none⟩ (.int .i64 (wrap64 (g8 + 1)))) = W2 at *
  generalize (⟨ws, flipH ⟨g1, g2, g3, g4, g5, g6, g7, g8, g9⟩, r, t⟩ : CN) = s1 at *
  go_loopw [5] (fun i wr => ∃ (ii : Int) (k : Nat), i = .int .i64 ii ∧ Hid (ii = (k : Int) ∧ k ≤ n) ∧ Hid (Frm3 W bm bw g wr) ∧ ((∃ ys s', Hid (movesRun xs k s1 = some (ys, s')) ∧ Hid (Wk wr bm bw N cap s' false wr) ∧ Hid (CellRow 3 wr g n (intCells ys))) ∨ (Hid (movesRun xs k s1 = none) ∧ (∃ s', Hid (Wk wr bm bw N cap s' true wr) ∧ Hid (0 ≤ s'.h.to ∧ s'.h.to ≤ s'.h.size ∧ s'.h.size ≤ 4000 ∧ 0 ≤ s'.h.bottom ∧ s'.h.bottom ≤ s'.h.top ∧ s'.h.top ≤ 8000)) ∧ ∃ ys : List Int, Hid (ys.length = n) ∧ Hid (CellRow 3 wr g n (intCells ys))))) (fun i _ => n - (intOf i).toNat)
  case atStart => exact ⟨0, 0, rfl, ⟨rfl, by omega⟩, HF3.out, Or.inl ⟨xs, s1, rfl, HC4.out, HRw3.out⟩⟩
  case round =>
    obtain ⟨ii, k, rfl, HQ, HF, hcase⟩ := hrel
    clear HC4 HRw3 HF3
    have hi0 : 0 ≤ ii := by have := HQ.out; omega
    by_cases hlt : ii < (n : Int)
    · have hkn : k < n := by have := HQ.out; omega
      have hik : ii.toNat = k := by have := HQ.out; omega
      have hw : Hid (wrap64 (ii + 1) = ii + 1) := by have := HQ.out; have := HNn.out; show _ = _; unfold wrap64; omega
      have hs : Hid (n - (intOf (.int .i64 (ii + 1))).toNat < n - (intOf (.int .i64 ii)).toNat) := by show _ < _; simp only [intOf]; have := HQ.out; omega
      rcases hcase with ⟨ys, s', HK, HI, HRo⟩ | ⟨HK, ⟨s', HI, HB⟩, ys, HLy, HRo⟩
      · obtain ⟨m1, m2, m3⟩ := HMv.out k (by have := HL.out; omega) ys s' HK.out
        obtain ⟨e1, e2⟩ := m3 k (Nat.le_refl _) (by have := HL.out; omega)
        rw [← e1] at e2
        have hm2 := m1.step e2
        obtain ⟨k2, k3, k4, k5, k6, k7, k8, k9, k10, k11, k12⟩ := m1.asks (by have := HNn.out; omega) e2
        have HMo := hid (smove_calls HI.out (ys.getD k 0) k2 k3 k4 k5 k6 k7 k8 k11 k12)
        have q0 := HRo.out.cell (i := k) hkn
        unfold intCells at q0
        have HLy : Hid (ys.length = n) := m2.trans HL.out
        obtain ⟨o, s2, hz⟩ : ∃ o s2, moveZ s' (ys.getD k 0) = (o, s2) := ⟨_, _, rfl⟩
        rw [hz] at HMo hm2
        have HZ := hid hz
        have HN2 := hid hm2.1.nums
        clear hz m1 m2 m3 e1 e2 k2 k3 k4 k5 k6 k7 k8 k9 k10 k11 k12 hm2
        go_wp2_with fail
        refine HMo.out.mono ?_
        rintro e W4 ⟨rfl, hC4⟩
        have HC4 := hid hC4
        have hblk := hC4.frame.block g HRo.out.lt HG1.out HG2.out
        have HRo4 := hid (HRo.out.of_block hblk)
        have q0' : W4.cell? ⟨g, k, none⟩ = some (.int .i64 (ys.getD k 0)) := (World.cell?_of_block (w := wr) hblk).trans q0
        obtain ⟨_, _, hrow, _, _⟩ := HRo4.out
        have q1' := hrow.frozen k hkn
        clear hC4 HMo q0 hrow hblk
        cases o with
        | some y =>
          dsimp only [smoveV]
          go_wp2_with fail
          rw [hw.out]
          exact ⟨⟨ii + 1, k + 1, rfl, ⟨by have := HQ.out; push_cast; omega, by omega⟩, (HF.out.step HC4.out.frame).set k _, Or.inl ⟨ys.set k y, s2, movesRun_more HK.out HZ.out, HC4.out.beside HG1.out HG2.out k _, row_set HRo4.out HLy.out hkn y⟩⟩, hs.out⟩
        | none =>
          dsimp only [smoveV]
          have HSt := hid (movesRun_stop HK.out HZ.out)
          have HBd : Hid (0 ≤ s2.h.to ∧ s2.h.to ≤ s2.h.size ∧ s2.h.size ≤ 4000 ∧ 0 ≤ s2.h.bottom ∧ s2.h.bottom ≤ s2.h.top ∧ s2.h.top ≤ 8000) := by
            have o1 := HN2.out.s0
            have o2 := HN2.out.s1
            have o4 := HN2.out.to
            have o5 := HN2.out.b0
            have o6 := HN2.out.bt
            have o7 := HN2.out.te
            exact ⟨by omega, by omega, o2, by omega, o6, by omega⟩
          clear HZ
          generalize ys.getD k 0 = y at *
          go_wp2_with fail
          rw [hw.out]
          exact ⟨⟨ii + 1, k + 1, rfl, ⟨by have := HQ.out; push_cast; omega, by omega⟩, (HF.out.step HC4.out.frame).set k _, Or.inr ⟨HSt.out, ⟨s2, HC4.out.beside HG1.out HG2.out k _, HBd.out⟩, ys.set k y, by show _ = _; rw [List.length_set]; exact HLy.out, row_set HRo4.out HLy.out hkn y⟩⟩, hs.out⟩
      · obtain ⟨b1, b2, b3, b4, b5, b6⟩ := HB.out
        have HMo := hid (smove_dead HI.out (ys.getD k 0) b1 b2 b3 b4 b5 b6)
        have q0 := HRo.out.cell (i := k) hkn
        unfold intCells at q0
        clear b1 b2 b3 b4 b5 b6
        generalize ys.getD k 0 = x at *
        go_wp2_with fail
        refine HMo.out.mono ?_
        rintro e W4 ⟨⟨y, rfl⟩, hC4⟩
        have HC4 := hid hC4
        have hblk := hC4.frame.block g HRo.out.lt HG1.out HG2.out
        have HRo4 := hid (HRo.out.of_block hblk)
        have q0' : W4.cell? ⟨g, k, none⟩ = some (.int .i64 x) := (World.cell?_of_block (w := wr) hblk).trans q0
        obtain ⟨_, _, hrow, _, _⟩ := HRo4.out
        have q1' := hrow.frozen k hkn
        clear hC4 HMo q0 hrow hblk
        go_wp2_with fail
        rw [hw.out]
        exact ⟨⟨ii + 1, k + 1, rfl, ⟨by have := HQ.out; push_cast; omega, by omega⟩, (HF.out.step HC4.out.frame).set k _, Or.inr ⟨movesRun_none HK.out 1, ⟨s', HC4.out.beside HG1.out HG2.out k _, HB.out⟩, ys.set k y, by show _ = _; rw [List.length_set]; exact HLy.out, row_set HRo4.out HLy.out hkn y⟩⟩, hs.out⟩
    · have hkn : k = n := by have := HQ.out; omega
      rcases hcase with ⟨ys, s', HK, HI, HRo⟩ | ⟨HK, ⟨s', HI, HB⟩, ys, HLy, HRo⟩
      · have HFi : Hid (R = some (ys, s')) := by have h := HK.out; rw [hkn, HR.out] at h; exact h
        go_wp2_with fail
        go_end0
        rw [HFi.out]
        exact ⟨rfl, HF.out, HI.out, HRo.out⟩
      · have HFi : Hid (R = none) := by have h := HK.out; rw [hkn, HR.out] at h; exact h
        go_wp2_with fail
        go_end0
        rw [HFi.out]
        exact ⟨rfl, HF.out, ⟨s', HI.out, HB.out⟩, ys, HLy.out, HRo.out⟩
end Go.Proofs.Ytnoobonlmfgfhaa
