/- The program lays a heap out. -/
import Derived.Test.YtebpgglegnljgaaGrpMQ0
import Derived.Test.YtebpgglegnljgaaHeapVal
import Derived.OpenShut
import Derived.Test.YtebpgglegnljgaaStagesC
import Derived.Maps.AppendAt
import Derived.BigQuiet
import Derived.Test.YtebpgglegnljgaaHeapFacts
import Derived.Deep.Cut
import Derived.Deep.CutRange
import Derived.Test.YtebpgglegnljgaaSpecWkA
import Derived.Test.YtebpgglegnljgaaSpecHeapE
import Derived.Test.YtebpgglegnljgaaImplHeapA
import Derived.Test.YtebpgglegnljgaaSpecWkBD
import Derived.Test.YtebpgglegnljgaaImplHeapQ
import Derived.Test.YtebpgglegnljgaaCalm
namespace Go.Proofs.Ytebpgglegnljgaa
open Go.RowKit

set_option maxHeartbeats 8000000 in
set_option maxRecDepth 1000000 in
theorem layOut_calls (b off cap N : Nat) (ws : List Int) (h : HpN) (w : World) (hN : ws.length = N) (ho : Ordered h N) (hcap : N ≤ cap)
    (hb : b < w.heap.size) (hw : ∀ k, k < N → w.cell? ⟨b, off + k, none⟩ = some (.int .i64 (ws.getD k 0))) :
    Calls Try.prog 30 #[heapV (.slice (some ⟨b, off, none⟩) N cap) h] w (LayTold b off cap N ws h w) := by
  have HOr := hid (fun w => ordered_calls (some ⟨b, off, none⟩) N cap h w)
  rw [decide_eq_true ho] at HOr
  have HO := hid ho
  have HW := hid hw
  have HN := hid hN
  have HCap := hid hcap
  have hN8 : N ≤ 8000 := by obtain ⟨o1, o2, o3, _⟩ := ho; omega
  have hmk := run_make_row' (P := Try.prog) 23 3 (.int .i64 0) 8 Try.underlying23 info_int rfl .i64 .i64 N (by omega) (by omega)
  clear ho hw hN hcap
  obtain ⟨g1, g2, g3, g4, g5, g6, g7, g8, g9⟩ := h
  unfold heapV at *
  dsimp only at *
  go_enter Try.func30, Try.ntmps30
  go_wp2_with fail
  refine (HOr.out _).mono ?_
  rintro e W1 ⟨rfl, hb1⟩
  obtain ⟨eA, eB, hbw⟩ := two_kept hb1
  obtain ⟨c0, c1, c2, c3, c4, c5, c6, c7, c8, c9⟩ := HeapBlk.cells (h := ⟨g1, g2, g3, g4, g5, g6, g7, g8, g9⟩) eA
  dsimp only at c0 c1 c2 c3 c4 c5 c6 c7 c8 c9
  have hz1 : w.heap.size < W1.heap.size := heap_lt eA
  go_wp2_with fail
  rename_i K1 hK1
  go_region_held3 (fun w' => w'.cell? ⟨w.heap.size, 0, none⟩ = some (.slice (some ⟨b, off, none⟩) N cap) ∧ w'.cell? ⟨w.heap.size, 1, none⟩ = some (.int .i64 g1) ∧ w'.cell? ⟨w.heap.size, 2, none⟩ = some (.int .i64 g2) ∧ w'.cell? ⟨w.heap.size, 3, none⟩ = some (.int .i64 g3) ∧ w'.cell? ⟨w.heap.size, 4, none⟩ = some (.int .i64 g4) ∧ w'.cell? ⟨w.heap.size, 5, none⟩ = some (.int .i64 g5) ∧ w'.cell? ⟨w.heap.size, 6, none⟩ = some (.int .i64 g6) ∧ w'.cell? ⟨w.heap.size, 7, none⟩ = some (.int .i64 g7) ∧ w'.cell? ⟨w.heap.size, 8, none⟩ = some (.int .i64 g8) ∧ w'.cell? ⟨w.heap.size, 9, none⟩ = some (.int .i64 g9)) (go_keep) (fail)
  · have k2 := (((Below.refl W1.heap.size W1).alloc (Nat.le_refl _) (.cells (madeCells #[.int .i64 0] N) 3)).alloc (by simp) (.cells #[.slice (some ⟨b, off, none⟩) N cap, .int .i64 g1, .int .i64 g2, .int .i64 g3, .int .i64 g4, .int .i64 g5, .int .i64 g6, .int .i64 g7, .int .i64 g8, .int .i64 g9, .slice (some ⟨W1.heap.size, 0, none⟩) N N] 58)).drew
    have hL0 : LSt w b off (w.heap.size + 1) (W1.heap.size + 1) W1.heap.size N ws (.slice (some ⟨b, off, none⟩) N cap) ⟨g1, g2, g3, g4, g5, g6, g7, g8, g9⟩ (List.replicate N 0) (((W1.alloc (.cells (madeCells #[.int .i64 0] N) 3)).alloc (.cells #[.slice (some ⟨b, off, none⟩) N cap, .int .i64 g1, .int .i64 g2, .int .i64 g3, .int .i64 g4, .int .i64 g5, .int .i64 g6, .int .i64 g7, .int .i64 g8, .int .i64 g9, .slice (some ⟨W1.heap.size, 0, none⟩) N N] 58)).drew) := by
      have hblk := LayBlk.new (W1.alloc (.cells (madeCells #[.int .i64 0] N) 3)) (.slice (some ⟨b, off, none⟩) N cap) ⟨g1, g2, g3, g4, g5, g6, g7, g8, g9⟩ (.slice (some ⟨W1.heap.size, 0, none⟩) N N)
      rw [World.size_alloc] at hblk
      have hrow := (ints_made W1 N).of_block (w' := ((W1.alloc (.cells (madeCells #[.int .i64 0] N) 3)).alloc (.cells #[.slice (some ⟨b, off, none⟩) N cap, .int .i64 g1, .int .i64 g2, .int .i64 g3, .int .i64 g4, .int .i64 g5, .int .i64 g6, .int .i64 g7, .int .i64 g8, .int .i64 g9, .slice (some ⟨W1.heap.size, 0, none⟩) N N] 58)).drew) (Below.heap_alloc _ _ _ (by simp))
      exact ⟨HN.out, Nat.lt_of_lt_of_le hb (hbw.trans (k2.mono hbw.size)).size, fun k hk => ((hbw.trans (k2.mono hbw.size)).cell (p := ⟨b, off + k, none⟩) hb).trans (HW.out k hk), HeapBlk.below (h := ⟨g1, g2, g3, g4, g5, g6, g7, g8, g9⟩) eA k2, LayBlk.below (h := ⟨0, 0, 0, 0, 0, 0, 0, 0, 0⟩) eB k2, hblk, by simp, hrow, by omega, by omega, by have := heap_lt eB; omega, by omega, by have := heap_lt eB; omega, by omega, by omega, hbw.trans (k2.mono hbw.size)⟩
    simp only [Exit.then]
    refine hK1 _ _ ?_
    exact layRest_wp b off cap _ _ _ N ws ⟨g1, g2, g3, g4, g5, g6, g7, g8, g9⟩ w _ HN.out HO.out HCap.out hb hL0 _ _ _ _ _ _ _ _ _ _ _ _ _ _ _ _ _ _ _ _ _ _ _ _ _ _ _ _ _ _ _ _ _ _ _ _ _ _ _ _ _ _ _ _ _ _ _ _ _ _ _ _ _ _ _ _ _ _ _ _ _ _ _ _ _ _ _ _ _ _ _ _ _ _ _ _ _ _ _ _ _ _ _ _ _ _ _ _
  · have k2 := (((Below.refl W1.heap.size W1).alloc (Nat.le_refl _) (.cells #[.slice (some ⟨b, off, none⟩) N cap, .int .i64 g1, .int .i64 g2, .int .i64 g3, .int .i64 g4, .int .i64 g5, .int .i64 g6, .int .i64 g7, .int .i64 g8, .int .i64 g9, .slice (some ⟨W1.heap.size + 1, 0, none⟩) N N] 58)).alloc (by simp) (.cells (madeCells #[.int .i64 0] N) 3)).drew
    have hL0 : LSt w b off (w.heap.size + 1) W1.heap.size (W1.heap.size + 1) N ws (.slice (some ⟨b, off, none⟩) N cap) ⟨g1, g2, g3, g4, g5, g6, g7, g8, g9⟩ (List.replicate N 0) (((W1.alloc (.cells #[.slice (some ⟨b, off, none⟩) N cap, .int .i64 g1, .int .i64 g2, .int .i64 g3, .int .i64 g4, .int .i64 g5, .int .i64 g6, .int .i64 g7, .int .i64 g8, .int .i64 g9, .slice (some ⟨W1.heap.size + 1, 0, none⟩) N N] 58)).alloc (.cells (madeCells #[.int .i64 0] N) 3)).drew) := by
      have hblk0 := LayBlk.new W1 (.slice (some ⟨b, off, none⟩) N cap) ⟨g1, g2, g3, g4, g5, g6, g7, g8, g9⟩ (.slice (some ⟨W1.heap.size + 1, 0, none⟩) N N)
      have hblk : LayBlk ((W1.alloc (.cells #[.slice (some ⟨b, off, none⟩) N cap, .int .i64 g1, .int .i64 g2, .int .i64 g3, .int .i64 g4, .int .i64 g5, .int .i64 g6, .int .i64 g7, .int .i64 g8, .int .i64 g9, .slice (some ⟨W1.heap.size + 1, 0, none⟩) N N] 58)).alloc (.cells (madeCells #[.int .i64 0] N) 3)).drew W1.heap.size (.slice (some ⟨b, off, none⟩) N cap) ⟨g1, g2, g3, g4, g5, g6, g7, g8, g9⟩ (.slice (some ⟨W1.heap.size + 1, 0, none⟩) N N) := (Below.heap_alloc _ _ _ (by simp)).trans hblk0
      have hrow0 := ints_made (W1.alloc (.cells #[.slice (some ⟨b, off, none⟩) N cap, .int .i64 g1, .int .i64 g2, .int .i64 g3, .int .i64 g4, .int .i64 g5, .int .i64 g6, .int .i64 g7, .int .i64 g8, .int .i64 g9, .slice (some ⟨W1.heap.size + 1, 0, none⟩) N N] 58)) N
      rw [World.size_alloc] at hrow0
      have hrow : CellRow 3 ((W1.alloc (.cells #[.slice (some ⟨b, off, none⟩) N cap, .int .i64 g1, .int .i64 g2, .int .i64 g3, .int .i64 g4, .int .i64 g5, .int .i64 g6, .int .i64 g7, .int .i64 g8, .int .i64 g9, .slice (some ⟨W1.heap.size + 1, 0, none⟩) N N] 58)).alloc (.cells (madeCells #[.int .i64 0] N) 3)).drew (W1.heap.size + 1) N (intCells (List.replicate N 0)) := hrow0.of_block rfl
      exact ⟨HN.out, Nat.lt_of_lt_of_le hb (hbw.trans (k2.mono hbw.size)).size, fun k hk => ((hbw.trans (k2.mono hbw.size)).cell (p := ⟨b, off + k, none⟩) hb).trans (HW.out k hk), HeapBlk.below (h := ⟨g1, g2, g3, g4, g5, g6, g7, g8, g9⟩) eA k2, LayBlk.below (h := ⟨0, 0, 0, 0, 0, 0, 0, 0, 0⟩) eB k2, hblk, by simp, hrow, by omega, by omega, by have := heap_lt eB; omega, by omega, by have := heap_lt eB; omega, by omega, by omega, hbw.trans (k2.mono hbw.size)⟩
    simp only [Exit.then]
    refine hK1 _ _ ?_
    exact layRest_wp b off cap _ _ _ N ws ⟨g1, g2, g3, g4, g5, g6, g7, g8, g9⟩ w _ HN.out HO.out HCap.out hb hL0 _ _ _ _ _ _ _ _ _ _ _ _ _ _ _ _ _ _ _ _ _ _ _ _ _ _ _ _ _ _ _ _ _ _ _ _ _ _ _ _ _ _ _ _ _ _ _ _ _ _ _ _ _ _ _ _ _ _ _ _ _ _ _ _ _ _ _ _ _ _ _ _ _ _ _ _ _ _ _ _ _ _ _ _ _ _ _ _
end Go.Proofs.Ytebpgglegnljgaa

/- What a law holds in memory between its calls: slices of numbers and heaps, each in blocks of their own. -/
namespace Go.Proofs.Ytebpgglegnljgaa
open Go.RowKit

/-- A slice of numbers: its value, how many, and what it holds. -/
structure Sl where
  v : Value
  n : Nat
  F : Nat → Value

/-- A heap in a block: where, its words, its numbers. -/
structure Hb where
  b : Nat
  v : Value
  h : HpN

/-- All that the law holds; nothing that was there is changed. -/
structure Mem (w0 : World) (sl : List Sl) (hb : List Hb) (W : World) : Prop where
  slices : ∀ x ∈ sl, SliceR 3 1 w0.heap.size W x.v x.n x.F
  blocks : ∀ x ∈ hb, HeapBlk W x.b x.v x.h ∧ w0.heap.size ≤ x.b
  apart : sl.Pairwise (fun x y => x.n ≠ 0 → y.n ≠ 0 → x.v.ownBlock ≠ y.v.ownBlock)
  beside : ∀ x ∈ sl, ∀ y ∈ hb, x.n ≠ 0 → x.v.ownBlock ≠ some y.b
  below : Below w0.heap.size w0 W

theorem Mem.start (w : World) : Mem w [] [] w := ⟨fun _ h => (by cases h), fun _ h => (by cases h), List.Pairwise.nil, fun _ h => (by cases h), Below.refl _ _⟩

theorem Mem.keep {w0 W W' : World} {sl : List Sl} {hb : List Hb} (m : Mem w0 sl hb W) (h : Below W.heap.size W W') : Mem w0 sl hb W' :=
  ⟨fun x hx => (m.slices x hx).below h, fun x hx => ⟨(m.blocks x hx).1.below h, (m.blocks x hx).2⟩, m.apart, m.beside, m.below.trans (h.mono m.below.size)⟩

theorem Mem.lt_slice {w0 W : World} {sl : List Sl} {hb : List Hb} (m : Mem w0 sl hb W) {x : Sl} (hx : x ∈ sl) (h0 : x.n ≠ 0) : ∃ g, x.v.ownBlock = some g ∧ w0.heap.size ≤ g ∧ g < W.heap.size := (m.slices x hx).block h0

/-- A call's new slice is put beside. -/
theorem Mem.more {w0 W W' : World} {sl : List Sl} {hb : List Hb} (m : Mem w0 sl hb W) (h : Below W.heap.size W W') (x : Sl) (hx : SliceR 3 1 W.heap.size W' x.v x.n x.F) : Mem w0 (x :: sl) hb W' := by
  have m' := m.keep h
  refine ⟨?_, m'.blocks, List.Pairwise.cons ?_ m.apart, ?_, m'.below⟩
  · intro y hy
    rcases List.mem_cons.1 hy with rfl | hy
    · exact hx.mono m.below.size
    · exact m'.slices y hy
  · intro y hy h0 h1 e
    obtain ⟨g, e1, hg, _⟩ := hx.block h0
    obtain ⟨g', e2, _, hlt⟩ := m.lt_slice hy h1
    rw [e1, e2] at e
    cases e
    omega
  · intro y hy z hz h0 e
    rcases List.mem_cons.1 hy with rfl | hy
    · obtain ⟨g, e1, hg, _⟩ := hx.block h0
      have := heap_lt (m.blocks z hz).1
      rw [e1] at e
      cases e
      omega
    · exact m.beside y hy z hz h0 e

/-- A heap is laid into a new block. -/
theorem Mem.lay {w0 W : World} {sl : List Sl} {hb : List Hb} (m : Mem w0 sl hb W) (v : Value) (h : HpN) :
    Mem w0 sl (⟨W.heap.size, v, h⟩ :: hb) (W.alloc (.cells #[v, .int .i64 h.size, .int .i64 h.to, .int .i64 h.bottom, .int .i64 h.top, .int .i64 h.scan, .int .i64 h.fb, .int .i64 h.ft, .int .i64 h.flips, .int .i64 h.touched] 25)) := by
  have m' := m.keep ((Below.refl _ W).alloc (Nat.le_refl _) (.cells #[v, .int .i64 h.size, .int .i64 h.to, .int .i64 h.bottom, .int .i64 h.top, .int .i64 h.scan, .int .i64 h.fb, .int .i64 h.ft, .int .i64 h.flips, .int .i64 h.touched] 25))
  refine ⟨m'.slices, ?_, m.apart, ?_, m'.below⟩
  · intro x hx
    rcases List.mem_cons.1 hx with rfl | hx
    · exact ⟨HeapBlk.new _ _ _, m.below.size⟩
    · exact m'.blocks x hx
  · intro x hx y hy h0 e
    rcases List.mem_cons.1 hy with rfl | hy
    · obtain ⟨g, e1, _, hlt⟩ := m.lt_slice hx h0
      rw [e1] at e
      have e := Option.some.inj e
      dsimp only at e
      omega
    · exact m.beside x hx y hy h0 e

/-- The first slice is marked. -/
theorem Mem.mark {w0 W W1 W' : World} {x : Sl} {sl : List Sl} {hb : List Hb} (m : Mem w0 (x :: sl) hb W) (hk : Below W.heap.size W W1) (ht : Turned W1 W' x.v x.n) {G : Nat → Value} {B : Nat} (hG : SliceR 3 1 B W' x.v x.n G) : Mem w0 (⟨x.v, x.n, G⟩ :: sl) hb W' := by
  have m1 := m.keep hk
  obtain ⟨hp, hq⟩ := List.pairwise_cons.1 m.apart
  refine ⟨?_, ?_, List.Pairwise.cons hp hq, ?_, ?_⟩
  · intro y hy
    rcases List.mem_cons.1 hy with rfl | hy
    · obtain ⟨ad, cap, e, h⟩ := hG
      obtain ⟨ad', cap', e', h'⟩ := m.slices x List.mem_cons_self
      by_cases h0 : x.n = 0
      · exact ⟨ad, cap, e, Or.inl h0⟩
      · obtain ⟨g, rfl, _, hr⟩ := h.resolve_left h0
        obtain ⟨g', e2, hB⟩ := h'.resolve_left h0
        rw [e] at e'
        cases e'
        cases e2
        exact ⟨_, cap, e, Or.inr ⟨g, rfl, hB.1, hr⟩⟩
    · exact (m1.slices y (List.mem_cons_of_mem _ hy)).turned ht (fun h0 h1 e => hp y hy h1 h0 e.symm)
  · intro y hy
    exact ⟨(m1.blocks y hy).1.turned ht (fun h0 e => m.beside x List.mem_cons_self y hy h0 e), (m1.blocks y hy).2⟩
  · intro y hy z hz h0 e
    rcases List.mem_cons.1 hy with rfl | hy
    · exact m.beside x List.mem_cons_self z hz h0 e
    · exact m.beside y (List.mem_cons_of_mem _ hy) z hz h0 e
  · exact ht.below m1.below m1.below.size (fun h1 k hk => by
      obtain ⟨g, e, hg, _⟩ := m.lt_slice (x := x) List.mem_cons_self h1
      rw [e] at hk
      cases hk
      exact hg)
end Go.Proofs.Ytebpgglegnljgaa

/- A copy of numbers and of a heap, as the law makes one; how a heap is handed in. -/
namespace Go.Proofs.Ytebpgglegnljgaa
open Go.RowKit

theorem made_ints (len : Nat) (hl : len ≤ 1048576) (w : World) : ∃ c : Array Value, c.size = len ∧
    (Instr.makeSlice 23 (.int .i64 (len : Int)) (.int .i64 (len : Int))).run Try.prog w = .ok (.slice (some ⟨w.heap.size, 0, none⟩) len len) (w.alloc (.cells c 3)) := by
  obtain ⟨i0, hi, hz0, hz1, hz2⟩ := info_parts info_int
  have h := run_make (P := Try.prog) w 23 3 i0 _ Try.underlying23 hi hz0 .i64 .i64 len len (by omega) (Int.le_refl _) (by rw [hz2]; omega) (by omega)
  rw [hz1] at h
  simp only [Int.toNat_natCast] at h
  exact ⟨_, by rw [size_madeCells]; omega, h⟩

theorem set_cells {W : World} {b : Nat} {c : Array Value} {t : TypeId} (e : W.heap[b]? = some (.cells c t)) (i : Nat) (x : Value) : (W.setCell ⟨b, i, none⟩ x).heap[b]? = some (.cells (c.setIfInBounds i x) t) := by
  rw [setCell_eq_setRow W b i c t (0, 0) x e]
  exact setRow_heap W b _ _ t _ e

theorem set10 (a0 a1 a2 a3 a4 a5 a6 a7 a8 a9 x0 x1 x2 x3 x4 x5 x6 x7 x8 x9 : Value) : ((((((((((#[a0, a1, a2, a3, a4, a5, a6, a7, a8, a9].setIfInBounds 0 x0).setIfInBounds 1 x1).setIfInBounds 2 x2).setIfInBounds 3 x3).setIfInBounds 4 x4).setIfInBounds 5 x5).setIfInBounds 6 x6).setIfInBounds 7 x7).setIfInBounds 8 x8).setIfInBounds 9 x9) = #[x0, x1, x2, x3, x4, x5, x6, x7, x8, x9] := by
  simp

/-- A heap is stored into a block of its kind. -/
theorem heap_use {W : World} {b : Nat} {v : Value} {h : HpN} (e : HeapBlk W b v h) (v' : Value) (h' : HpN) (Q : World → Prop)
    (k : ∀ W' : World, HeapBlk W' b v' h' → (∀ B, B ≤ b → Below B W W') → W.heap.size = W'.heap.size → (∀ g, g ≠ b → W'.heap[g]? = W.heap[g]?) → Q W') : Q ((((((((((W.setCell ⟨b, 0, none⟩ v').setCell ⟨b, 1, none⟩ (.int .i64 h'.size)).setCell ⟨b, 2, none⟩ (.int .i64 h'.to)).setCell ⟨b, 3, none⟩ (.int .i64 h'.bottom)).setCell ⟨b, 4, none⟩ (.int .i64 h'.top)).setCell ⟨b, 5, none⟩ (.int .i64 h'.scan)).setCell ⟨b, 6, none⟩ (.int .i64 h'.fb)).setCell ⟨b, 7, none⟩ (.int .i64 h'.ft)).setCell ⟨b, 8, none⟩ (.int .i64 h'.flips)).setCell ⟨b, 9, none⟩ (.int .i64 h'.touched)) := by
  refine k _ ?_ (fun B hB => ?_) ?_ (fun g hg => ?_)
  · have e1 := set_cells (set_cells (set_cells (set_cells (set_cells (set_cells (set_cells (set_cells (set_cells (set_cells e 0 v') 1 (.int .i64 h'.size)) 2 (.int .i64 h'.to)) 3 (.int .i64 h'.bottom)) 4 (.int .i64 h'.top)) 5 (.int .i64 h'.scan)) 6 (.int .i64 h'.fb)) 7 (.int .i64 h'.ft)) 8 (.int .i64 h'.flips)) 9 (.int .i64 h'.touched)
    rw [set10] at e1
    exact e1
  · exact ((((((((((Below.refl B W).setCell hB _).setCell hB _).setCell hB _).setCell hB _).setCell hB _).setCell hB _).setCell hB _).setCell hB _).setCell hB _).setCell hB _
  · simp [World.setCell]
  · have hh : ∀ (X : World) (i : Nat) (x : Value), (X.setCell ⟨b, i, none⟩ x).heap[g]? = X.heap[g]? := fun X i x => Below.heap_setCell X ⟨b, i, none⟩ x g hg
    simp only [hh]

theorem chain_keep (W : World) (c : Nat) (x0 x1 x2 x3 x4 x5 x6 x7 x8 x9 : Value) : (∀ B, B ≤ c → Below B W ((((((((((W.setCell ⟨c, 0, none⟩ x0).setCell ⟨c, 1, none⟩ x1).setCell ⟨c, 2, none⟩ x2).setCell ⟨c, 3, none⟩ x3).setCell ⟨c, 4, none⟩ x4).setCell ⟨c, 5, none⟩ x5).setCell ⟨c, 6, none⟩ x6).setCell ⟨c, 7, none⟩ x7).setCell ⟨c, 8, none⟩ x8).setCell ⟨c, 9, none⟩ x9)) ∧ ∀ g, g ≠ c → ((((((((((W.setCell ⟨c, 0, none⟩ x0).setCell ⟨c, 1, none⟩ x1).setCell ⟨c, 2, none⟩ x2).setCell ⟨c, 3, none⟩ x3).setCell ⟨c, 4, none⟩ x4).setCell ⟨c, 5, none⟩ x5).setCell ⟨c, 6, none⟩ x6).setCell ⟨c, 7, none⟩ x7).setCell ⟨c, 8, none⟩ x8).setCell ⟨c, 9, none⟩ x9).heap[g]? = W.heap[g]? := by
  refine ⟨fun B hB => ?_, fun g hg => ?_⟩
  · exact ((((((((((Below.refl B W).setCell hB _).setCell hB _).setCell hB _).setCell hB _).setCell hB _).setCell hB _).setCell hB _).setCell hB _).setCell hB _).setCell hB _
  · have hh : ∀ (X : World) (i : Nat) (x : Value), (X.setCell ⟨c, i, none⟩ x).heap[g]? = X.heap[g]? := fun X i x => Below.heap_setCell X ⟨c, i, none⟩ x g hg
    simp only [hh]

theorem three_kept {w w2 : World} {o o' o'' : Obj} (h : Below (((w.alloc o).alloc o').alloc o'').heap.size (((w.alloc o).alloc o').alloc o'') w2) : w2.heap[w.heap.size]? = some o ∧ w2.heap[w.heap.size + 1]? = some o' ∧ w2.heap[w.heap.size + 2]? = some o'' ∧ Below w.heap.size w w2 := by
  have s2 : ((w.alloc o).alloc o').heap.size = w.heap.size + 2 := by simp
  obtain ⟨h1, h2⟩ := one_kept h
  obtain ⟨h3, h4, h5⟩ := two_kept h2
  exact ⟨h3, h4, by rw [← s2]; exact h1, h5⟩

theorem spotless {W : World} {a : Addr} {v : Value} (h : W.cell? a = some v) : a.spot = none := by
  unfold World.cell? at h
  split at h
  · by_cases hs : a.spot.isSome
    · simp [hs] at h
    · simpa using hs
  · cases h

theorem block_in {W : World} {a : Addr} {v : Value} (h : W.cell? a = some v) : a.block < W.heap.size := by
  unfold World.cell? at h
  split at h
  · rename_i e
    obtain ⟨hlt, _⟩ := Array.getElem?_eq_some_iff.mp e
    exact hlt
  · cases h

section
open Go.Deep Go.ChangeShapes Go.WideShapes
variable {H : Type} {enc : TypeId × Value → H} {W : World} {sp : Nat → Bool} {held : Bool}

end
end Go.Proofs.Ytebpgglegnljgaa

/- The program tells what roots lead to: words, lists of words. -/
namespace Go.Proofs.Ytebpgglegnljgaa
open Go.RowKit

/-- Words that are read wherever. -/
structure Wds (b off N : Nat) (ws : List Int) (W : World) : Prop where
  len : ws.length = N
  lt : b < W.heap.size
  cells : ∀ k, k < N → W.cell? ⟨b, off + k, none⟩ = some (.int .i64 (ws.getD k 0))

theorem Wds.below {b off N : Nat} {ws : List Int} {W W' : World} (d : Wds b off N ws W) (h : Below W.heap.size W W') : Wds b off N ws W' :=
  ⟨d.len, Nat.lt_of_lt_of_le d.lt h.size, fun k hk => (h.cell (p := ⟨b, off + k, none⟩) d.lt).trans (d.cells k hk)⟩

set_option maxHeartbeats 1000000 in
set_option maxRecDepth 100000 in
theorem settled_calls {b off N cap a : Nat} {ws S : List Int} {h : HpN} (ok : OkHeap ws S h) (w : World) (d : Wds b off N ws w) (hN : N ≤ 8000) (hS : S.getD a 0 ≠ 0) :
    Calls Try.prog 88 #[.slice (some ⟨b, off, none⟩) N cap, .int .i64 (a : Int)] w fun e w' => e = .returned (.int .i64 (nowZ ws a : Nat)) ∧ Below w.heap.size w w' := by
  have hn := ok.noted.2 a hS
  have haN : a < N := by rw [← d.len]; exact hn.1
  have hsz : sizeZ (ws.getD a 0) ≠ 0 := by rw [← hn.2.1]; exact hS
  have HO := hid (objectAt_calls b off N cap a (ws.getD a 0) w haN d.lt (d.cells a haN))
  have hd := (heads_noted ok.noted).2 a hS
  have ha1 : a + 1 < N := by rw [← d.len]; have := hn.2.2; have := hn.2.1; unfold sizeN at *; omega
  have HC := hid (fun (W' : World) (hb : Below w.heap.size w W') => (d.below hb).cells (a + 1) ha1)
  have hko : kindOr (ws.getD a 0) = ws.getD a 0 % 16 := by unfold kindOr; rw [if_neg hsz]
  rw [hko] at HO
  obtain ⟨sz, hszl⟩ : ∃ sz, sizeZ (ws.getD a 0) = sz := ⟨_, rfl⟩
  rw [hszl] at HO
  obtain ⟨ai, hai⟩ : ∃ ai : Int, (a : Int) = ai := ⟨_, rfl⟩
  rw [hai] at HO ⊢
  by_cases hk : ws.getD a 0 % 16 = 15
  · have e := at_ok ok hS
    unfold specAt at e
    rw [if_pos hk] at e
    unfold specMoved at e
    rw [Bool.and_eq_true, Bool.and_eq_true, Bool.and_eq_true, decide_eq_true_eq, decide_eq_true_eq] at e
    obtain ⟨⟨⟨-, e1⟩, e2⟩, -⟩ := e
    obtain ⟨a1, a2, a3, a4⟩ := specLeads_at e2 e1
    have hnow : ((nowZ ws a : Nat) : Int) = ws.getD (a + 1) 0 / 8 := by
      unfold nowZ
      rw [if_pos hk]
      omega
    rw [hnow]
    rw [hk] at HO
    obtain ⟨y, hy⟩ : ∃ y, ws.getD (a + 1) 0 = y := ⟨_, rfl⟩
    rw [hy] at HC ⊢
    have HNu := hid (fun W => implNum_calls y W)
    unfold numZ at HNu
    have hw : wrap64 (ai + 1) = ai + 1 := by unfold wrap64; omega
    have hti : (ai + 1).toNat = a + 1 := by omega
    have hlt : ai + 1 < (N : Int) := by omega
    have h0 : 0 ≤ ai + 1 := by omega
    have HB := hid d.lt
    clear hn haN hsz hd ha1 hko hszl hai hk e1 e2 a1 a2 a3 a4 hnow hy d hN hS ok
    go_enter Try.func88, Try.ntmps88
    go_wp2_with fail
    refine HO.out.mono ?_
    rintro e W1 ⟨rfl, hb1⟩
    have q0 := HC.out W1 hb1
    have HB1 := hid hb1
    clear hb1 HO HC
    go_wp2_with fail
    refine (HNu.out _).mono ?_
    rintro e W2 ⟨rfl, rfl⟩
    go_wp2_with fail
    go_ret
    exact ⟨rfl, HB1.out⟩
  · have hnow : nowZ ws a = a := by
      unfold nowZ
      rw [if_neg hk]
    rw [hnow, hai]
    obtain ⟨kd, hkd⟩ : ∃ kd, ws.getD a 0 % 16 = kd := ⟨_, rfl⟩
    rw [hkd] at HO hk
    have hkb : (kd == 15) = false := by simpa using hk
    clear hn haN hsz hd ha1 hko hszl hai hkd hnow d hN hS ok HC
    go_enter Try.func88, Try.ntmps88
    go_wp2_with fail
    refine HO.out.mono ?_
    rintro e W1 ⟨rfl, hb1⟩
    have HB1 := hid hb1
    clear hb1 HO
    go_wp2_with fail
    go_ret
    exact ⟨rfl, HB1.out⟩

/-- The cells of addresses met. -/
def metCells (met : List Nat) : List Value := met.map (fun a : Nat => Value.int .i64 (a : Int))

/-- One who tells what is met: a copy of the heap, the places of addresses, the addresses. -/
structure Gph (B bg bp N : Nat) (vw : Value) (h : HpN) (met : List Nat) (vm : Value) (W : World) : Prop where
  blk : W.heap[bg]? = some (.cells #[vw, .int .i64 h.size, .int .i64 h.to, .int .i64 h.bottom, .int .i64 h.top, .int .i64 h.scan, .int .i64 h.fb, .int .i64 h.ft, .int .i64 h.flips, .int .i64 h.touched, .slice (some ⟨bp, 0, none⟩) N N, vm] 63)
  places : CellRow 3 W bp N (fun a => .int .i64 (placeZ met a + 1))
  row : W.ownsRow B 3 1 vm met.length (metCells met)
  ne : bp ≠ bg
  n1 : vm.ownBlock ≠ some bg
  n2 : vm.ownBlock ≠ some bp
  b1 : B ≤ bg
  b2 : B ≤ bp

/-- All that was there is as it was, but for what one who tells has of his own. -/
structure FrmG (W : World) (bg bp : Nat) (vm : Value) (W' : World) : Prop where
  os : W'.os = W.os
  tape : W'.tape = W.tape
  output : W'.output = W.output
  size : W.heap.size ≤ W'.heap.size
  block : ∀ g, g < W.heap.size → g ≠ bg → g ≠ bp → vm.ownBlock ≠ some g → W'.heap[g]? = W.heap[g]?

theorem FrmG.refl (W : World) (bg bp : Nat) (vm : Value) : FrmG W bg bp vm W := ⟨rfl, rfl, rfl, Nat.le_refl _, fun _ _ _ _ _ => rfl⟩

theorem FrmG.of_below {W W' : World} (h : Below W.heap.size W W') (bg bp : Nat) (vm : Value) : FrmG W bg bp vm W' := ⟨h.os, h.tape, h.output, h.size, fun g hg _ _ _ => h.block g hg⟩

/-- Where the addresses lie now: where they lay, or in new memory. -/
def MovedTo (W : World) (vm vm' : Value) : Prop := vm'.ownBlock = vm.ownBlock ∨ ∃ g, vm'.ownBlock = some g ∧ W.heap.size ≤ g

theorem FrmG.trans {W W1 W2 : World} {bg bp : Nat} {vm vm1 : Value} (f : FrmG W bg bp vm W1) (hm : MovedTo W vm vm1) (k : FrmG W1 bg bp vm1 W2) : FrmG W bg bp vm W2 :=
  ⟨k.os.trans f.os, k.tape.trans f.tape, k.output.trans f.output, Nat.le_trans f.size k.size, fun g hg h1 h2 h3 => (k.block g (Nat.lt_of_lt_of_le hg f.size) h1 h2 (fun e => by
    rcases hm with h | ⟨g', h, hl⟩
    · exact h3 (h.symm.trans e)
    · rw [e] at h
      cases h
      omega)).trans (f.block g hg h1 h2 h3)⟩

theorem MovedTo.trans {W W1 : World} {vm vm1 vm2 : Value} (hs : W.heap.size ≤ W1.heap.size) (h : MovedTo W vm vm1) (k : MovedTo W1 vm1 vm2) : MovedTo W vm vm2 := by
  rcases k with k | ⟨g, k, hl⟩
  · rcases h with h | ⟨g, h, hl⟩
    · exact Or.inl (k.trans h)
    · exact Or.inr ⟨g, k.trans h, hl⟩
  · exact Or.inr ⟨g, k, by omega⟩

theorem FrmG.wds {W W' : World} {bg bp b off N B : Nat} {vm : Value} {ws : List Int} (f : FrmG W bg bp vm W') (d : Wds b off N ws W) (hb : b < B) (h1 : B ≤ bg) (h2 : B ≤ bp) (h3 : ∀ g, vm.ownBlock = some g → B ≤ g) : Wds b off N ws W' := by
  have e := f.block b d.lt (by omega) (by omega) (fun e => by have := h3 b e; omega)
  exact ⟨d.len, Nat.lt_of_lt_of_le d.lt f.size, fun k hk => (World.cell?_of_block (w := W) e).trans (d.cells k hk)⟩

theorem Gph.keep {B bg bp N : Nat} {vw vm : Value} {h : HpN} {met : List Nat} {W W' : World} (g : Gph B bg bp N vw h met vm W) (hb : Below W.heap.size W W') : Gph B bg bp N vw h met vm W' :=
  ⟨(hb.block _ (heap_lt g.blk)).trans g.blk, g.places.of_block (hb.block _ g.places.lt), kept_owns g.row hb, g.ne, g.n1, g.n2, g.b1, g.b2⟩

/-- What telling a word comes to. -/
def TellPost (W : World) (B bg bp N : Nat) (vw : Value) (h : HpN) (vm : Value) (r : List Nat × Int) (e : Ending) (w' : World) : Prop :=
  e = .returned (.int .i64 r.2) ∧ ∃ vm', Gph B bg bp N vw h r.1 vm' w' ∧ FrmG W bg bp vm w' ∧ MovedTo W vm vm'

theorem row_set' {t : TypeId} {W : World} {g n : Nat} {F : Nat → Value} (hr : CellRow t W g n F) (i : Nat) (x : Value) : CellRow t (W.setCell ⟨g, i, none⟩ x) g n (fun j => if j = i then x else F j) := by
  obtain ⟨N', f, hrow, hN', hf⟩ := hr
  refine ⟨N', _, hrow.set i x, hN', fun j hj => ?_⟩
  dsimp only
  split
  · rfl
  · exact hf j hj

theorem owns_of_block {B : Nat} {W W' : World} {vm : Value} {n : Nat} {xs : List Value} (h : W.ownsRow B 3 1 vm n xs) (e : ∀ g, vm.ownBlock = some g → W'.heap[g]? = W.heap[g]?) : W'.ownsRow B 3 1 vm n xs := by
  obtain ⟨h0, ⟨rfl, h1⟩ | ⟨g, cap, cur, rfl, hB, hc, hr⟩⟩ := h
  · exact ⟨h0, Or.inl ⟨rfl, h1⟩⟩
  · exact ⟨h0, Or.inr ⟨g, cap, cur, rfl, hB, (e g (by simp [Value.ownBlock])).trans hc, hr⟩⟩

theorem owns_at {B : Nat} {W : World} {vm : Value} {n : Nat} {xs : List Value} (h : W.ownsRow B 3 1 vm n xs) : (∀ g, vm.ownBlock = some g → B ≤ g ∧ g < W.heap.size) ∧ ∃ ad c, vm = .slice ad n c := by
  obtain ⟨-, ⟨rfl, h0⟩ | ⟨g, cap, cur, rfl, hB, hc, -⟩⟩ := h
  · exact ⟨fun g e => by simp [Value.ownBlock] at e, none, 0, by rw [h0]⟩
  · refine ⟨fun g' e => ?_, _, cap, rfl⟩
    simp [Value.ownBlock] at e
    subst e
    exact ⟨hB, heap_lt hc⟩

set_option maxHeartbeats 4000000 in
set_option maxRecDepth 100000 in
theorem tell_calls {B bg bp b off N cap : Nat} {ws S : List Int} {h : HpN} {met : List Nat} {vm : Value} (ok : OkHeap ws S h) (x : Int) (W : World) (g : Gph B bg bp N (.slice (some ⟨b, off, none⟩) N cap) h met vm W) (d : Wds b off N ws W) (hN : N ≤ 8000) (hx : Leads ws S x) (hm : Met ws S met) :
    Calls Try.prog 62 #[.pointer (some ⟨bg, 0, none⟩), .int .i64 x] W (TellPost W B bg bp N (.slice (some ⟨b, off, none⟩) N cap) h vm (tellZ ws met x)) := by
  have HTg := hid (fun w => implTag_calls x w)
  unfold tagZ at HTg
  unfold tellZ
  by_cases hx8 : x % 8 = 0
  case neg =>
    rw [if_neg hx8]
    have hne : (x % 8 != 0) = true := by simpa using hx8
    have HG := hid g
    obtain ⟨t8, ht8⟩ : ∃ t8, x % 8 = t8 := ⟨_, rfl⟩
    rw [ht8] at HTg hne hx8
    clear g d hx hm hN ht8
    go_enter Try.func62, Try.ntmps62
    go_wp2_with fail
    refine (HTg.out _).mono ?_
    rintro e W1 ⟨rfl, rfl⟩
    go_wp2_with fail
    go_ret
    exact ⟨rfl, vm, HG.out, FrmG.refl _ _ _ _, Or.inl rfl⟩
  rw [if_pos hx8]
  rw [hx8] at HTg
  obtain ⟨x0, x1, hS⟩ := hx hx8
  obtain ⟨a, ha⟩ : ∃ a, (x / 8).toNat = a := ⟨_, rfl⟩
  rw [ha] at hS ⊢
  have hxa : x / 8 = (a : Int) := by omega
  have hnode := now_node ok hx hx8
  rw [ha] at hnode
  have hnn := ok.noted.2 _ hnode.here
  have HSe := hid (fun w' (hb : Below W.heap.size W w') => settled_calls (cap := cap) (a := a) ok w' (d.below hb) hN hS)
  obtain ⟨c, hc⟩ : ∃ c, nowZ ws a = c := ⟨_, rfl⟩
  rw [hc] at hnn HSe hnode ⊢
  obtain ⟨r, hr⟩ : ∃ r, (if c ∈ met then (met, 8 * (met.idxOf c : Int)) else (met ++ [c], 8 * (met.length : Int))) = r := ⟨_, rfl⟩
  rw [hr]
  have HRi : Hid (c ∈ met → r = (met, 8 * (met.idxOf c : Int))) := fun h => by rw [← hr, if_pos h]
  have HRo : Hid (¬ c ∈ met → r = (met ++ [c], 8 * (met.length : Int))) := fun h => by rw [← hr, if_neg h]
  clear hr
  have hcN : c < N := by rw [← d.len]; exact hnn.1
  have HNu := hid (fun w => implNum_calls x w)
  unfold numZ at HNu
  rw [hxa] at HNu
  have hsh := hm.short ok
  have HSh : Hid (met.length ≤ 8000) := by rw [d.len] at hsh; show _ ≤ _; omega
  clear hnode hnn hxa ha hS x0 x1 hx hc
  obtain ⟨g1, g2, g3, g4, g5, g6, g7, g8, g9⟩ := h
  have v0 : ∀ y : Later W.heap.size W, y.w.cell? ⟨bg, 0, none⟩ = some (.slice (some ⟨b, off, none⟩) N cap) := fun y => y.cell (heap_lt g.blk) (by rw [cell_of_heap g.blk]; rfl)
  obtain ⟨ci, hci⟩ : ∃ ci : Int, (c : Int) = ci := ⟨_, rfl⟩
  obtain ⟨ai, hai⟩ : ∃ ai : Int, (a : Int) = ai := ⟨_, rfl⟩
  rw [hai] at HNu
  rw [hci, hai] at HSe
  have Hci := hid hci
  have HG := hid g
  have HM := hid hm
  have HD := hid d
  have HHd := hid hsh
  clear g d hm hN hci hai hsh
  go_enter Try.func62, Try.ntmps62
  go_wp2_with fail
  refine (HTg.out _).mono ?_
  rintro e W1 ⟨rfl, rfl⟩
  go_wp2_with fail
  refine wp_region_calm W.heap.size (by kernel_rfl) (by kernel_rfl) ?_
  repeat (go_big_quiet_step (first
    | (rename_i y; go_at_call 52; refine (HNu.out _).mono ?_; rintro e w5 ⟨rfl, rfl⟩; exact ⟨rfl, y, rfl⟩)
    | (rename_i y; go_at_call 88; refine (HSe.out _ y.h).mono ?_; rintro e w5 ⟨rfl, hb5⟩; exact ⟨rfl, ⟨w5, y.h.trans (hb5.mono y.h.size)⟩, rfl⟩)))
  refine wpQuiet_nil ?_
  rintro w6 ⟨y, rfl⟩
  have HG2 := hid (HG.out.keep y.h)
  have HF2 := hid (FrmG.of_below y.h bg bp vm)
  generalize y.w = W2 at *
  clear y v0 HG HSe HNu HTg
  have c10 : W2.cell? ⟨bg, 10, none⟩ = some (.slice (some ⟨bp, 0, none⟩) N N) := by rw [cell_of_heap HG2.out.blk]; rfl
  have c11 : W2.cell? ⟨bg, 11, none⟩ = some vm := by rw [cell_of_heap HG2.out.blk]; rfl
  have f11 := frozen_of_heap HG2.out.blk 11
  have q0 := HG2.out.places.cell (i := c) hcN
  have hct : ci.toNat = c := by have := Hci.out; omega
  have hc0 : 0 ≤ ci := by have := Hci.out; omega
  have hcl : ci < (N : Int) := by have := Hci.out; omega
  have hpr := placeZ_range (met := met) (a := c)
  obtain ⟨p1, hp1⟩ : ∃ p1, placeZ met c + 1 = p1 := ⟨_, rfl⟩
  rw [hp1] at q0
  have Hp1 := hid hp1
  clear hp1
  by_cases hin : c ∈ met
  · have hne : (p1 == 0) = false := by
      have h1 : ¬ placeZ met c < 0 := fun e => (placeZ_neg.1 e) hin
      have := Hp1.out
      simp
      omega
    have hix := List.idxOf_lt_length_of_mem hin
    have hpv : placeZ met c = (met.idxOf c : Int) := by unfold placeZ; rw [if_pos hin]
    have hw : wrap64 (p1 - 1) = p1 - 1 := by have := Hp1.out; have := HSh.out; unfold wrap64; omega
    have HMk := hid (fun w => implMake_calls 0 (p1 - 1) w)
    have HMv : Hid (makeZ 0 (p1 - 1) = 8 * (met.idxOf c : Int)) := by
      have := Hp1.out
      have := HSh.out
      show _ = _
      rw [show p1 - 1 = (met.idxOf c : Int) by omega]
      unfold makeZ wrap64
      simp
      omega
    rw [HMv.out] at HMk
    have HRe := hid (HRi.out hin)
    clear hix hpv hpr HRi HRo HMv
    go_wp2_with fail
    refine (HMk.out _).mono ?_
    rintro e W3 ⟨rfl, rfl⟩
    go_wp2_with fail
    go_ret
    rw [HRe.out]
    exact ⟨rfl, vm, HG2.out, HF2.out, Or.inl rfl⟩
  · have hpz : p1 = 0 := by
      have h1 := placeZ_neg.2 hin
      have := Hp1.out
      omega
    subst hpz
    have HRe := hid (HRo.out hin)
    have HPn := hid (fun a => placeZ_new (met := met) hin a)
    obtain ⟨-, ad, cm, rfl⟩ := owns_at HG2.out.row
    have hL2 : bg < W2.heap.size := heap_lt HG2.out.blk
    have hP2 : bp < W2.heap.size := HG2.out.places.lt
    obtain ⟨i0, hi, hz0, hz1, hz2⟩ := info_parts info_int
    have hK := (Below.refl W2.heap.size W2).alloc (Nat.le_refl _) (.cells #[.int .i64 ci] 3)
    have hE : (W2.alloc (.cells #[.int .i64 ci] 3)).heap[W2.heap.size]? = some (.cells #[.int .i64 ci] 3) := (MapKept.heap_alloc W2 _).1
    have hB2 : B ≤ (W2.alloc (.cells #[.int .i64 ci] 3)).heap.size := by have := HG2.out.b1; simp; omega
    have HK := hid hK
    have HE := hid hE
    have HB2 := hid hB2
    clear hK hE hB2
    have hlen8 := HSh.out
    go_wp2_with (first
      | (at_builtin; refine wpList_append_own_at _ rfl _ _ 23 rfl B 3 i0 (.int .i64 0) 1 8 Try.underlying23 hi hz0 hz1 hz2 rfl (by decide) (.slice ad met.length cm) met.length (metCells met) rfl (kept_owns HG2.out.row HK.out) ⟨W2.heap.size, 0, none⟩ 1 1 [.int .i64 ci] rfl rfl (fun j u hu => ?_) (fun u hu => ?_) (by unfold maxLen; omega) (by omega) HB2.out ?_))
    · cases j with
      | zero =>
        simp at hu
        subst hu
        exact (cell_of_heap HE.out 0)
      | succ j => simp at hu
    · simp at hu
      subst hu
      rfl
    intro v' W3 hown hgrow hnil hat
    obtain ⟨gos, gtape, gout, gsz, gblk⟩ := hgrow
    have hsA : (W2.alloc (.cells #[.int .i64 ci] 3)).heap.size = W2.heap.size + 1 := by simp
    rw [hsA] at gsz gblk
    have e3 := (gblk bg (by omega) HG2.out.n1.symm).trans ((HK.out.block bg hL2).trans HG2.out.blk)
    have eP := (gblk bp (by omega) HG2.out.n2.symm).trans (HK.out.block bp hP2)
    have HP3 := hid (HG2.out.places.of_block eP)
    have HF3 : Hid (FrmG W2 bg bp (.slice ad met.length cm) W3) := ⟨gos.trans HK.out.os, gtape.trans HK.out.tape, gout.trans HK.out.output, by omega, fun g hg _ _ h3 => (gblk g (by omega) (Ne.symm h3)).trans (HK.out.block g hg)⟩
    have HMv : Hid (MovedTo W2 (.slice ad met.length cm) v') := by
      rcases hat with h | h
      · exact Or.inl h
      · exact Or.inr ⟨_, h, by omega⟩
    obtain ⟨hvB, ad', cm', rfl⟩ := owns_at hown
    have HOw := hid hown
    have HN1 : Hid ((Value.slice ad' (met.length + 1) cm').ownBlock ≠ some bg ∧ (Value.slice ad' (met.length + 1) cm').ownBlock ≠ some bp) := by
      constructor
      · intro e
        rcases hat with h | h
        · exact HG2.out.n1 (h.symm.trans e)
        · rw [e] at h
          cases h
          omega
      · intro e
        rcases hat with h | h
        · exact HG2.out.n2 (h.symm.trans e)
        · rw [e] at h
          cases h
          omega
    have d11 : W3.cell? ⟨bg, 11, none⟩ = some (.slice ad met.length cm) := by rw [cell_of_heap e3]; rfl
    have f11' := frozen_of_heap e3 11
    have e4 := set_cells e3 11 (.slice ad' (met.length + 1) cm')
    have HE4 : Hid ((W3.setCell ⟨bg, 11, none⟩ (.slice ad' (met.length + 1) cm')).heap[bg]? = some (.cells #[.slice (some ⟨b, off, none⟩) N cap, .int .i64 g1, .int .i64 g2, .int .i64 g3, .int .i64 g4, .int .i64 g5, .int .i64 g6, .int .i64 g7, .int .i64 g8, .int .i64 g9, .slice (some ⟨bp, 0, none⟩) N N, .slice ad' (met.length + 1) cm'] 63)) := by simpa [Hid] using e4
    have HO4 : Hid (∀ g, g ≠ bg → (W3.setCell ⟨bg, 11, none⟩ (.slice ad' (met.length + 1) cm')).heap[g]? = W3.heap[g]?) := fun g hg => Below.heap_setCell W3 ⟨bg, 11, none⟩ _ g hg
    have HSz : Hid (W3.heap.size = (W3.setCell ⟨bg, 11, none⟩ (.slice ad' (met.length + 1) cm')).heap.size) := by show _ = _; simp [World.setCell]
    have HW4 : Hid ((W3.setCell ⟨bg, 11, none⟩ (.slice ad' (met.length + 1) cm')).os = W3.os ∧ (W3.setCell ⟨bg, 11, none⟩ (.slice ad' (met.length + 1) cm')).tape = W3.tape ∧ (W3.setCell ⟨bg, 11, none⟩ (.slice ad' (met.length + 1) cm')).output = W3.output) := ⟨rfl, rfl, rfl⟩
    clear hown hat gos gtape gout gsz gblk hnil hsA e3 eP e4 hvB HK HE HB2 c10 c11 f11 q0 hi hz0 hz1 hz2
    go_wp2_with fail
    generalize W3.setCell ⟨bg, 11, none⟩ (.slice ad' (met.length + 1) cm') = W4 at *
    have hne := HG2.out.ne
    have HP4 := hid (HP3.out.of_block (HO4.out bp hne))
    have c10 : W4.cell? ⟨bg, 10, none⟩ = some (.slice (some ⟨bp, 0, none⟩) N N) := by rw [cell_of_heap HE4.out]; rfl
    have c11 : W4.cell? ⟨bg, 11, none⟩ = some (.slice ad' (met.length + 1) cm') := by rw [cell_of_heap HE4.out]; rfl
    have q4 := HP4.out.cell (i := c) hcN
    obtain ⟨_, _, hrow, _, _⟩ := HP4.out
    have fq := hrow.frozen c hcN
    clear hrow d11 f11'
    obtain ⟨ml, hml⟩ : ∃ ml : Int, ((met.length + 1 : Nat) : Int) = ml := ⟨_, rfl⟩
    have Hml := hid hml
    have oth : ∀ (X : World) (j : Nat) (u : Value), (X.setCell ⟨bp, c, none⟩ u).cell? ⟨bg, j, none⟩ = X.cell? ⟨bg, j, none⟩ := fun X j u => World.cell?_setCell_other _ _ _ _ (fun e => hne (by cases e; rfl))
    go_region_held3 (fun w' => w'.cell? ⟨bg, 10, none⟩ = some (.slice (some ⟨bp, 0, none⟩) N N) ∧ w'.cell? ⟨bg, 11, none⟩ = some (.slice ad' (met.length + 1) cm')) (first | (exact ⟨c10, c11⟩) | (exact ⟨(oth _ _ _).trans c10, (oth _ _ _).trans c11⟩) | (simp [*]; done)) (fail)
    have q5 := row_set' HP4.out c (.int .i64 ml)
    have HP5 : Hid (CellRow 3 (W4.setCell ⟨bp, c, none⟩ (.int .i64 ml)).drew bp N (fun a => .int .i64 (placeZ (met ++ [c]) a + 1))) := by
      refine (q5.congr (fun j hj => ?_)).of_block rfl
      rw [HPn.out]
      by_cases h : j = c
      · rw [if_pos h, if_pos h, ← Hml.out]
        rfl
      · rw [if_neg h, if_neg h]
    have HB5 : Hid ((W4.setCell ⟨bp, c, none⟩ (.int .i64 ml)).drew.heap[bg]? = some (.cells #[.slice (some ⟨b, off, none⟩) N cap, .int .i64 g1, .int .i64 g2, .int .i64 g3, .int .i64 g4, .int .i64 g5, .int .i64 g6, .int .i64 g7, .int .i64 g8, .int .i64 g9, .slice (some ⟨bp, 0, none⟩) N N, .slice ad' (met.length + 1) cm'] 63)) := (Below.heap_setCell W4 ⟨bp, c, none⟩ _ bg (Ne.symm hne)).trans HE4.out
    have HO5 : Hid (∀ g, g ≠ bp → (W4.setCell ⟨bp, c, none⟩ (.int .i64 ml)).drew.heap[g]? = W4.heap[g]?) := fun g hg => Below.heap_setCell W4 ⟨bp, c, none⟩ _ g hg
    have HS5 : Hid (W4.heap.size = (W4.setCell ⟨bp, c, none⟩ (.int .i64 ml)).drew.heap.size) := by show _ = _; simp [World.setCell, World.drew]
    have HW5 : Hid ((W4.setCell ⟨bp, c, none⟩ (.int .i64 ml)).drew.os = W4.os ∧ (W4.setCell ⟨bp, c, none⟩ (.int .i64 ml)).drew.tape = W4.tape ∧ (W4.setCell ⟨bp, c, none⟩ (.int .i64 ml)).drew.output = W4.output) := ⟨rfl, rfl, rfl⟩
    clear q5 q4 fq c10 c11 oth
    generalize (W4.setCell ⟨bp, c, none⟩ (.int .i64 ml)).drew = W5 at *
    have c10 : W5.cell? ⟨bg, 10, none⟩ = some (.slice (some ⟨bp, 0, none⟩) N N) := by rw [cell_of_heap HB5.out]; rfl
    have q5 := HP5.out.cell (i := c) hcN
    have hpl : placeZ (met ++ [c]) c + 1 = ml := by rw [HPn.out, if_pos rfl, ← Hml.out]; rfl
    rw [hpl] at q5
    have hw : wrap64 (ml - 1) = ml - 1 := by have := Hml.out; have := HSh.out; unfold wrap64; omega
    have HMk := hid (fun w => implMake_calls 0 (ml - 1) w)
    have HMv2 : Hid (makeZ 0 (ml - 1) = 8 * (met.length : Int)) := by
      have := Hml.out
      have := HSh.out
      show _ = _
      rw [show ml - 1 = (met.length : Int) by omega]
      unfold makeZ wrap64
      simp
      omega
    rw [HMv2.out] at HMk
    have HFin : Hid (TellPost W B bg bp N (.slice (some ⟨b, off, none⟩) N cap) ⟨g1, g2, g3, g4, g5, g6, g7, g8, g9⟩ (.slice ad met.length cm) (met ++ [c], 8 * (met.length : Int)) (.returned (.int .i64 (8 * (met.length : Int)))) W5) := by
      refine ⟨rfl, .slice ad' (met.length + 1) cm', ⟨HB5.out, HP5.out, ?_, hne, HN1.out.1, HN1.out.2, HG2.out.b1, HG2.out.b2⟩, ?_, ?_⟩
      · refine owns_of_block (W := W3) ?_ (fun g hg => ?_)
        · have e := HOw.out
          unfold metCells at e ⊢
          rw [List.length_append, List.map_append]
          rw [← Hci.out] at e
          exact e
        · have h1 : g ≠ bg := fun e => HN1.out.1 (e ▸ hg)
          have h2 : g ≠ bp := fun e => HN1.out.2 (e ▸ hg)
          exact (HO5.out g h2).trans (HO4.out g h1)
      · refine HF2.out.trans (Or.inl rfl) ⟨HW5.out.1.trans (HW4.out.1.trans HF3.out.os), HW5.out.2.1.trans (HW4.out.2.1.trans HF3.out.tape), HW5.out.2.2.trans (HW4.out.2.2.trans HF3.out.output), ?_, fun g hg h1 h2 h3 => (HO5.out g h2).trans ((HO4.out g h1).trans (HF3.out.block g hg h1 h2 h3))⟩
        have e1 := HF3.out.size
        have e2 := HSz.out
        have e3 := HS5.out
        omega
      · exact MovedTo.trans HF2.out.size (Or.inl rfl) HMv.out
    clear hpl hml
    go_wp2_with fail
    refine (HMk.out _).mono ?_
    rintro e W6 ⟨rfl, rfl⟩
    go_wp2_with fail
    go_ret
    rw [HRe.out]
    exact HFin.out

theorem Gph.beside {B bg bp N : Nat} {vw vm : Value} {h : HpN} {met : List Nat} {W : World} (g : Gph B bg bp N vw h met vm W) {k : Nat} (h1 : k ≠ bg) (h2 : k ≠ bp) (h3 : vm.ownBlock ≠ some k) (i : Nat) (x : Value) : Gph B bg bp N vw h met vm (W.setCell ⟨k, i, none⟩ x) := by
  have e : ∀ j, j ≠ k → (W.setCell ⟨k, i, none⟩ x).heap[j]? = W.heap[j]? := fun j hj => Below.heap_setCell W ⟨k, i, none⟩ x j hj
  exact ⟨(e bg (Ne.symm h1)).trans g.blk, g.places.of_block (e bp (Ne.symm h2)), owns_of_block g.row (fun j hj => e j (fun e => h3 (e ▸ hj))), g.ne, g.n1, g.n2, g.b1, g.b2⟩

/-- Words of a list that are read wherever. -/
def ListAt (lb lo : Nat) (xs : List Int) (W : World) : Prop := (0 < xs.length → lb < W.heap.size) ∧ ∀ k, k < xs.length → W.cell? ⟨lb, lo + k, none⟩ = some (.int .i64 (xs.getD k 0))

/-- What telling a list comes to. -/
def TellsPost (W : World) (B bg bp N : Nat) (vw : Value) (h : HpN) (vm : Value) (m : Nat) (r : List Nat × List Int) (e : Ending) (w' : World) : Prop :=
  ∃ gt, e = .returned (.slice (some ⟨gt, 0, none⟩) m m) ∧ CellRow 3 w' gt m (intCells r.2) ∧ W.heap.size ≤ gt ∧ gt ≠ bg ∧ gt ≠ bp ∧ ∃ vm', Gph B bg bp N vw h r.1 vm' w' ∧ FrmG W bg bp vm w' ∧ MovedTo W vm vm' ∧ vm'.ownBlock ≠ some gt

theorem Gph.own_lt {B bg bp N : Nat} {vw vm : Value} {h : HpN} {met : List Nat} {W : World} (g : Gph B bg bp N vw h met vm W) {k : Nat} (e : vm.ownBlock = some k) : B ≤ k ∧ k < W.heap.size := (owns_at g.row).1 k e

set_option maxHeartbeats 4000000 in
set_option maxRecDepth 100000 in
theorem tellAll_calls {B bg bp b off N cap lb lo lc m : Nat} {ws S xs : List Int} {h : HpN} {met : List Nat} {vm : Value} (ok : OkHeap ws S h) (W : World) (g : Gph B bg bp N (.slice (some ⟨b, off, none⟩) N cap) h met vm W) (d : Wds b off N ws W) (hbB : b < B) (hN : N ≤ 8000) (hm : Met ws S met) (hml : xs.length = m) (hm20 : m ≤ 20) (hl : ListAt lb lo xs W) (hlB : 0 < xs.length → lb < B) (hx : ∀ i, i < xs.length → Leads ws S (xs.getD i 0)) :
    Calls Try.prog 32 #[.pointer (some ⟨bg, 0, none⟩), .slice (some ⟨lb, lo, none⟩) m lc] W (TellsPost W B bg bp N (.slice (some ⟨b, off, none⟩) N cap) h vm m (tellsRun ws xs m met)) := by
  obtain ⟨R, hR⟩ : ∃ R, tellsRun ws xs m met = R := ⟨_, rfl⟩
  rw [hR]
  have HR := hid hR
  have HTl := hid (fun (x : Int) (mt : List Nat) (v : Value) (X : World) (g : Gph B bg bp N (.slice (some ⟨b, off, none⟩) N cap) h mt v X) (d : Wds b off N ws X) (hx : Leads ws S x) (hm : Met ws S mt) => tell_calls ok x X g d hN hx hm)
  have HMt := hid (fun k (hk : k ≤ xs.length) => hm.tells ok hx k hk)
  have HX := hid hx
  have HG := hid g
  have HD := hid d
  have HL := hid hl
  have HML := hid hml
  have HM2 := hid hm20
  have hgb := heap_lt g.blk
  have hgp := g.places.lt
  have hb1 := g.b1
  have hb2 := g.b2
  obtain ⟨c, hcs, hmk⟩ := made_ints m (by omega) W
  have hrow := World.rowIs_alloc W c 3 (fun i => c.getD i undef) (fun i hi => by simp [hi])
  rw [hcs] at hrow
  have hK := (Below.refl W.heap.size W).alloc (Nat.le_refl _) (.cells c 3)
  have hsz : (W.alloc (.cells c 3)).heap.size = W.heap.size + 1 := by simp
  have HK := hid hK
  have HSz := hid hsz
  have HG1 := hid (g.keep hK)
  clear hR hN hx hm g d hl hml hm20 hK hsz ok
  go_enter Try.func32, Try.ntmps32
  go_wp2_with fail
  clear hmk
  generalize W.alloc (.cells c 3) = W1 at *
  have HRw := hid (rw_of_row hrow m)
  clear hrow hcs
  go_loopw [13] (fun i wr => ∃ (ii : Int) (k : Nat) (f : Nat → Value) (vk : Value), i = .int .i64 ii ∧ Hid (ii = (k : Int) ∧ k ≤ m) ∧ Hid (Rw wr W.heap.size 3 m f m) ∧ Hid (∀ j, j < k → f j = .int .i64 ((tellsRun ws xs k met).2.getD j 0)) ∧ Hid (Gph B bg bp N (.slice (some ⟨b, off, none⟩) N cap) h (tellsRun ws xs k met).1 vk wr) ∧ Hid (MovedTo W1 vm vk) ∧ Hid (∀ q, q < W1.heap.size → q ≠ W.heap.size → q ≠ bg → q ≠ bp → vm.ownBlock ≠ some q → wr.heap[q]? = W1.heap[q]?) ∧ Hid (wr.os = W1.os ∧ wr.tape = W1.tape ∧ wr.output = W1.output ∧ W1.heap.size ≤ wr.heap.size)) (fun i _ => m - (intOf i).toNat)
  case atStart => exact ⟨0, 0, _, vm, rfl, ⟨rfl, by omega⟩, HRw.out, fun j hj => by omega, HG1.out, Or.inl rfl, fun _ _ _ _ _ _ => rfl, ⟨rfl, rfl, rfl, Nat.le_refl _⟩⟩
  case round =>
    obtain ⟨ii, k, f, vk, rfl, HQ, HRo, HF, HGk, HMv, HBl, HOs⟩ := hrel
    clear HRw HG1
    have hi0 : 0 ≤ ii := by have := HQ.out; omega
    have HVg : Hid (vk.ownBlock ≠ some W.heap.size) := by
      intro e
      have hs := HSz.out
      rcases HMv.out with h | ⟨q, h, hq⟩
      · have := (HG.out.own_lt (h.symm.trans e)).2
        omega
      · rw [e] at h
        cases h
        omega
    have HVl : Hid (∀ q, q < B → vm.ownBlock ≠ some q) := fun q hq e => by
      have := (HG.out.own_lt e).1
      omega
    have HOld : Hid (∀ q, q < B → q < W.heap.size → wr.heap[q]? = W.heap[q]?) := fun q hq hqW => by
      have hs := HSz.out
      exact (HBl.out q (by omega) (by omega) (by omega) (by omega) (HVl.out q hq)).trans (HK.out.block q hqW)
    by_cases hlt : ii < (m : Int)
    · have hkm : k < m := by have := HQ.out; omega
      have hik : ii.toNat = k := by have := HQ.out; omega
      have hkx : k < xs.length := by have := HML.out; omega
      have q0 : wr.cell? ⟨lb, lo + k, none⟩ = some (.int .i64 (xs.getD k 0)) := (World.cell?_of_block (w := W) (HOld.out lb (hlB (Nat.lt_of_le_of_lt (Nat.zero_le _) hkx)) (HL.out.1 (by omega)))).trans (HL.out.2 k hkx)
      have hdk : Wds b off N ws wr := ⟨HD.out.len, by have := HOs.out.2.2.2; have := HSz.out; have := HD.out.lt; omega, fun j hj => (World.cell?_of_block (w := W) (HOld.out b hbB HD.out.lt)).trans (HD.out.cells j hj)⟩
      have HTk := hid (HTl.out (xs.getD k 0) _ _ wr HGk.out hdk (HX.out k hkx) (HMt.out k (by omega)).1)
      have HNx : Hid (tellsRun ws xs (k + 1) met = ((tellZ ws (tellsRun ws xs k met).1 (xs.getD k 0)).1, (tellsRun ws xs k met).2 ++ [(tellZ ws (tellsRun ws xs k met).1 (xs.getD k 0)).2])) := rfl
      have HLk := hid (HMt.out k (by omega)).2.2
      obtain ⟨x, hxk⟩ : ∃ x, xs.getD k 0 = x := ⟨_, rfl⟩
      rw [hxk] at q0 HTk HNx
      obtain ⟨mt, hmt⟩ : ∃ mt, (tellsRun ws xs k met).1 = mt := ⟨_, rfl⟩
      obtain ⟨ot, hot⟩ : ∃ ot, (tellsRun ws xs k met).2 = ot := ⟨_, rfl⟩
      rw [hmt, hot] at HNx
      rw [hmt] at HTk HGk
      rw [hot] at HF HLk
      obtain ⟨r, hr⟩ : ∃ r, tellZ ws mt x = r := ⟨_, rfl⟩
      rw [hr] at HNx HTk
      clear hxk hmt hot hr hdk
      have hs : Hid (m - (intOf (.int .i64 (ii + 1))).toNat < m - (intOf (.int .i64 ii)).toNat) := by show _ < _; simp only [intOf]; omega
      have hw : Hid (wrap64 (ii + 1) = ii + 1) := by show _ = _; have := HM2.out; unfold wrap64; omega
      go_wp2_with fail
      refine HTk.out.mono ?_
      rintro e W3 ⟨rfl, v2, hG2, hF2, hM2⟩
      have eR := hF2.block W.heap.size (by have := HOs.out.2.2.2; have := HSz.out; omega) (by omega) (by omega) HVg.out
      have HRo3 : Hid (Rw W3 W.heap.size 3 m f m) := HRo.out.of_block eR
      have q1 := HRo3.out.cell (i := k) hkm
      have z1 := HRo3.out.frozen k hkm
      have HG3 := hid hG2
      have HF3 := hid hF2
      have HM3 : Hid (MovedTo W1 vm v2) := MovedTo.trans HOs.out.2.2.2 HMv.out hM2
      have HV3 : Hid (v2.ownBlock ≠ some W.heap.size) := by
        intro e
        rcases hM2 with h | ⟨q, h, hq⟩
        · exact HVg.out (h.symm.trans e)
        · rw [e] at h
          cases h
          have := HOs.out.2.2.2
          have := HSz.out
          omega
      clear hG2 hF2 hM2 eR q0 HTk
      go_wp2_with fail
      try rw [hw.out]
      refine ⟨⟨ii + 1, k + 1, _, v2, rfl, ⟨by have := HQ.out; push_cast; omega, by omega⟩, HRo3.out.set k _, ?_, ?_, HM3.out, ?_, ?_⟩, hs.out⟩
      · intro j hj
        rw [HNx.out]
        dsimp only
        have hlk := HLk.out
        by_cases hjk : j = k
        · rw [if_pos hjk, hjk]
          rw [show (ot ++ [r.2]).getD k 0 = r.2 by rw [← hlk]; simp [List.getD]]
        · rw [if_neg hjk, HF.out j (by omega)]
          rw [show (ot ++ [r.2]).getD j 0 = ot.getD j 0 by simp [List.getD, List.getElem?_append_left (show j < ot.length by omega)]]
      · rw [HNx.out]
        exact HG3.out.beside (by omega) (by omega) HV3.out k _
      · intro q h1 h2 h3 h4 h5
        have e1 : (W3.setCell ⟨W.heap.size, k, none⟩ (.int .i64 r.2)).heap[q]? = W3.heap[q]? := Below.heap_setCell W3 ⟨W.heap.size, k, none⟩ _ q h2
        refine e1.trans ((HF3.out.block q (by have := HOs.out.2.2.2; omega) h3 h4 ?_).trans (HBl.out q h1 h2 h3 h4 h5))
        intro e
        rcases HMv.out with h | ⟨q', h, hq⟩
        · exact h5 (h.symm.trans e)
        · rw [e] at h
          cases h
          omega
      · exact ⟨HF3.out.os.trans HOs.out.1, HF3.out.tape.trans HOs.out.2.1, HF3.out.output.trans HOs.out.2.2.1, by have h1 := HF3.out.size; have h2 := HOs.out.2.2.2; simp [World.setCell]; omega⟩
    · have hkm : k = m := by have := HQ.out; omega
      have HRe : Hid (tellsRun ws xs k met = R) := by rw [hkm]; exact HR.out
      have HLk := hid (HMt.out k (by have := HML.out; omega)).2.2
      go_wp2_with fail
      go_ret
      refine ⟨W.heap.size, rfl, ?_, Nat.le_refl _, by omega, by omega, vk, ?_, ?_, ?_, HVg.out⟩
      · refine ⟨m, f, HRo.out, Nat.le_refl _, fun j hj => ?_⟩
        rw [HF.out j (by omega), HRe.out]
        rfl
      · have e := HGk.out
        rw [HRe.out] at e
        exact e
      · have hs := HSz.out
        exact ⟨HOs.out.1.trans HK.out.os, HOs.out.2.1.trans HK.out.tape, HOs.out.2.2.1.trans HK.out.output, by have := HOs.out.2.2.2; omega, fun q h1 h2 h3 h4 => (HBl.out q (by omega) (by omega) h2 h3 h4).trans (HK.out.block q h1)⟩
      · rcases HMv.out with h | ⟨q, h, hq⟩
        · exact Or.inl h
        · exact Or.inr ⟨q, h, by have := HSz.out; omega⟩
end Go.Proofs.Ytebpgglegnljgaa

/- The program asks whether words lead to objects in use. -/
namespace Go.Proofs.Ytebpgglegnljgaa
open Go.RowKit

def implRoots (S : List Int) (h : HpN) (xs : List Int) : Bool := (List.range xs.length).all (fun k => wordOkZ S h (xs.getD k 0))

theorem roots_same {ws S : List Int} {h : HpN} (ok : OkHeap ws S h) (xs : List Int) : implRoots S h xs = (List.range xs.length).all (fun k => specLeads ws S h (xs.getD k 0) false) := by
  unfold implRoots
  simp only [used_same ok]

set_option maxRecDepth 100000 in
theorem okClosure_calls (b off cap gb N P : Nat) (ws S : List Int) (h : HpN) (x : Int) (w : World) (ho : Ordered h N) (hs : ISt b off gb N ws S w) (hP : LayBlk w P (.slice (some ⟨b, off, none⟩) N cap) h (.slice (some ⟨gb, 0, none⟩) N N)) :
    Calls Try.prog 68 #[.int .i64 x, .pointer (some ⟨P, 0, none⟩)] w fun e w' => e = .returned (.bool (!wordOkZ S h x)) ∧ Below w.heap.size w w' := by
  have HW := hid (wordOk_st (gcap := N) hs (.slice (some ⟨b, off, none⟩) N cap) h ho x)
  obtain ⟨c0, c1, c2, c3, c4, c5, c6, c7, c8, c9, c10⟩ := hP.cells
  clear hP hs ho
  obtain ⟨g1, g2, g3, g4, g5, g6, g7, g8, g9⟩ := h
  unfold layV at HW
  dsimp only at *
  go_enter Try.func68, Try.ntmps68
  go_wp2_with fail
  refine HW.out.mono ?_
  rintro e w2 ⟨rfl, hb2⟩
  go_wp2_with fail
  go_ret
  exact ⟨rfl, hb2⟩

theorem all_yes2 {P : Nat → Bool} {m : Nat} (H : ∀ k, k < m → P k = true) : (List.range m).all P = true := by
  rw [List.all_eq_true]
  exact fun k hk => H k (List.mem_range.1 hk)

theorem all_no2 {P : Nat → Bool} {m j : Nat} (hj : j < m) (hf : P j = false) : (List.range m).all P = false := by
  rw [List.all_eq_false]
  exact ⟨j, List.mem_range.2 hj, by simp [hf]⟩

set_option maxHeartbeats 1000000 in
set_option maxRecDepth 100000 in
theorem okIndex_calls (ad : Option Addr) (c b off cap gb N P : Nat) (ws S : List Int) (h : HpN) (xs : List Int) (w : World) (ho : Ordered h N) (hs : ISt b off gb N ws S w) (hP : LayBlk w P (.slice (some ⟨b, off, none⟩) N cap) h (.slice (some ⟨gb, 0, none⟩) N N)) (hv : IntSlice w (.slice ad xs.length c) xs) (hm : xs.length ≤ 20) :
    Calls Try.prog 90 #[.slice ad xs.length c, .func (.func 68) #[] #[.pointer (some ⟨P, 0, none⟩)]] w fun e w' => (∃ r : Int, e = .returned (.int .i64 r) ∧ decide (0 ≤ r) = !implRoots S h xs) ∧ Below w.heap.size w w' := by
  have HC := hid (fun (X : World) (hX : Below w.heap.size w X) (x : Int) => okClosure_calls b off cap gb N P ws S h x X ho (hs.kept hX) (hP.below hX))
  have HV := hid hv
  obtain ⟨len, hlen⟩ : ∃ len, xs.length = len := ⟨_, rfl⟩
  have Hlen := hid hlen
  have HM : Hid (len ≤ 20) := by show _ ≤ _; omega
  obtain ⟨R, hR⟩ : ∃ R, implRoots S h xs = R := ⟨_, rfl⟩
  have HR := hid hR
  rw [hlen, hR]
  rw [hlen] at HV
  clear hlen hR hm hv hs hP ho
  go_enter Try.func90, Try.ntmps90
  go_wp2_with fail
  go_loopw [8] (fun i wr => ∃ (ii : Int) (k : Nat), i = .int .i64 ii ∧ Hid (ii = (k : Int) ∧ k ≤ len) ∧ Hid (∀ j, j < k → wordOkZ S h (xs.getD j 0) = true) ∧ Hid (Below w.heap.size w wr)) (fun i _ => len - (intOf i).toNat)
  case atStart => exact ⟨0, 0, rfl, ⟨rfl, by omega⟩, fun j hj => by omega, Below.refl _ _⟩
  case round =>
    obtain ⟨ii, k, rfl, HQ, HA, HB⟩ := hrel
    have hi0 : 0 ≤ ii := by have := HQ.out; omega
    by_cases hlt : ii < (len : Int)
    · have hkn : k < len := by have := HQ.out; omega
      have hik : ii.toNat = k := by have := HQ.out; omega
      obtain ⟨ad', c', e, hh⟩ := HV.out
      have hl2 := Hlen.out
      obtain ⟨rfl, -, rfl⟩ : ad = ad' ∧ len = xs.length ∧ c = c' := by cases e; exact ⟨rfl, hl2.symm, rfl⟩
      have hkx : k < xs.length := by omega
      obtain ⟨b', o', rfl, hb', hc⟩ := hh.resolve_left (fun h => by rw [h] at hkx; cases hkx)
      have q0 := (HB.out.cell (p := ⟨b', o' + k, none⟩) hb').trans (hc k (by omega))
      clear hh hc hb' e
      have HL := hid (HC.out wr HB.out (xs.getD k 0))
      obtain ⟨y, hy⟩ : ∃ y, wordOkZ S h (xs.getD k 0) = y := ⟨_, rfl⟩
      rw [hy] at HL
      have HY := hid hy
      clear hy
      generalize hx : xs.getD k 0 = x at *
      clear hl2
      go_wp2_with fail
      refine HL.out.mono ?_
      rintro e w2 ⟨rfl, hb2⟩
      have HB2 := hid (HB.out.trans (hb2.mono HB.out.size))
      clear hb2 HL q0
      cases y with
      | false =>
        have HF : Hid (R = false) := by
          show _ = _
          rw [← HR.out]
          unfold implRoots
          exact all_no2 (j := k) hkx (by rw [hx]; exact HY.out)
        go_wp2_with fail
        go_ret
        exact ⟨⟨_, rfl, by rw [HF.out]; exact decide_eq_true hi0⟩, HB2.out⟩
      | true =>
        go_wp2_with fail
        have hw : wrap64 (ii + 1) = ii + 1 := by have := HQ.out; have := HM.out; unfold wrap64; omega
        try rw [hw]
        have hs : len - (intOf (.int .i64 (ii + 1))).toNat < len - (intOf (.int .i64 ii)).toNat := by simp only [intOf]; omega
        refine ⟨⟨ii + 1, k + 1, rfl, ⟨by have := HQ.out; push_cast; omega, by omega⟩, fun j hj => ?_, HB2.out⟩, hs⟩
        by_cases hjk : j = k
        · rw [hjk, hx]
          exact HY.out
        · exact HA.out j (by omega)
    · have HF : Hid (R = true) := by
        show _ = _
        rw [← HR.out]
        unfold implRoots
        exact all_yes2 (fun j hj => HA.out j (by have := HQ.out; have := Hlen.out; omega))
      go_wp2_with fail
      go_ret
      exact ⟨⟨-1, rfl, by rw [HF.out]; rfl⟩, HB.out⟩

set_option maxHeartbeats 1000000 in
set_option maxRecDepth 100000 in
theorem allOk_calls (ad : Option Addr) (c b off cap gb N : Nat) (ws S : List Int) (h : HpN) (xs : List Int) (w : World) (ho : Ordered h N) (hs : ISt b off gb N ws S w) (hv : IntSlice w (.slice ad xs.length c) xs) (hm : xs.length ≤ 20) :
    Calls Try.prog 41 #[layV (.slice (some ⟨b, off, none⟩) N cap) h (.slice (some ⟨gb, 0, none⟩) N N), .slice ad xs.length c] w fun e w' => e = .returned (.bool (implRoots S h xs)) ∧ Below w.heap.size w w' := by
  have hL := LayBlk.new w (.slice (some ⟨b, off, none⟩) N cap) h (.slice (some ⟨gb, 0, none⟩) N N)
  have k1 := (Below.refl w.heap.size w).alloc (Nat.le_refl _) (.cells #[.slice (some ⟨b, off, none⟩) N cap, .int .i64 h.size, .int .i64 h.to, .int .i64 h.bottom, .int .i64 h.top, .int .i64 h.scan, .int .i64 h.fb, .int .i64 h.ft, .int .i64 h.flips, .int .i64 h.touched, .slice (some ⟨gb, 0, none⟩) N N] 58)
  have HX := hid (okIndex_calls ad c b off cap gb N w.heap.size ws S h xs _ ho (hs.kept k1) hL (hv.below k1) hm)
  have HK := hid k1
  clear hL k1 hs hv hm ho
  obtain ⟨g1, g2, g3, g4, g5, g6, g7, g8, g9⟩ := h
  generalize implRoots S ⟨g1, g2, g3, g4, g5, g6, g7, g8, g9⟩ xs = R at *
  generalize xs.length = len at *
  unfold layV
  dsimp only at *
  generalize hW : w.alloc (.cells #[.slice (some ⟨b, off, none⟩) N cap, .int .i64 g1, .int .i64 g2, .int .i64 g3, .int .i64 g4, .int .i64 g5, .int .i64 g6, .int .i64 g7, .int .i64 g8, .int .i64 g9, .slice (some ⟨gb, 0, none⟩) N N] 58) = W1 at *
  have HY : Hid (Calls Try.prog 67 #[.slice ad len c, .func (.func 68) #[] #[.pointer (some ⟨w.heap.size, 0, none⟩)]] W1 fun e w' => e = .returned (.bool (!R)) ∧ Below w.heap.size w w') := by
    show Calls _ _ _ _ _
    go_enter Try.func67, Try.ntmps67
    go_wp2_with fail
    refine HX.out.mono ?_
    rintro e w2 ⟨⟨r, rfl, hr⟩, hb2⟩
    have Hr : Hid (decide (0 ≤ r) = !R) := hr
    have HB := hid (HK.out.trans (hb2.mono HK.out.size))
    clear hr hb2
    go_wp2_with fail
    go_ret
    exact ⟨by rw [← Hr.out]; rfl, HB.out⟩
  clear HX
  have HW := hid hW
  clear hW
  go_enter Try.func41, Try.ntmps41
  go_wp2_with fail
  rw [HW.out]
  refine HY.out.mono ?_
  rintro e w2 ⟨rfl, hb2⟩
  have HB := hid hb2
  clear hb2 HY
  cases R
  all_goals
    go_wp2_with fail
    go_ret
    exact ⟨rfl, HB.out⟩

set_option maxHeartbeats 1000000 in
set_option maxRecDepth 100000 in
theorem rootsOk_calls (ad : Option Addr) (c b off cap gb N : Nat) (ws S : List Int) (h : HpN) (xs : List Int) (w : World) (ho : Ordered h N) (hs : ISt b off gb N ws S w) (hv : IntSlice w (.slice ad xs.length c) xs) (hm : xs.length ≤ 1048576) :
    Calls Try.prog 31 #[layV (.slice (some ⟨b, off, none⟩) N cap) h (.slice (some ⟨gb, 0, none⟩) N N), .slice ad xs.length c] w fun e w' => e = .returned (.bool (decide (xs.length ≤ 20) && implRoots S h xs)) ∧ Below w.heap.size w w' := by
  have k1 := (Below.refl w.heap.size w).alloc (Nat.le_refl _) (.cells #[.slice (some ⟨b, off, none⟩) N cap, .int .i64 h.size, .int .i64 h.to, .int .i64 h.bottom, .int .i64 h.top, .int .i64 h.scan, .int .i64 h.fb, .int .i64 h.ft, .int .i64 h.flips, .int .i64 h.touched, .slice (some ⟨gb, 0, none⟩) N N] 58)
  have HX := hid (fun hm => allOk_calls ad c b off cap gb N ws S h xs _ ho (hs.kept k1) (hv.below k1) hm)
  have HX0 := hid (fun hm => allOk_calls ad c b off cap gb N ws S h xs _ ho hs hv hm)
  have HK := hid k1
  clear k1 hs hv ho
  obtain ⟨g1, g2, g3, g4, g5, g6, g7, g8, g9⟩ := h
  generalize implRoots S ⟨g1, g2, g3, g4, g5, g6, g7, g8, g9⟩ xs = R at *
  generalize xs.length = len at *
  unfold layV at *
  dsimp only at *
  by_cases h20 : (len : Int) ≤ 20
  · rw [decide_eq_true (show len ≤ 20 by omega), Bool.true_and]
    go_enter Try.func31, Try.ntmps31
    go_wp2_with fail
    first
      | refine (HX.out (by omega)).mono ?_
      | refine (HX0.out (by omega)).mono ?_
    rintro e w2 ⟨rfl, hb2⟩
    have HB := hid (HK.out.trans (hb2.mono HK.out.size))
    clear hb2
    go_wp2_with fail
    go_ret
    exact ⟨rfl, HB.out⟩
  · rw [decide_eq_false (show ¬ len ≤ 20 by omega), Bool.false_and]
    go_enter Try.func31, Try.ntmps31
    go_wp2_with fail
    go_ret
    exact ⟨rfl, by first | exact HK.out | exact Below.refl _ _⟩
end Go.Proofs.Ytebpgglegnljgaa

/- The program's HeapGraph: heaps and roots that are not fit; what the loop keeps. -/
namespace Go.Proofs.Ytebpgglegnljgaa
open Go.RowKit

theorem info_obj : (Try.prog.info? 45).map (fun i => (i.zero, i.size, i.bytes)) = some (some (.agg #[.int .i64 0, .slice none 0 0]), 2, 32) := by kernel_rfl

/-- The block of a function that has a heap. -/
theorem one_new (w : World) (v : Value) (h : HpN) : ∃ W0, w.alloc (.cells #[v, .int .i64 h.size, .int .i64 h.to, .int .i64 h.bottom, .int .i64 h.top, .int .i64 h.scan, .int .i64 h.fb, .int .i64 h.ft, .int .i64 h.flips, .int .i64 h.touched] 25) = W0 ∧ HeapBlk W0 w.heap.size v h ∧ Below w.heap.size w W0 :=
  ⟨_, rfl, (MapKept.heap_alloc w _).1, (Below.refl _ _).alloc (Nat.le_refl _) _⟩

set_option maxHeartbeats 2000000 in
set_option maxRecDepth 100000 in
theorem iGraph_notOk (b off cap N : Nat) (h : HpN) (rg n rc : Nat) (w : World)
    (HLy : Hid (∀ X, Below w.heap.size w X → Calls Try.prog 30 #[heapV (.slice (some ⟨b, off, none⟩) N cap) h] X fun e w' => e = .returned (.tuple #[noLay, .bool false]) ∧ Below X.heap.size X w')) :
    Calls Try.prog 8 #[heapV (.slice (some ⟨b, off, none⟩) N cap) h, .slice (some ⟨rg, 0, none⟩) n rc] w fun e w' => e = .returned (.tuple #[.slice none 0 0, .slice none 0 0, .bool false]) ∧ Below w.heap.size w w' := by
  obtain ⟨g1, g2, g3, g4, g5, g6, g7, g8, g9⟩ := h
  unfold heapV at *
  dsimp only at *
  obtain ⟨W0, hW0, hA, k2⟩ := one_new w (.slice (some ⟨b, off, none⟩) N cap) ⟨g1, g2, g3, g4, g5, g6, g7, g8, g9⟩
  dsimp only at hW0
  have HW0 := hid hW0
  have HK2 := hid k2
  clear hW0 hA k2
  go_enter Try.func8, Try.ntmps8
  go_wp2_with fail
  rw [HW0.out]
  refine (HLy.out _ HK2.out).mono ?_
  rintro e W1 ⟨rfl, hb1⟩
  unfold noLay layV
  dsimp only
  have k1 := HK2.out.trans (hb1.mono HK2.out.size)
  have HB6 := hid (k1.alloc k1.size (.cells #[.slice none 0 0, .int .i64 0, .int .i64 0, .int .i64 0, .int .i64 0, .int .i64 0, .int .i64 0, .int .i64 0, .int .i64 0, .int .i64 0, .slice none 0 0] 58))
  clear k1 hb1 HW0 HK2 HLy
  go_wp2_with fail
  exact bodyPost_ret (v := .tuple #[.slice none 0 0, .slice none 0 0, .bool false]) (by simp [results, Try.results8, go_sem]) rfl ⟨rfl, HB6.out⟩

set_option maxHeartbeats 2000000 in
set_option maxRecDepth 100000 in
theorem iGraph_noRoot (b off cap N : Nat) (h : HpN) (rg n rc : Nat) (w : World)
    (ws S : List Int)
    (HLy : Hid (∀ X, Below w.heap.size w X → Calls Try.prog 30 #[heapV (.slice (some ⟨b, off, none⟩) N cap) h] X fun e w' => ∃ gb, e = .returned (.tuple #[layV (.slice (some ⟨b, off, none⟩) N cap) h (.slice (some ⟨gb, 0, none⟩) N N), .bool true]) ∧ Hid (ISt b off gb N ws S w') ∧ Below X.heap.size X w'))
    (HRt : Hid (∀ (X : World) (gb : Nat), Below w.heap.size w X → ISt b off gb N ws S X → Calls Try.prog 31 #[layV (.slice (some ⟨b, off, none⟩) N cap) h (.slice (some ⟨gb, 0, none⟩) N N), .slice (some ⟨rg, 0, none⟩) n rc] X fun e w' => e = .returned (.bool false) ∧ Below X.heap.size X w')) :
    Calls Try.prog 8 #[heapV (.slice (some ⟨b, off, none⟩) N cap) h, .slice (some ⟨rg, 0, none⟩) n rc] w fun e w' => e = .returned (.tuple #[.slice none 0 0, .slice none 0 0, .bool false]) ∧ Below w.heap.size w w' := by
  obtain ⟨g1, g2, g3, g4, g5, g6, g7, g8, g9⟩ := h
  unfold heapV at *
  dsimp only at *
  obtain ⟨W0, hW0, hA, k2⟩ := one_new w (.slice (some ⟨b, off, none⟩) N cap) ⟨g1, g2, g3, g4, g5, g6, g7, g8, g9⟩
  dsimp only at hW0
  have HW0 := hid hW0
  have HK2 := hid k2
  clear hW0 hA k2
  go_enter Try.func8, Try.ntmps8
  go_wp2_with fail
  rw [HW0.out]
  refine (HLy.out _ HK2.out).mono ?_
  rintro e W1 ⟨gb, rfl, HI, hb1⟩
  unfold layV at *
  dsimp only at *
  have k1 := HK2.out.trans (hb1.mono HK2.out.size)
  have HB2 := hid (k1.alloc k1.size (.cells #[.slice (some ⟨b, off, none⟩) N cap, .int .i64 g1, .int .i64 g2, .int .i64 g3, .int .i64 g4, .int .i64 g5, .int .i64 g6, .int .i64 g7, .int .i64 g8, .int .i64 g9, .slice (some ⟨gb, 0, none⟩) N N] 58))
  have HI2 := hid (HI.out.kept ((Below.refl _ W1).alloc (Nat.le_refl _) (.cells #[.slice (some ⟨b, off, none⟩) N cap, .int .i64 g1, .int .i64 g2, .int .i64 g3, .int .i64 g4, .int .i64 g5, .int .i64 g6, .int .i64 g7, .int .i64 g8, .int .i64 g9, .slice (some ⟨gb, 0, none⟩) N N] 58)))
  clear k1 hb1 HW0 HK2 HLy HI
  go_wp2_with fail
  generalize W1.alloc (.cells #[.slice (some ⟨b, off, none⟩) N cap, .int .i64 g1, .int .i64 g2, .int .i64 g3, .int .i64 g4, .int .i64 g5, .int .i64 g6, .int .i64 g7, .int .i64 g8, .int .i64 g9, .slice (some ⟨gb, 0, none⟩) N N] 58) = W2 at *
  refine (HRt.out _ _ HB2.out HI2.out).mono ?_
  rintro e W6 ⟨rfl, hb6⟩
  have HB6 := hid (HB2.out.trans (hb6.mono HB2.out.size))
  clear hb6 HB2 HI2
  go_wp2_with fail
  exact bodyPost_ret (v := .tuple #[.slice none 0 0, .slice none 0 0, .bool false]) (by simp [results, Try.results8, go_sem]) rfl ⟨rfl, HB6.out⟩

/-- The cells of objects: kinds, and slices of their fields. -/
def objCells (os : List (Int × List Int)) (gs : Nat → Nat) : List Value := (List.range os.length).flatMap (fun i => [.int .i64 (os.getD i (0, [])).1, .slice (some ⟨gs i, 0, none⟩) (os.getD i (0, [])).2.length (os.getD i (0, [])).2.length])

theorem objCells_snoc (os : List (Int × List Int)) (x : Int × List Int) (gs gs' : Nat → Nat) (g : Nat) (hv : ∀ i, i < os.length → gs' i = gs i) (h : gs' os.length = g) : objCells (os ++ [x]) gs' = objCells os gs ++ [.int .i64 x.1, .slice (some ⟨g, 0, none⟩) x.2.length x.2.length] := by
  unfold objCells
  rw [List.length_append, List.length_singleton, List.range_succ, List.flatMap_append]
  congr 1
  · have e : ∀ i ∈ List.range os.length, [Value.int .i64 ((os ++ [x]).getD i (0, [])).1, Value.slice (some ⟨gs' i, 0, none⟩) ((os ++ [x]).getD i (0, [])).2.length ((os ++ [x]).getD i (0, [])).2.length] = [Value.int .i64 (os.getD i (0, [])).1, Value.slice (some ⟨gs i, 0, none⟩) (os.getD i (0, [])).2.length (os.getD i (0, [])).2.length] := fun i hi => by
      have hi' := List.mem_range.1 hi
      rw [hv i hi']
      simp [List.getD, List.getElem?_append_left hi']
    rw [List.flatMap_def, List.flatMap_def, List.map_congr_left e]
  · simp [h, List.getD]

/-- What the loop keeps: one who tells, the objects told, and all that lay there ahead of it. -/
structure GSt (W0 : World) (B bg bp N : Nat) (vw : Value) (h : HpN) (v0 : Value) (met : List Nat) (vm : Value) (os : List (Int × List Int)) (gs : Nat → Nat) (vo : Value) (W : World) : Prop where
  gph : Gph B bg bp N vw h met vm W
  row : W.ownsRow B 45 2 vo os.length (objCells os gs)
  fld : ∀ i, i < os.length → CellRow 3 W (gs i) (os.getD i (0, [])).2.length (intCells (os.getD i (0, [])).2)
  new : ∀ i, i < os.length → W0.heap.size ≤ gs i
  o1 : ∀ q, vo.ownBlock = some q → W0.heap.size ≤ q
  a1 : ∀ q, vo.ownBlock = some q → vm.ownBlock ≠ some q
  a2 : ∀ i, i < os.length → vm.ownBlock ≠ some (gs i) ∧ vo.ownBlock ≠ some (gs i)
  inj : ∀ i j, i < j → j < os.length → gs i ≠ gs j
  lg : bg < W0.heap.size
  lp : bp < W0.heap.size
  mv : MovedTo W0 v0 vm
  frm : FrmG W0 bg bp v0 W

theorem owns_of_block' {B : Nat} {e : TypeId} {sz : Nat} {W W' : World} {vm : Value} {n : Nat} {xs : List Value} (h : W.ownsRow B e sz vm n xs) (he : ∀ g, vm.ownBlock = some g → W'.heap[g]? = W.heap[g]?) : W'.ownsRow B e sz vm n xs := by
  obtain ⟨h0, ⟨rfl, h1⟩ | ⟨g, cap, cur, rfl, hB, hc, hr⟩⟩ := h
  · exact ⟨h0, Or.inl ⟨rfl, h1⟩⟩
  · exact ⟨h0, Or.inr ⟨g, cap, cur, rfl, hB, (he g (by simp [Value.ownBlock])).trans hc, hr⟩⟩

theorem owns_at' {B : Nat} {e : TypeId} {sz : Nat} {W : World} {vm : Value} {n : Nat} {xs : List Value} (h : W.ownsRow B e sz vm n xs) : (∀ g, vm.ownBlock = some g → B ≤ g ∧ g < W.heap.size) ∧ ∃ ad c, vm = .slice ad n c := by
  obtain ⟨-, ⟨rfl, h0⟩ | ⟨g, cap, cur, rfl, hB, hc, -⟩⟩ := h
  · exact ⟨fun g e => by simp [Value.ownBlock] at e, none, 0, by rw [h0]⟩
  · refine ⟨fun g' e => ?_, _, cap, rfl⟩
    simp [Value.ownBlock] at e
    subst e
    exact ⟨hB, heap_lt hc⟩

/-- New memory alone. -/
theorem GSt.below {W0 : World} {B bg bp N : Nat} {vw : Value} {h : HpN} {v0 : Value} {met : List Nat} {vm : Value} {os : List (Int × List Int)} {gs : Nat → Nat} {vo : Value} {W W' : World} (s : GSt W0 B bg bp N vw h v0 met vm os gs vo W) (hb : Below W.heap.size W W') : GSt W0 B bg bp N vw h v0 met vm os gs vo W' where
  gph := s.gph.keep hb
  row := owns_of_block' s.row (fun g e => hb.block g ((owns_at' s.row).1 g e).2)
  fld := fun i hi => (s.fld i hi).of_block (hb.block _ (s.fld i hi).lt)
  new := s.new
  o1 := s.o1
  a1 := s.a1
  a2 := s.a2
  inj := s.inj
  lg := s.lg
  lp := s.lp
  mv := s.mv
  frm := s.frm.trans s.mv (FrmG.of_below hb bg bp vm)

/-- A list is told. -/
theorem GSt.tells {W0 : World} {B bg bp N : Nat} {vw : Value} {h : HpN} {v0 : Value} {met met' : List Nat} {vm vm' : Value} {os : List (Int × List Int)} {gs : Nat → Nat} {vo : Value} {W W' : World} (s : GSt W0 B bg bp N vw h v0 met vm os gs vo W) (hg : Gph B bg bp N vw h met' vm' W') (hf : FrmG W bg bp vm W') (hm : MovedTo W vm vm') : GSt W0 B bg bp N vw h v0 met' vm' os gs vo W' := by
  have hap : ∀ q, q < W.heap.size → vm.ownBlock ≠ some q → vm'.ownBlock ≠ some q := fun q hq h1 e => by
    rcases hm with h | ⟨g, h, hl⟩
    · exact h1 (h.symm.trans e)
    · rw [e] at h
      cases h
      omega
  have hlo := (owns_at' s.row).1
  have lg := s.lg
  have lp := s.lp
  refine ⟨hg, owns_of_block' s.row (fun g e => hf.block g (hlo g e).2 ?_ ?_ (s.a1 g e)), fun i hi => (s.fld i hi).of_block (hf.block _ (s.fld i hi).lt ?_ ?_ (s.a2 i hi).1), s.new, s.o1, fun q e => hap q (hlo q e).2 (s.a1 q e), fun i hi => ⟨hap _ (s.fld i hi).lt (s.a2 i hi).1, (s.a2 i hi).2⟩, s.inj, s.lg, s.lp, MovedTo.trans s.frm.size s.mv hm, s.frm.trans s.mv hf⟩
  · have := s.o1 g e; omega
  · have := s.o1 g e; omega
  · have := s.new i hi; omega
  · have := s.new i hi; omega

/-- An object is put behind those that were told. -/
theorem GSt.push {W0 : World} {B bg bp N : Nat} {vw : Value} {h : HpN} {v0 : Value} {met : List Nat} {vm : Value} {os : List (Int × List Int)} {gs : Nat → Nat} {vo vo' : Value} {W W' : World} (s : GSt W0 B bg bp N vw h v0 met vm os gs vo W) (x : Int × List Int) (g : Nat) (hr : CellRow 3 W g x.2.length (intCells x.2)) (h0 : W0.heap.size ≤ g) (hgm : vm.ownBlock ≠ some g) (hgo : vo.ownBlock ≠ some g) (hgi : ∀ i, i < os.length → gs i ≠ g)
    (hown : W'.ownsRow B 45 2 vo' (os.length + 1) (objCells os gs ++ [.int .i64 x.1, .slice (some ⟨g, 0, none⟩) x.2.length x.2.length])) (hgr : W.grownBy W' vo.ownBlock) (hat : vo'.ownBlock = vo.ownBlock ∨ ∃ q, vo'.ownBlock = some q ∧ W.heap.size ≤ q) :
    GSt W0 B bg bp N vw h v0 met vm (os ++ [x]) (fun i => if i = os.length then g else gs i) vo' W' := by
  obtain ⟨gos, gtape, gout, gsz, gblk⟩ := hgr
  have kb : ∀ q, q < W.heap.size → vo.ownBlock ≠ some q → W'.heap[q]? = W.heap[q]? := fun q hq hn => gblk q hq hn.symm
  have hlo := (owns_at' s.row).1
  have lg := s.lg
  have lp := s.lp
  have hfs := s.frm.size
  have nb : ∀ q, q < W0.heap.size → vo.ownBlock ≠ some q := fun q hq e => by have := s.o1 q e; omega
  have na : ∀ q, q < W.heap.size → vo.ownBlock ≠ some q → vo'.ownBlock ≠ some q := fun q hq h1 e => by
    rcases hat with h | ⟨g, h, hl⟩
    · exact h1 (h.symm.trans e)
    · rw [e] at h
      cases h
      omega
  have nm : ∀ q, vm.ownBlock = some q → vo.ownBlock ≠ some q := fun q e e' => s.a1 q e' e
  have G : ∀ i, i < os.length → ((os ++ [x]).getD i (0, [])) = os.getD i (0, []) := fun i hi => by simp [List.getD, List.getElem?_append_left hi]
  have Gl : ((os ++ [x]).getD os.length (0, [])) = x := by simp [List.getD]
  refine ⟨⟨(kb bg (by omega) (nb bg lg)).trans s.gph.blk, s.gph.places.of_block (kb bp (by omega) (nb bp lp)), owns_of_block s.gph.row (fun q e => kb q (s.gph.own_lt e).2 (nm q e)), s.gph.ne, s.gph.n1, s.gph.n2, s.gph.b1, s.gph.b2⟩, ?_, ?_, ?_, ?_, ?_, ?_, ?_, lg, lp, s.mv, ⟨gos.trans s.frm.os, gtape.trans s.frm.tape, gout.trans s.frm.output, by omega, fun q hq h1 h2 h3 => (kb q (by omega) (nb q hq)).trans (s.frm.block q hq h1 h2 h3)⟩⟩
  · rw [objCells_snoc os x gs (fun i => if i = os.length then g else gs i) g (fun i hi => if_neg (by omega)) (if_pos rfl), List.length_append, List.length_singleton]
    exact hown
  · intro i hi
    rw [List.length_append, List.length_singleton] at hi
    by_cases hl : i = os.length
    · subst hl
      rw [Gl]
      rw [if_pos rfl]
      exact hr.of_block (kb g hr.lt hgo)
    · rw [G i (by omega)]
      rw [if_neg hl]
      have hi' : i < os.length := by omega
      exact (s.fld i hi').of_block (kb _ (s.fld i hi').lt (s.a2 i hi').2)
  · intro i hi
    rw [List.length_append, List.length_singleton] at hi
    split
    · exact h0
    · exact s.new i (by omega)
  · intro q e
    rcases hat with h | ⟨g, h, hl⟩
    · exact s.o1 q (h.symm.trans e)
    · rw [e] at h
      cases h
      omega
  · intro q e
    rcases hat with h | ⟨g, h, hl⟩
    · exact s.a1 q (h.symm.trans e)
    · rw [e] at h
      cases h
      intro e'
      have := (s.gph.own_lt e').2
      omega
  · intro i hi
    rw [List.length_append, List.length_singleton] at hi
    split
    · exact ⟨hgm, na g hr.lt hgo⟩
    · have hi' : i < os.length := by omega
      exact ⟨(s.a2 i hi').1, na _ (s.fld i hi').lt (s.a2 i hi').2⟩
  · intro i j hij hj
    rw [List.length_append, List.length_singleton] at hj
    rw [if_neg (show ¬ i = os.length by omega)]
    split
    · exact hgi i (by omega)
    · exact s.inj i j hij (by omega)
end Go.Proofs.Ytebpgglegnljgaa

/- The program's HeapGraph: a heap and roots that are fit. -/
namespace Go.Proofs.Ytebpgglegnljgaa
open Go.RowKit

/-- What telling all that roots lead to comes to. -/
def GraphTold (w : World) (ws xs : List Int) (e : Ending) (w' : World) : Prop :=
  ∃ (K : Nat) (vo : Value) (gs : Nat → Nat) (gt : Nat), (∀ j, j < K → j < (graphRun ws j (tellsRun ws xs xs.length []).1).1.length) ∧ (graphRun ws K (tellsRun ws xs xs.length []).1).1.length ≤ K ∧
    e = .returned (.tuple #[vo, .slice (some ⟨gt, 0, none⟩) xs.length xs.length, .bool true]) ∧
    w'.ownsRow w.heap.size 45 2 vo (graphRun ws K (tellsRun ws xs xs.length []).1).2.length (objCells (graphRun ws K (tellsRun ws xs xs.length []).1).2 gs) ∧
    (∀ i, i < (graphRun ws K (tellsRun ws xs xs.length []).1).2.length → CellRow 3 w' (gs i) ((graphRun ws K (tellsRun ws xs xs.length []).1).2.getD i (0, [])).2.length (intCells ((graphRun ws K (tellsRun ws xs xs.length []).1).2.getD i (0, [])).2) ∧ w.heap.size ≤ gs i ∧ vo.ownBlock ≠ some (gs i) ∧ gs i ≠ gt) ∧
    (∀ i j, i < j → j < (graphRun ws K (tellsRun ws xs xs.length []).1).2.length → gs i ≠ gs j) ∧
    CellRow 3 w' gt xs.length (intCells (tellsRun ws xs xs.length []).2) ∧ w.heap.size ≤ gt ∧ vo.ownBlock ≠ some gt ∧ Below w.heap.size w w'

theorem size_here {ws S : List Int} {h : HpN} (ok : OkHeap ws S h) {a : Nat} (n : Node ws S a) : sizeZ (ws.getD a 0) = ws.getD a 0 / 16 := by
  have hn := ok.noted.2 a n.here
  have hs : sizeZ (ws.getD a 0) ≠ 0 := by rw [← hn.2.1]; exact n.here
  have hk := n.kind
  unfold sizeZ at hs ⊢
  rw [if_neg hk] at hs ⊢
  split
  · rename_i h
    rw [if_pos h] at hs
    exact absurd rfl hs
  · rfl

theorem append_run {P : Program} {a : Act} {o : Oper} {s x : Operand} {t : TypeId} (ho : o.op = .call { callee := .builtin .append, args := #[s, x], argTypes := #[t, t] }) {v vx : Value} (hs : a.eval s = v) (hx : a.eval x = vx) {w w' : World} {v' : Value} (hr : (Builtin.append_ #[t, t] o.type #[v, vx]).run P w = .ok v' w') : (execOp a.eval o).run P w = .ok (.value v') w' := by
  unfold execOp
  simp only [ho, resolve, invoke, builtin, Sem.run_bind, Sem.run_pure, Result.andThen_ok, List.map_toArray, List.map_cons, List.map_nil, hs, hx, hr]

/-- One who tells, and has told nothing yet. -/
theorem gph_new {B bg bp N : Nat} {vw : Value} {h : HpN} {W6 : World} (hB : B ≤ W6.heap.size) (W : World) (h1 : W6.heap.size ≤ bg) (h2 : W6.heap.size ≤ bp) (hne : bp ≠ bg)
    (hb : W.heap[bg]? = some (.cells #[vw, .int .i64 h.size, .int .i64 h.to, .int .i64 h.bottom, .int .i64 h.top, .int .i64 h.scan, .int .i64 h.fb, .int .i64 h.ft, .int .i64 h.flips, .int .i64 h.touched, .slice (some ⟨bp, 0, none⟩) N N, .slice none 0 0] 63))
    (hr : CellRow 3 W bp N (intCells (List.replicate N 0))) : Hid (Gph B bg bp N vw h [] (.slice none 0 0) W) := by
  refine ⟨hb, hr.congr (fun i hi => ?_), World.ownsRow_nil _ _ _ _, hne, by simp [Value.ownBlock], by simp [Value.ownBlock], by omega, by omega⟩
  unfold intCells placeZ
  simp [List.getD, hi]

set_option maxHeartbeats 4000000 in
set_option maxRecDepth 100000 in
theorem iGraph_good (b off cap N : Nat) (h : HpN) (rg n rc : Nat) (w : World) (ws S xs : List Int) (ok : OkHeap ws S h) (d : Wds b off N ws w) (hN : N ≤ 8000) (hcap : N ≤ cap) (hl : ListAt rg 0 xs w) (hxn : xs.length = n) (hn : n ≤ 20) (hx : ∀ i, i < xs.length → Leads ws S (xs.getD i 0))
    (HLy : Hid (∀ X, Below w.heap.size w X → Calls Try.prog 30 #[heapV (.slice (some ⟨b, off, none⟩) N cap) h] X fun e w' => ∃ gb, e = .returned (.tuple #[layV (.slice (some ⟨b, off, none⟩) N cap) h (.slice (some ⟨gb, 0, none⟩) N N), .bool true]) ∧ Hid (ISt b off gb N ws S w') ∧ Below X.heap.size X w'))
    (HRt : Hid (∀ (X : World) (gb : Nat), Below w.heap.size w X → ISt b off gb N ws S X → Calls Try.prog 31 #[layV (.slice (some ⟨b, off, none⟩) N cap) h (.slice (some ⟨gb, 0, none⟩) N N), .slice (some ⟨rg, 0, none⟩) n rc] X fun e w' => e = .returned (.bool true) ∧ Below X.heap.size X w')) :
    Calls Try.prog 8 #[heapV (.slice (some ⟨b, off, none⟩) N cap) h, .slice (some ⟨rg, 0, none⟩) n rc] w (GraphTold w ws xs) := by
  have HOk := hid ok
  have HD := hid d
  have HL := hid hl
  have HX := hid hx
  have HXn := hid hxn
  have HN8 := hid hN
  have HN20 := hid hn
  have HCp := hid hcap
  clear ok d hl hx hxn hn hcap
  obtain ⟨g1, g2, g3, g4, g5, g6, g7, g8, g9⟩ := h
  unfold heapV at *
  dsimp only at *
  obtain ⟨W0, hW0, hA, k2⟩ := one_new w (.slice (some ⟨b, off, none⟩) N cap) ⟨g1, g2, g3, g4, g5, g6, g7, g8, g9⟩
  dsimp only at hW0
  have HW0 := hid hW0
  have HK2 := hid k2
  have HA := hid hA
  clear hW0 hA k2
  go_enter Try.func8, Try.ntmps8
  go_wp2_with fail
  rw [HW0.out]
  refine (HLy.out _ HK2.out).mono ?_
  rintro e W1 ⟨gb, rfl, HI, hb1⟩
  unfold layV at *
  dsimp only at *
  have k1 := HK2.out.trans (hb1.mono HK2.out.size)
  have HB2 := hid (k1.alloc k1.size (.cells #[.slice (some ⟨b, off, none⟩) N cap, .int .i64 g1, .int .i64 g2, .int .i64 g3, .int .i64 g4, .int .i64 g5, .int .i64 g6, .int .i64 g7, .int .i64 g8, .int .i64 g9, .slice (some ⟨gb, 0, none⟩) N N] 58))
  have HI2 := hid (HI.out.kept ((Below.refl _ W1).alloc (Nat.le_refl _) (.cells #[.slice (some ⟨b, off, none⟩) N cap, .int .i64 g1, .int .i64 g2, .int .i64 g3, .int .i64 g4, .int .i64 g5, .int .i64 g6, .int .i64 g7, .int .i64 g8, .int .i64 g9, .slice (some ⟨gb, 0, none⟩) N N] 58)))
  have HA2 := hid ((HA.out.below hb1).below ((Below.refl _ W1).alloc (Nat.le_refl _) (.cells #[.slice (some ⟨b, off, none⟩) N cap, .int .i64 g1, .int .i64 g2, .int .i64 g3, .int .i64 g4, .int .i64 g5, .int .i64 g6, .int .i64 g7, .int .i64 g8, .int .i64 g9, .slice (some ⟨gb, 0, none⟩) N N] 58)))
  clear k1 hb1 HW0 HK2 HLy HI HA
  go_wp2_with fail
  generalize W1.alloc (.cells #[.slice (some ⟨b, off, none⟩) N cap, .int .i64 g1, .int .i64 g2, .int .i64 g3, .int .i64 g4, .int .i64 g5, .int .i64 g6, .int .i64 g7, .int .i64 g8, .int .i64 g9, .slice (some ⟨gb, 0, none⟩) N N] 58) = W2 at *
  refine (HRt.out _ _ HB2.out HI2.out).mono ?_
  rintro e W6 ⟨rfl, hb6⟩
  have HB6 := hid (HB2.out.trans (hb6.mono HB2.out.size))
  have HA6 := hid (HA2.out.below hb6)
  clear hb6 HB2 HI2 HA2 HRt
  obtain ⟨c0, c1, c2, c3, c4, c5, c6, c7, c8, c9⟩ := HA6.out.cells
  dsimp only at c0 c1 c2 c3 c4 c5 c6 c7 c8 c9
  have hmk := run_make_row' (P := Try.prog) 23 3 (.int .i64 0) 8 Try.underlying23 info_int rfl .i64 .i64 N (by omega) (by omega)
  have hs6 := HB6.out.size
  have hlA : w.heap.size < W6.heap.size := heap_lt HA6.out
  go_upto_region 4 with fail
  go_cut [9] from 28 to 33 (fun t wx => ∃ bg bp : Nat, t = .pointer (some ⟨bg, 0, none⟩) ∧ Hid (Gph w.heap.size bg bp N (.slice (some ⟨b, off, none⟩) N cap) ⟨g1, g2, g3, g4, g5, g6, g7, g8, g9⟩ [] (.slice none 0 0) wx) ∧ Hid (Below W6.heap.size W6 wx) ∧ Hid (W6.heap.size ≤ bg ∧ W6.heap.size ≤ bp))
  case first =>
    go_region_held3 (fun w' => w'.cell? ⟨w.heap.size, 0, none⟩ = some (.slice (some ⟨b, off, none⟩) N cap) ∧ w'.cell? ⟨w.heap.size, 1, none⟩ = some (.int .i64 g1) ∧ w'.cell? ⟨w.heap.size, 2, none⟩ = some (.int .i64 g2) ∧ w'.cell? ⟨w.heap.size, 3, none⟩ = some (.int .i64 g3) ∧ w'.cell? ⟨w.heap.size, 4, none⟩ = some (.int .i64 g4) ∧ w'.cell? ⟨w.heap.size, 5, none⟩ = some (.int .i64 g5) ∧ w'.cell? ⟨w.heap.size, 6, none⟩ = some (.int .i64 g6) ∧ w'.cell? ⟨w.heap.size, 7, none⟩ = some (.int .i64 g7) ∧ w'.cell? ⟨w.heap.size, 8, none⟩ = some (.int .i64 g8) ∧ w'.cell? ⟨w.heap.size, 9, none⟩ = some (.int .i64 g9)) (go_keep) (fail)
    · have k2 := (((Below.refl W6.heap.size W6).alloc (Nat.le_refl _) (.cells (madeCells #[.int .i64 0] N) 3)).alloc (by simp) (.cells #[.slice (some ⟨b, off, none⟩) N cap, .int .i64 g1, .int .i64 g2, .int .i64 g3, .int .i64 g4, .int .i64 g5, .int .i64 g6, .int .i64 g7, .int .i64 g8, .int .i64 g9, .slice (some ⟨W6.heap.size, 0, none⟩) N N, .slice none 0 0] 63)).drew
      go_wp2_with fail
      go_meet
      case rel => exact ⟨_, _, rfl, gph_new HB6.out.size ((W6.alloc (.cells (madeCells #[.int .i64 0] N) 3)).alloc (.cells #[.slice (some ⟨b, off, none⟩) N cap, .int .i64 g1, .int .i64 g2, .int .i64 g3, .int .i64 g4, .int .i64 g5, .int .i64 g6, .int .i64 g7, .int .i64 g8, .int .i64 g9, .slice (some ⟨W6.heap.size, 0, none⟩) N N, .slice none 0 0] 63)).drew (bg := W6.heap.size + 1) (bp := W6.heap.size) (by omega) (by omega) (by omega) (by
        have e := (MapKept.heap_alloc (W6.alloc (.cells (madeCells #[.int .i64 0] N) 3)) (.cells #[.slice (some ⟨b, off, none⟩) N cap, .int .i64 g1, .int .i64 g2, .int .i64 g3, .int .i64 g4, .int .i64 g5, .int .i64 g6, .int .i64 g7, .int .i64 g8, .int .i64 g9, .slice (some ⟨W6.heap.size, 0, none⟩) N N, .slice none 0 0] 63)).1
        rw [World.size_alloc] at e
        exact e) ((ints_made W6 N).of_block (Below.heap_alloc _ _ _ (by simp))), k2, ⟨by omega, by omega⟩⟩
    · have k2 := (((Below.refl W6.heap.size W6).alloc (Nat.le_refl _) (.cells #[.slice (some ⟨b, off, none⟩) N cap, .int .i64 g1, .int .i64 g2, .int .i64 g3, .int .i64 g4, .int .i64 g5, .int .i64 g6, .int .i64 g7, .int .i64 g8, .int .i64 g9, .slice (some ⟨W6.heap.size + 1, 0, none⟩) N N, .slice none 0 0] 63)).alloc (by simp) (.cells (madeCells #[.int .i64 0] N) 3)).drew
      go_wp2_with fail
      go_meet
      case rel => exact ⟨_, _, rfl, gph_new HB6.out.size ((W6.alloc (.cells #[.slice (some ⟨b, off, none⟩) N cap, .int .i64 g1, .int .i64 g2, .int .i64 g3, .int .i64 g4, .int .i64 g5, .int .i64 g6, .int .i64 g7, .int .i64 g8, .int .i64 g9, .slice (some ⟨W6.heap.size + 1, 0, none⟩) N N, .slice none 0 0] 63)).alloc (.cells (madeCells #[.int .i64 0] N) 3)).drew (bg := W6.heap.size) (bp := W6.heap.size + 1) (by omega) (by omega) (by omega) ((Below.heap_alloc _ _ _ (by simp)).trans (MapKept.heap_alloc W6 _).1) (by
        have e := ints_made (W6.alloc (.cells #[.slice (some ⟨b, off, none⟩) N cap, .int .i64 g1, .int .i64 g2, .int .i64 g3, .int .i64 g4, .int .i64 g5, .int .i64 g6, .int .i64 g7, .int .i64 g8, .int .i64 g9, .slice (some ⟨W6.heap.size + 1, 0, none⟩) N N, .slice none 0 0] 63)) N
        rw [World.size_alloc] at e
        exact e.of_block rfl), k2, ⟨by omega, by omega⟩⟩
  case rest =>
    obtain ⟨bg, bp, rfl, HG, HB7, HLt⟩ := hcut
    clear c0 c1 c2 c3 c4 c5 c6 c7 c8 c9 hmk
    have HBw : Hid (Below w.heap.size w wc) := HB6.out.trans (HB7.out.mono hs6)
    have HA7 := hid (HA6.out.below HB7.out)
    have HTl := hid (tellAll_calls (lc := rc) HOk.out wc HG.out (HD.out.below HBw.out) HD.out.lt hN ⟨List.nodup_nil, fun a ha => by cases ha⟩ HXn.out HN20.out ⟨fun hp => Nat.lt_of_lt_of_le (HL.out.1 hp) HBw.out.size, fun k hk => (HBw.out.cell (p := ⟨rg, 0 + k, none⟩) (HL.out.1 (Nat.lt_of_le_of_lt (Nat.zero_le _) hk))).trans (HL.out.2 k hk)⟩ HL.out.1 HX.out)
    go_wp2_with fail
    refine HTl.out.mono ?_
    rintro e W8 ⟨gt, rfl, hr8, hg8, n1, n2, v0, hG8, hF8, hM8, hv8⟩
    have hz7 := HB7.out.size
    have hz8 := hF8.size
    have hlt := HLt.out
    have HT8 := hid hr8
    have HGt : Hid (w.heap.size ≤ gt) := by show _ ≤ _; omega
    have hcl : wc.heap.size ≤ W8.heap.size := hz8
    have HNg : Hid (gt < W8.heap.size ∧ gt ≠ bg ∧ gt ≠ bp ∧ v0.ownBlock ≠ some gt) := ⟨hr8.lt, n1, n2, hv8⟩
    have hbgl : bg < wc.heap.size := heap_lt HG.out.blk
    have hbpl : bp < wc.heap.size := HG.out.places.lt
    have HV0 : Hid (∀ q, q < wc.heap.size → v0.ownBlock ≠ some q) := fun q hq e => by
      rcases hM8 with h | ⟨q', h, hl⟩
      · rw [e] at h
        simp [Value.ownBlock] at h
      · rw [e] at h
        cases h
        omega
    have HNb : Hid (w.heap.size < wc.heap.size ∧ w.heap.size ≠ bg ∧ w.heap.size ≠ bp) := ⟨heap_lt HA7.out, by omega, by omega⟩
    have HA8 := hid ((hF8.block w.heap.size (heap_lt HA7.out) (by omega) (by omega) (by simp [Value.ownBlock])).trans HA7.out)
    have HD8 := hid (hF8.wds (HD.out.below HBw.out) HD.out.lt HG.out.b1 HG.out.b2 (fun q e => by simp [Value.ownBlock] at e))
    have HB8 : Hid (Below w.heap.size w W8) := HBw.out.trans ⟨hF8.os, hF8.tape, hF8.output, hF8.size, fun q hq => hF8.block q (by have := HBw.out.size; omega) (by omega) (by omega) (by simp [Value.ownBlock])⟩
    have HM0 : Hid (Met ws S (tellsRun ws xs n []).1) := (Met.tells HOk.out (met := []) ⟨List.nodup_nil, fun a ha => by cases ha⟩ HX.out n (by rw [HXn.out]; exact Nat.le_refl _)).1
    obtain ⟨M, hM⟩ : ∃ M, (tellsRun ws xs n []).1 = M := ⟨_, rfl⟩
    rw [hM] at hG8 HM0
    have HMe := hid hM
    have HS0 : Hid (GSt W8 w.heap.size bg bp N (.slice (some ⟨b, off, none⟩) N cap) ⟨g1, g2, g3, g4, g5, g6, g7, g8, g9⟩ v0 M v0 [] (fun _ => 0) (.slice none 0 0) W8) :=
      ⟨hG8, World.ownsRow_nil _ _ _ _, fun i hi => (by cases hi), fun i hi => (by cases hi), fun q e => (by simp [Value.ownBlock] at e), fun q e => (by simp [Value.ownBlock] at e), fun i hi => (by cases hi), fun i j _ hj => (by cases hj), by omega, by omega, Or.inl rfl, FrmG.refl _ _ _ _⟩
    clear hr8 hg8 n1 n2 hG8 hF8 hM8 hv8 hM HTl HB7 HA7 HG hz7 hz8 hlt HL HX HN20 HB6 HA6 hlA hs6 HLt
    go_wp2_with fail
    have HMg : Hid (∀ k, (∀ j, j < k → j < (graphRun ws j M).1.length) → Met ws S (graphRun ws k M).1 ∧ (graphRun ws k M).2.length = k) := fun k hk => ⟨(Met.graph HOk.out HM0.out k hk).1, (Met.graph HOk.out HM0.out k hk).2.2⟩
    go_loopw [11, 12] (fun vo nx wr => ∃ (ii : Int) (k : Nat) (vm : Value) (gs : Nat → Nat), nx = .int .i64 ii ∧ Hid (ii = (k : Int) ∧ ∀ j, j < k → j < (graphRun ws j M).1.length) ∧ Hid (GSt W8 w.heap.size bg bp N (.slice (some ⟨b, off, none⟩) N cap) ⟨g1, g2, g3, g4, g5, g6, g7, g8, g9⟩ v0 (graphRun ws k M).1 vm (graphRun ws k M).2 gs vo wr)) (fun _ nx _ => N - (intOf nx).toNat)
    case atStart => exact ⟨0, 0, v0, fun _ => 0, rfl, ⟨rfl, fun j hj => by omega⟩, HS0.out⟩
    case round =>
      obtain ⟨ii, k, vm, gs, rfl, HQ, HS⟩ := hrel
      have HMk := hid (HMg.out k HQ.out.2)
      have HNx : Hid (graphRun ws (k + 1) M = ((tellsRun ws (fieldsAtZ ws ((graphRun ws k M).1.getD k 0)) (fieldsAtZ ws ((graphRun ws k M).1.getD k 0)).length (graphRun ws k M).1).1, (graphRun ws k M).2 ++ [(ws.getD ((graphRun ws k M).1.getD k 0) 0 % 16, (tellsRun ws (fieldsAtZ ws ((graphRun ws k M).1.getD k 0)) (fieldsAtZ ws ((graphRun ws k M).1.getD k 0)).length (graphRun ws k M).1).2)])) := rfl
      have HLs : Hid (∀ j, j < k → j < (graphRun ws j M).1.length) := HQ.out.2
      have HQk : Hid (ii = (k : Int)) := HQ.out.1
      obtain ⟨mt, hmt⟩ : ∃ mt, (graphRun ws k M).1 = mt := ⟨_, rfl⟩
      obtain ⟨ot, hot⟩ : ∃ ot, (graphRun ws k M).2 = ot := ⟨_, rfl⟩
      rw [hmt, hot] at HS HNx HMk
      have Hmt := hid hmt
      have Hot := hid hot
      clear hmt hot HQ
      obtain ⟨-, ad, cm, rfl⟩ := owns_at HS.out.gph.row
      have c11 : wr.cell? ⟨bg, 11, none⟩ = some (.slice ad mt.length cm) := by rw [cell_of_heap HS.out.gph.blk]; rfl
      have HSh := hid (HMk.out.1.short HOk.out)
      by_cases hlt : ii < (mt.length : Int)
      · have hkm : k < mt.length := by have := HQk.out; omega
        have hik : ii.toNat = k := by have := HQk.out; omega
        have hi0 : 0 ≤ ii := by have := HQk.out; omega
        obtain ⟨gm, rfl⟩ : ∃ gm, ad = some ⟨gm, 0, none⟩ := by
          obtain ⟨-, ⟨e, h0⟩ | ⟨g, cap', cur, e, -⟩⟩ := HS.out.gph.row
          · omega
          · cases e
            exact ⟨g, rfl⟩
        have hnode : Node ws S (mt.getD k 0) := HMk.out.1.nodes _ (by simp [List.getD, hkm])
        obtain ⟨h36, haN, hfl⟩ := node_at HOk.out hnode
        have qm : wr.cell? ⟨gm, k, none⟩ = some (.int .i64 ((mt.getD k 0 : Nat) : Int)) := by
          have e := HS.out.gph.row.cells (g := gm) (by simp [Value.ownBlock]) k (.int .i64 ((mt.getD k 0 : Nat) : Int)) (by unfold metCells; simp [List.getD, hkm])
          rw [show (⟨gm, 0, none⟩ : Addr).add k = ⟨gm, k, none⟩ from by unfold Addr.add; split <;> simp_all] at e
          exact e
        have hgl : gm < wr.heap.size := (HS.out.gph.own_lt (by simp [Value.ownBlock])).2
        have hfl' := fieldsAtZ_len ws (mt.getD k 0)
        have hsz : sizeZ (ws.getD (mt.getD k 0) 0) = ws.getD (mt.getD k 0) 0 / 16 := size_here HOk.out hnode
        have hkd : kindOr (ws.getD (mt.getD k 0) 0) = ws.getD (mt.getD k 0) 0 % 16 := by unfold kindOr; rw [if_neg (by omega)]
        have HFz := hid (fun i (hi : i < (fieldsAtZ ws (mt.getD k 0)).length) => show Leads ws S ((fieldsAtZ ws (mt.getD k 0)).getD i 0) from by
          rw [hfl'] at hi
          rw [fieldsAtZ_get hi]
          exact hfl i hi)
        have HFg := hid (fun i (hi : i < (fieldsAtZ ws (mt.getD k 0)).length) => show (fieldsAtZ ws (mt.getD k 0)).getD i 0 = ws.getD (mt.getD k 0 + 1 + i) 0 from by
          rw [hfl'] at hi
          exact fieldsAtZ_get hi)
        obtain ⟨a, ha⟩ : ∃ a, mt.getD k 0 = a := ⟨_, rfl⟩
        rw [ha] at qm HFz HFg hsz hkd h36 haN hfl' HNx
        obtain ⟨fz, hfz⟩ : ∃ fz, fieldsAtZ ws a = fz := ⟨_, rfl⟩
        rw [hfz] at HFz HFg hfl' HNx
        obtain ⟨x, hxv⟩ : ∃ x, ws.getD a 0 = x := ⟨_, rfl⟩
        rw [hxv] at hsz hkd h36 haN hfl' HNx
        obtain ⟨m, hm⟩ : ∃ m, fz.length = m := ⟨_, rfl⟩
        rw [hm] at hfl' HNx HFz HFg
        have HDr : Hid (Wds b off N ws wr) := HS.out.frm.wds HD8.out HD.out.lt HS.out.gph.b1 HS.out.gph.b2 (fun q e => by
          have h1 := HBw.out.size
          rcases Nat.lt_or_ge q wc.heap.size with h | h
          · exact absurd e (HV0.out q h)
          · omega)
        have HLen := hid HD.out.len
        have haN' : a < N := by have := HLen.out; omega
        have hm1 : sizeZ x = ((m + 1 : Nat) : Int) := by omega
        have HOb := hid (fun W' (hb : Below wr.heap.size wr W') => objectAt_calls b off N cap a x W' haN' (HDr.out.below hb).lt (by rw [← hxv]; exact (HDr.out.below hb).cells a haN'))
        have HFa := hid (fun W' (hb : Below wr.heap.size wr W') => fieldsAt_calls b off N cap a (m + 1) x W' hm1 (by omega) (by have := HLen.out; omega) HCp.out hN (HDr.out.below hb).lt (by rw [← hxv]; exact (HDr.out.below hb).cells a haN'))
        have HLa := hid (fun W' (hb : Below wr.heap.size wr W') => show ListAt b (off + (a + 1)) fz W' from ⟨fun _ => (HDr.out.below hb).lt, fun i hi => by
          have e := (HDr.out.below hb).cells (a + 1 + i) (by have := HLen.out; omega)
          rw [← HFg.out i (by omega)] at e
          rw [Nat.add_assoc]
          exact e⟩)
        have HTa := hid (fun vv W' (hb : Below wr.heap.size wr W') (g : Gph w.heap.size bg bp N (.slice (some ⟨b, off, none⟩) N cap) ⟨g1, g2, g3, g4, g5, g6, g7, g8, g9⟩ mt vv W') => tellAll_calls (lc := cap - (a + 1)) HOk.out W' g (HDr.out.below hb) HD.out.lt hN HMk.out.1 hm (by omega) (HLa.out W' hb) (fun _ => HD.out.lt) (fun i hi => HFz.out i (by omega)))
        rw [hsz, hkd] at HOb
        simp only [Nat.add_sub_cancel] at HFa
        obtain ⟨kd, hkdv⟩ : ∃ kd, x % 16 = kd := ⟨_, rfl⟩
        obtain ⟨lo, hlo⟩ : ∃ lo, off + (a + 1) = lo := ⟨_, rfl⟩
        obtain ⟨lc, hlc⟩ : ∃ lc, cap - (a + 1) = lc := ⟨_, rfl⟩
        obtain ⟨si, hsi⟩ : ∃ si, x / 16 = si := ⟨_, rfl⟩
        obtain ⟨ai, hai⟩ : ∃ ai : Int, (a : Int) = ai := ⟨_, rfl⟩
        obtain ⟨R, hR⟩ : ∃ R, tellsRun ws fz m mt = R := ⟨_, rfl⟩
        rw [hkdv, hsi, hai] at HOb
        rw [hlo, hlc, hai] at HFa
        rw [hlo, hlc, hR] at HTa
        rw [hkdv, hR] at HNx
        rw [hai] at qm
        have HRl : Hid (R.2.length = m) := by
          have e := (Met.tells HOk.out HMk.out.1 (xs := fz) (fun i hi => HFz.out i (by omega)) m (by omega)).2.2
          rw [hR] at e
          exact e
        have HSl : Hid (ot.length = k) := HMk.out.2
        have HSh' : Hid (mt.length ≤ 8000) := by have := HSh.out; have := HLen.out; show _ ≤ _; omega
        have l0 : ∀ y : Later wr.heap.size wr, y.w.cell? ⟨w.heap.size, 0, none⟩ = some (.slice (some ⟨b, off, none⟩) N cap) := fun y => y.cell (p := ⟨w.heap.size, 0, none⟩) (by have := HNb.out.1; have := HS.out.frm.size; show w.heap.size < _; omega) (HeapBlk.cells (h := ⟨g1, g2, g3, g4, g5, g6, g7, g8, g9⟩) ((HS.out.frm.block w.heap.size (by have := HNb.out.1; omega) HNb.out.2.1 HNb.out.2.2 (HV0.out _ HNb.out.1)).trans HA8.out)).1
        have l1 : ∀ y : Later wr.heap.size wr, y.w.cell? ⟨bg, 11, none⟩ = some (.slice (some ⟨gm, 0, none⟩) mt.length cm) := fun y => y.cell (heap_lt HS.out.gph.blk) c11
        have l2 : ∀ y : Later wr.heap.size wr, y.w.cell? ⟨gm, k, none⟩ = some (.int .i64 ai) := fun y => y.cell hgl qm
        clear hnode h36 haN hfl hfl' hsz hkd HFz HFg ha hfz hxv hm hm1 hkdv hlo hlc hsi hai hR HLa HMk HDr haN'
        have hs : Hid (N - (intOf (.int .i64 (ii + 1))).toNat < N - (intOf (.int .i64 ii)).toNat) := by have := HSh.out; have := HLen.out; show _ < _; simp only [intOf]; omega
        have hw : Hid (wrap64 (ii + 1) = ii + 1) := by show _ = _; have := HSh'.out; unfold wrap64; omega
        go_wp2_with fail
        refine wp_region_calm wr.heap.size (by kernel_rfl) (by kernel_rfl) ?_
        repeat (go_big_quiet_step (first
          | (rename_i y; go_at_call 33; refine (HOb.out _ y.h).mono ?_; rintro e w5 ⟨rfl, hb5⟩; exact ⟨rfl, ⟨w5, y.h.trans (hb5.mono y.h.size)⟩, rfl⟩)))
        refine wpQuiet_nil ?_
        rintro w6 ⟨y, rfl⟩
        have HS2 := hid (HS.out.below y.h)
        have HBy := hid y.h
        have m0 := l0 y
        have m1 := l1 y
        have m2 := l2 y
        have hzy := y.h.size
        have hlA2 : w.heap.size < y.w.heap.size := by have := HNb.out.1; have := HS.out.frm.size; omega
        generalize y.w = X2 at *
        clear y l0 l1 l2 HOb c11 qm
        have hgl2 : gm < X2.heap.size := by omega
        have l0 : ∀ y : Later X2.heap.size X2, y.w.cell? ⟨w.heap.size, 0, none⟩ = some (.slice (some ⟨b, off, none⟩) N cap) := fun y => y.cell hlA2 m0
        have l1 : ∀ y : Later X2.heap.size X2, y.w.cell? ⟨bg, 11, none⟩ = some (.slice (some ⟨gm, 0, none⟩) mt.length cm) := fun y => y.cell (heap_lt HS2.out.gph.blk) m1
        have l2 : ∀ y : Later X2.heap.size X2, y.w.cell? ⟨gm, k, none⟩ = some (.int .i64 ai) := fun y => y.cell hgl2 m2
        clear m0 m1 m2 hgl hgl2 hlA2
        have hzy' := HBy.out.size
        go_wp2_with fail
        refine till_begin (c := 10) (S := fun w' => ∃ x : Later X2.heap.size X2, w' = x.w) (by kernel_rfl) ?_
        refine till_walk (by kernel_rfl) 10 0 _ _ (by kernel_rfl) (by kernel_rfl) ⟨⟨X2.drew, (Below.refl _ _).drew⟩, rfl⟩ ?_
        simp only [List.drop_zero, List.take_succ_cons, List.take_zero]
        repeat (go_big_quiet_step (first
          | (rename_i y; go_at_call 34; refine (HFa.out _ (HBy.out.trans (y.h.mono HBy.out.size))).mono ?_; rintro e w5 ⟨rfl, hb5⟩; exact ⟨rfl, ⟨w5, y.h.trans (hb5.mono y.h.size)⟩, rfl⟩)))
        refine wpQuiet_nil ?_
        rintro w7 ⟨x1, rfl⟩
        have HBx := hid (HBy.out.trans (x1.h.mono HBy.out.size))
        have HSx := hid (HS2.out.below x1.h)
        refine till_enter (c := 10) (f := 32) (args := #[.pointer (some ⟨bg, 0, none⟩), .slice (some ⟨b, lo, none⟩) m lc]) rfl (by kernel_rfl) rfl (by simp [go_sem]) ?_
        refine (HTa.out _ _ HBx.out HSx.out.gph).mono ?_
        generalize x1.w = Xx at *
        rintro e X3 ⟨g3', rfl, hr3, hl3, ne1, ne2, vm3, hG3, hF3, hM3, hv3⟩
        have HS3 := hid (HSx.out.tells hG3 hF3 hM3)
        have HR3 : Hid (CellRow 3 X3 g3' R.2.length (intCells R.2)) := by rw [HRl.out]; exact hr3
        have HG3 : Hid (W8.heap.size ≤ g3' ∧ vm3.ownBlock ≠ some g3' ∧ u11.ownBlock ≠ some g3' ∧ ∀ i, i < ot.length → gs i ≠ g3') :=
          ⟨Nat.le_trans HSx.out.frm.size hl3, hv3, fun e => by have := ((owns_at' HSx.out.row).1 _ e).2; omega, fun i hi e => by have := (HSx.out.fld i hi).lt; omega⟩
        clear l0 l1 l2 hr3 hl3 ne1 ne2 hG3 hF3 hM3 hv3 HSx HBx HTa HFa HS2 HS x1
        refine ⟨_, rfl, ?_⟩
        refine any_frame (by simp [go_sem]; exact rfl) ?_
        refine any_stage (fun _ => True) ?_
        refine stage_make (k := 11) (v := .agg #[.int .i64 kd, .slice (some ⟨g3', 0, none⟩) m m]) (w1 := X3) rfl (by kernel_rfl) rfl (by simp [go_sem]) trivial (by simp [go_sem]; exact rfl) ?_
        refine stage_make (k := 12) (v := .slice (some ⟨X3.heap.size, 0, none⟩) 1 1) (w1 := X3.alloc (.cells #[.int .i64 kd, .slice (some ⟨g3', 0, none⟩) m m] 45)) rfl (by kernel_rfl) rfl (by simp [go_sem]) trivial (by simp [go_sem]; exact rfl) ?_
        have hE : (X3.alloc (.cells #[.int .i64 kd, .slice (some ⟨g3', 0, none⟩) m m] 45)).heap[X3.heap.size]? = some (.cells #[.int .i64 kd, .slice (some ⟨g3', 0, none⟩) m m] 45) := (MapKept.heap_alloc X3 _).1
        have hK4 := (Below.refl X3.heap.size X3).alloc (Nat.le_refl _) (.cells #[.int .i64 kd, .slice (some ⟨g3', 0, none⟩) m m] 45)
        generalize X3.alloc (.cells #[.int .i64 kd, .slice (some ⟨g3', 0, none⟩) m m] 45) = X4 at *
        have HS4 := hid (HS3.out.below hK4)
        have HR4 := hid (HR3.out.of_block (hK4.block g3' HR3.out.lt))
        obtain ⟨i0, hi, hz0, hz1, hz2⟩ := info_parts info_obj
        have hol : ot.length ≤ 8000 := by have := HSl.out; have := HSh'.out; omega
        obtain ⟨vo', X5, hrun, hown, hgrow, -, hat⟩ := run_append_own_at (P := Try.prog) X4 w.heap.size 28 28 45 i0 _ 2 32 Try.underlying28 hi hz0 hz1 hz2 rfl (by decide) u11 ot.length (objCells ot gs) HS4.out.row ⟨X3.heap.size, 0, none⟩ 1 1 [.int .i64 kd, .slice (some ⟨g3', 0, none⟩) m m] rfl (fun j u hu => by
          match j, hu with
          | 0, hu =>
            simp at hu
            subst hu
            exact cell_of_heap hE 0
          | 1, hu =>
            simp at hu
            subst hu
            exact cell_of_heap hE 1) (fun u hu => by
          simp at hu
          rcases hu with rfl | rfl <;> rfl) (by unfold maxLen; omega) (by omega) (by have := HS4.out.frm.size; have := HB8.out.size; omega)
        have HS5 : Hid (GSt W8 w.heap.size bg bp N (.slice (some ⟨b, off, none⟩) N cap) ⟨g1, g2, g3, g4, g5, g6, g7, g8, g9⟩ v0 R.1 vm3 (ot ++ [(kd, R.2)]) (fun i => if i = ot.length then g3' else gs i) vo' X5) := by
          refine HS4.out.push (kd, R.2) g3' HR4.out HG3.out.1 HG3.out.2.1 HG3.out.2.2.1 HG3.out.2.2.2 ?_ hgrow ?_
          · rw [HRl.out]
            exact hown
          · rcases hat with h | h
            · exact Or.inl h
            · exact Or.inr ⟨_, h, Nat.le_refl _⟩
        refine stage_make (k := 13) (v := vo') (w1 := X5) rfl (by kernel_rfl) rfl (append_run (s := .tmp 54) (x := .tmp 66) (t := 28) rfl rfl rfl hrun) trivial (by simp [go_sem]; exact rfl) ?_
        refine stage_make (k := 14) (v := vo') (w1 := X5) rfl (by kernel_rfl) rfl (by simp [go_sem]) trivial (by simp [go_sem]; exact rfl) ?_
        refine stage_end (by kernel_rfl) ?_
        clear hE hK4 hrun hown hgrow hat hi hz0 hz1 hz2 hol HS4 HR4 HS3 HR3 HG3
        go_wp2_with fail
        try rw [hw.out]
        refine ⟨⟨ii + 1, k + 1, vm3, fun i => if i = ot.length then g3' else gs i, rfl, ⟨by have := HQk.out; push_cast; omega, fun j hj => ?_⟩, ?_⟩, hs.out⟩
        · rcases Nat.lt_or_ge j k with h | h
          · exact HLs.out j h
          · have e : j = k := by omega
            rw [e, Hmt.out]
            exact hkm
        · rw [HNx.out]
          exact HS5.out
      · have hk : mt.length ≤ k := by have := HQk.out; omega
        have HBr : Hid (Below w.heap.size w wr) := HB8.out.trans ⟨HS.out.frm.os, HS.out.frm.tape, HS.out.frm.output, HS.out.frm.size, fun q hq => HS.out.frm.block q (by have := HB8.out.size; omega) (by have := HS.out.gph.b1; omega) (by have := HS.out.gph.b2; omega) (HV0.out q (by have := HNb.out.1; omega))⟩
        have HTr := hid (HT8.out.of_block (HS.out.frm.block gt HNg.out.1 HNg.out.2.1 HNg.out.2.2.1 HNg.out.2.2.2))
        go_wp2_with fail
        refine bodyPost_ret (v := .tuple #[u11, .slice (some ⟨gt, 0, none⟩) n n, .bool true]) (by simp [results, Try.results8, go_sem]) rfl ?_
        have hn := HXn.out
        subst hn
        refine ⟨k, u11, gs, gt, ?_⟩
        rw [HMe.out, Hmt.out, Hot.out]
        refine ⟨HLs.out, hk, rfl, HS.out.row, fun i hi => ⟨HS.out.fld i hi, ?_, (HS.out.a2 i hi).2, ?_⟩, HS.out.inj, HTr.out, HGt.out, fun e => ?_, HBr.out⟩
        · have := HS.out.new i hi
          have := HB8.out.size
          omega
        · have := HS.out.new i hi
          have := HNg.out.1
          omega
        · have := HS.out.o1 gt e
          have := HNg.out.1
          omega
end Go.Proofs.Ytebpgglegnljgaa

/- The specification's HeapGraph: where an object lies now; heaps and roots that are not fit. -/
namespace Go.Proofs.Ytebpgglegnljgaa
open Go.RowKit

set_option maxHeartbeats 1000000 in
set_option maxRecDepth 100000 in
theorem sNow_calls {b off N cap : Nat} {ws S : List Int} {h : HpN} (ok : OkHeap ws S h) (x : Int) (w : World) (d : Wds b off N ws w) (hN : N ≤ 8000) (hx : Leads ws S x) (hx8 : x % 8 = 0) :
    Calls Try.prog 38 #[heapV (.slice (some ⟨b, off, none⟩) N cap) h, .int .i64 x] w fun e w' => e = .returned (.int .i64 (nowZ ws (x / 8).toNat : Nat)) ∧ Below w.heap.size w w' := by
  obtain ⟨x0, x1, hS⟩ := hx hx8
  obtain ⟨a, ha⟩ : ∃ a, (x / 8).toNat = a := ⟨_, rfl⟩
  rw [ha] at hS ⊢
  have hxa : x / 8 = (a : Int) := by omega
  have hn := ok.noted.2 a hS
  have haN : a < N := by rw [← d.len]; exact hn.1
  have HNu := hid (fun W => specNum_calls x W)
  unfold numZ at HNu
  rw [hxa] at HNu
  obtain ⟨g1, g2, g3, g4, g5, g6, g7, g8, g9⟩ := h
  unfold heapV
  obtain ⟨W0, hW0, hA, k2⟩ := one_new w (.slice (some ⟨b, off, none⟩) N cap) ⟨g1, g2, g3, g4, g5, g6, g7, g8, g9⟩
  dsimp only at hW0
  have c0 := hA.cells.1
  have q0 := (d.below k2).cells a haN
  have hb15 := and15 (ws.getD a 0)
  obtain ⟨ai, hai⟩ : ∃ ai : Int, (a : Int) = ai := ⟨_, rfl⟩
  rw [hai] at HNu
  have hat : ai.toNat = a := by omega
  have ha0 : 0 ≤ ai := by omega
  have hal : ai < (N : Int) := by omega
  have HK := hid k2
  have HW0 := hid hW0
  by_cases hk : ws.getD a 0 % 16 = 15
  · have e := at_ok ok hS
    unfold specAt at e
    rw [if_pos hk] at e
    unfold specMoved at e
    rw [Bool.and_eq_true, Bool.and_eq_true, Bool.and_eq_true, decide_eq_true_eq, decide_eq_true_eq] at e
    obtain ⟨⟨⟨-, e1⟩, e2⟩, -⟩ := e
    obtain ⟨a1, a2, a3, a4⟩ := specLeads_at e2 e1
    have hd := (heads_noted ok.noted).2 a hS
    have ha1 : a + 1 < N := by
      have h1 := hn.2.2
      have h2 := hn.2.1
      have hsz : sizeZ (ws.getD a 0) ≠ 0 := by rw [← hn.2.1]; exact hS
      rw [← d.len]
      unfold sizeN at *
      omega
    have q1 := (d.below k2).cells (a + 1) ha1
    have hnow : ((nowZ ws a : Nat) : Int) = ws.getD (a + 1) 0 / 8 := by
      unfold nowZ
      rw [if_pos hk]
      omega
    rw [hnow]
    obtain ⟨y, hy⟩ : ∃ y, ws.getD (a + 1) 0 = y := ⟨_, rfl⟩
    rw [hy] at q1 ⊢
    have HNy := hid (fun W => specNum_calls y W)
    unfold numZ at HNy
    obtain ⟨hd0, hhd⟩ : ∃ hd0, ws.getD a 0 = hd0 := ⟨_, rfl⟩
    rw [hhd] at q0 hb15 hk
    rw [hk] at hb15
    have hw : wrap64 (ai + 1) = ai + 1 := by unfold wrap64; omega
    have hti : (ai + 1).toNat = a + 1 := by omega
    have hlt : ai + 1 < (N : Int) := by omega
    have h0 : 0 ≤ ai + 1 := by omega
    clear hn hd ha1 hhd hai hk e1 e2 a1 a2 a3 a4 hnow hy d hS ok hxa x0 x1 ha hx hx8 haN hA k2 hW0
    go_enter Try.func38, Try.ntmps38
    go_wp2_with fail
    rw [HW0.out]
    refine (HNu.out _).mono ?_
    rintro e W1 ⟨rfl, rfl⟩
    go_wp2_with fail
    refine (HNy.out _).mono ?_
    rintro e W2 ⟨rfl, rfl⟩
    go_wp2_with fail
    go_ret
    exact ⟨rfl, HK.out⟩
  · have hnow : nowZ ws a = a := by
      unfold nowZ
      rw [if_neg hk]
    rw [hnow, hai]
    obtain ⟨hd0, hhd⟩ : ∃ hd0, ws.getD a 0 = hd0 := ⟨_, rfl⟩
    rw [hhd] at q0 hb15 hk
    obtain ⟨kd, hkd⟩ : ∃ kd, hd0 % 16 = kd := ⟨_, rfl⟩
    rw [hkd] at hb15 hk
    have hkb : (kd == 15) = false := by simpa using hk
    clear hn hhd hai hkd hnow d hS ok hxa x0 x1 ha hx hx8 haN hA k2 hW0
    go_enter Try.func38, Try.ntmps38
    go_wp2_with fail
    rw [HW0.out]
    refine (HNu.out _).mono ?_
    rintro e W1 ⟨rfl, rfl⟩
    go_wp2_with fail
    go_ret
    exact ⟨rfl, HK.out⟩

set_option maxHeartbeats 2000000 in
set_option maxRecDepth 100000 in
theorem sGraph_notOk (b off cap N : Nat) (h : HpN) (rg n rc : Nat) (w : World)
    (HOk : Hid (∀ X, Below w.heap.size w X → Calls Try.prog 35 #[heapV (.slice (some ⟨b, off, none⟩) N cap) h] X fun e w' => e = .returned (.bool false) ∧ Below X.heap.size X w')) :
    Calls Try.prog 9 #[heapV (.slice (some ⟨b, off, none⟩) N cap) h, .slice (some ⟨rg, 0, none⟩) n rc] w fun e w' => e = .returned (.tuple #[.slice none 0 0, .slice none 0 0, .bool false]) ∧ Below w.heap.size w w' := by
  obtain ⟨g1, g2, g3, g4, g5, g6, g7, g8, g9⟩ := h
  unfold heapV at *
  dsimp only at *
  obtain ⟨W0, hW0, hA, k2⟩ := one_new w (.slice (some ⟨b, off, none⟩) N cap) ⟨g1, g2, g3, g4, g5, g6, g7, g8, g9⟩
  dsimp only at hW0
  have HW0 := hid hW0
  have HK2 := hid k2
  clear hW0 hA k2
  go_enter Try.func9, Try.ntmps9
  go_wp2_with fail
  rw [HW0.out]
  refine (HOk.out _ HK2.out).mono ?_
  rintro e W1 ⟨rfl, hb1⟩
  have HB6 := hid (HK2.out.trans (hb1.mono HK2.out.size))
  clear hb1 HW0 HK2 HOk
  go_wp2_with fail
  exact bodyPost_ret (v := .tuple #[.slice none 0 0, .slice none 0 0, .bool false]) (by simp [results, Try.results9, go_sem]) rfl ⟨rfl, HB6.out⟩

set_option maxHeartbeats 2000000 in
set_option maxRecDepth 100000 in
theorem sGraph_many (b off cap N : Nat) (h : HpN) (rg n rc : Nat) (w : World) (hn : (20 : Int) < (n : Int))
    (HOk : Hid (∀ X, Below w.heap.size w X → Calls Try.prog 35 #[heapV (.slice (some ⟨b, off, none⟩) N cap) h] X fun e w' => e = .returned (.bool true) ∧ Below X.heap.size X w')) :
    Calls Try.prog 9 #[heapV (.slice (some ⟨b, off, none⟩) N cap) h, .slice (some ⟨rg, 0, none⟩) n rc] w fun e w' => e = .returned (.tuple #[.slice none 0 0, .slice none 0 0, .bool false]) ∧ Below w.heap.size w w' := by
  obtain ⟨g1, g2, g3, g4, g5, g6, g7, g8, g9⟩ := h
  unfold heapV at *
  dsimp only at *
  obtain ⟨W0, hW0, hA, k2⟩ := one_new w (.slice (some ⟨b, off, none⟩) N cap) ⟨g1, g2, g3, g4, g5, g6, g7, g8, g9⟩
  dsimp only at hW0
  have HW0 := hid hW0
  have HK2 := hid k2
  clear hW0 hA k2
  go_enter Try.func9, Try.ntmps9
  go_wp2_with fail
  rw [HW0.out]
  refine (HOk.out _ HK2.out).mono ?_
  rintro e W1 ⟨rfl, hb1⟩
  have HB6 := hid (HK2.out.trans (hb1.mono HK2.out.size))
  clear hb1 HW0 HK2 HOk
  go_wp2_with fail
  exact bodyPost_ret (v := .tuple #[.slice none 0 0, .slice none 0 0, .bool false]) (by simp [results, Try.results9, go_sem]) rfl ⟨rfl, HB6.out⟩

set_option maxHeartbeats 2000000 in
set_option maxRecDepth 100000 in
theorem sGraph_noRoot (b off cap N : Nat) (h : HpN) (rg n rc : Nat) (w : World) (hn : ¬ (20 : Int) < (n : Int))
    (HOk : Hid (∀ X, Below w.heap.size w X → Calls Try.prog 35 #[heapV (.slice (some ⟨b, off, none⟩) N cap) h] X fun e w' => e = .returned (.bool true) ∧ Below X.heap.size X w'))
    (HRt : Hid (∀ X, Below w.heap.size w X → Calls Try.prog 36 #[heapV (.slice (some ⟨b, off, none⟩) N cap) h, .slice (some ⟨rg, 0, none⟩) n rc] X fun e w' => e = .returned (.bool false) ∧ Below X.heap.size X w')) :
    Calls Try.prog 9 #[heapV (.slice (some ⟨b, off, none⟩) N cap) h, .slice (some ⟨rg, 0, none⟩) n rc] w fun e w' => e = .returned (.tuple #[.slice none 0 0, .slice none 0 0, .bool false]) ∧ Below w.heap.size w w' := by
  obtain ⟨g1, g2, g3, g4, g5, g6, g7, g8, g9⟩ := h
  unfold heapV at *
  dsimp only at *
  obtain ⟨W0, hW0, hA, k2⟩ := one_new w (.slice (some ⟨b, off, none⟩) N cap) ⟨g1, g2, g3, g4, g5, g6, g7, g8, g9⟩
  dsimp only at hW0
  have HW0 := hid hW0
  have HK2 := hid k2
  have HA := hid hA
  clear hW0 hA k2
  go_enter Try.func9, Try.ntmps9
  go_wp2_with fail
  rw [HW0.out]
  refine (HOk.out _ HK2.out).mono ?_
  rintro e W1 ⟨rfl, hb1⟩
  have HB1 := hid (HK2.out.trans (hb1.mono HK2.out.size))
  obtain ⟨c0, c1, c2, c3, c4, c5, c6, c7, c8, c9⟩ := (HA.out.below hb1).cells
  dsimp only at c0 c1 c2 c3 c4 c5 c6 c7 c8 c9
  clear hb1 HW0 HK2 HOk HA
  go_wp2_with fail
  refine (HRt.out _ HB1.out).mono ?_
  rintro e W2 ⟨rfl, hb2⟩
  have HB6 := hid (HB1.out.trans (hb2.mono HB1.out.size))
  clear hb2 HB1 HRt c0 c1 c2 c3 c4 c5 c6 c7 c8 c9
  go_wp2_with fail
  exact bodyPost_ret (v := .tuple #[.slice none 0 0, .slice none 0 0, .bool false]) (by simp [results, Try.results9, go_sem]) rfl ⟨rfl, HB6.out⟩
end Go.Proofs.Ytebpgglegnljgaa

/- The specification's HeapGraph: what telling keeps. -/
namespace Go.Proofs.Ytebpgglegnljgaa
open Go.RowKit

/-- Places of addresses, and the addresses that were met. -/
structure SGr (B bp N : Nat) (met : List Nat) (vm : Value) (W : World) : Prop where
  places : CellRow 3 W bp N (fun a => .int .i64 (placeZ met a))
  row : W.ownsRow B 3 1 vm met.length (metCells met)
  n2 : vm.ownBlock ≠ some bp
  b2 : B ≤ bp

theorem SGr.keep {B bp N : Nat} {vm : Value} {met : List Nat} {W W' : World} (g : SGr B bp N met vm W) (hb : Below W.heap.size W W') : SGr B bp N met vm W' :=
  ⟨g.places.of_block (hb.block _ g.places.lt), kept_owns g.row hb, g.n2, g.b2⟩

theorem SGr.own_lt {B bp N : Nat} {vm : Value} {met : List Nat} {W : World} (g : SGr B bp N met vm W) {k : Nat} (e : vm.ownBlock = some k) : B ≤ k ∧ k < W.heap.size := (owns_at g.row).1 k e

/-- Blocks beside are kept. -/
theorem SGr.beside {B bp N : Nat} {vm : Value} {met : List Nat} {W W' : World} (g : SGr B bp N met vm W) (he : ∀ q, q < W.heap.size → (q = bp ∨ vm.ownBlock = some q) → W'.heap[q]? = W.heap[q]?) : SGr B bp N met vm W' :=
  ⟨g.places.of_block (he _ g.places.lt (Or.inl rfl)), owns_of_block g.row (fun q e => he q (g.own_lt e).2 (Or.inr e)), g.n2, g.b2⟩

/-- The cells of words. -/
def wordCells (ys : List Int) : List Value := ys.map (fun y => Value.int .i64 y)

/-- What telling one word behind the other keeps. -/
structure STl (W0 : World) (B bp N : Nat) (v0 : Value) (met : List Nat) (vm : Value) (ys : List Int) (vt : Value) (W : World) : Prop where
  gr : SGr B bp N met vm W
  row : W.ownsRow B 3 1 vt ys.length (wordCells ys)
  o2 : ∀ q, vt.ownBlock = some q → W0.heap.size ≤ q
  ap : ∀ q, vt.ownBlock = some q → vm.ownBlock ≠ some q
  lp : bp < W0.heap.size
  mv : MovedTo W0 v0 vm
  frm : FrmG W0 bp bp v0 W

theorem STl.tell {W0 : World} {B bp N : Nat} {v0 : Value} {met met' : List Nat} {vm vm' : Value} {ys : List Int} {vt : Value} {W W' : World} (s : STl W0 B bp N v0 met vm ys vt W) (g : SGr B bp N met' vm' W') (hf : FrmG W bp bp vm W') (hm : MovedTo W vm vm') : STl W0 B bp N v0 met' vm' ys vt W' := by
  have hlo := (owns_at s.row).1
  have lp := s.lp
  refine ⟨g, owns_of_block s.row (fun q e => hf.block q (hlo q e).2 (by have := s.o2 q e; omega) (by have := s.o2 q e; omega) (s.ap q e)), s.o2, fun q e e' => ?_, s.lp, MovedTo.trans s.frm.size s.mv hm, s.frm.trans s.mv hf⟩
  rcases hm with h | ⟨g, h, hl⟩
  · exact s.ap q e (h.symm.trans e')
  · rw [e'] at h
    cases h
    have := (hlo q e).2
    omega

theorem STl.below {W0 : World} {B bp N : Nat} {v0 : Value} {met : List Nat} {vm : Value} {ys : List Int} {vt : Value} {W W' : World} (s : STl W0 B bp N v0 met vm ys vt W) (hb : Below W.heap.size W W') : STl W0 B bp N v0 met vm ys vt W' := s.tell (s.gr.keep hb) (FrmG.of_below hb bp bp vm) (Or.inl rfl)

theorem STl.push {W0 : World} {B bp N : Nat} {v0 : Value} {met : List Nat} {vm : Value} {ys : List Int} {vt vt' : Value} {W W' : World} (s : STl W0 B bp N v0 met vm ys vt W) (y : Int) (hown : W'.ownsRow B 3 1 vt' (ys.length + 1) (wordCells ys ++ [.int .i64 y])) (hgr : W.grownBy W' vt.ownBlock) (hat : vt'.ownBlock = vt.ownBlock ∨ ∃ q, vt'.ownBlock = some q ∧ W.heap.size ≤ q) : STl W0 B bp N v0 met vm (ys ++ [y]) vt' W' := by
  obtain ⟨gos, gtape, gout, gsz, gblk⟩ := hgr
  have kb : ∀ q, q < W.heap.size → vt.ownBlock ≠ some q → W'.heap[q]? = W.heap[q]? := fun q hq hn => gblk q hq hn.symm
  have hlo := (owns_at s.row).1
  have lp := s.lp
  have hfs := s.frm.size
  refine ⟨s.gr.beside (fun q hq hor => kb q hq (fun e => ?_)), ?_, fun q e => ?_, fun q e => ?_, s.lp, s.mv, ⟨gos.trans s.frm.os, gtape.trans s.frm.tape, gout.trans s.frm.output, by omega, fun q hq h1 h2 h3 => (kb q (by omega) (fun e => by have := s.o2 q e; omega)).trans (s.frm.block q hq h1 h2 h3)⟩⟩
  · rcases hor with h | h
    · have := s.o2 q e
      omega
    · exact s.ap q e h
  · rw [List.length_append, List.length_singleton]
    unfold wordCells at hown ⊢
    rw [List.map_append]
    exact hown
  · rcases hat with h | ⟨g, h, hl⟩
    · exact s.o2 q (h.symm.trans e)
    · rw [e] at h
      cases h
      omega
  · rcases hat with h | ⟨g, h, hl⟩
    · exact s.ap q (h.symm.trans e)
    · rw [e] at h
      cases h
      intro e'
      have := (s.gr.own_lt e').2
      omega

/-- A store into another block. -/
theorem STl.set {W0 : World} {B bp N : Nat} {v0 : Value} {met : List Nat} {vm : Value} {ys : List Int} {vt : Value} {W : World} (s : STl W0 B bp N v0 met vm ys vt W) {g : Nat} (h0 : W0.heap.size ≤ g) (h1 : vm.ownBlock ≠ some g) (h2 : vt.ownBlock ≠ some g) (i : Nat) (x : Value) : STl W0 B bp N v0 met vm ys vt (W.setCell ⟨g, i, none⟩ x) := by
  have e : ∀ j, j ≠ g → (W.setCell ⟨g, i, none⟩ x).heap[j]? = W.heap[j]? := fun j hj => Below.heap_setCell W ⟨g, i, none⟩ x j hj
  have hsz : (W.setCell ⟨g, i, none⟩ x).heap.size = W.heap.size := by simp [World.setCell]
  have lp := s.lp
  refine ⟨s.gr.beside (fun q hq hor => e q (fun eq => ?_)), owns_of_block s.row (fun q hq => e q (fun eq => h2 (eq ▸ hq))), s.o2, s.ap, s.lp, s.mv, ⟨s.frm.os, s.frm.tape, s.frm.output, by rw [hsz]; exact s.frm.size, fun q hq h3 h4 h5 => (e q (by omega)).trans (s.frm.block q hq h3 h4 h5)⟩⟩
  rcases hor with h | h
  · omega
  · exact h1 (eq ▸ h)

/-- The cells of objects: kinds, and whatever holds their fields. -/
def sobjCells (os : List (Int × List Int)) (vs : Nat → Value) : List Value := (List.range os.length).flatMap (fun i => [.int .i64 (os.getD i (0, [])).1, vs i])

theorem sobjCells_snoc (os : List (Int × List Int)) (x : Int × List Int) (vs vs' : Nat → Value) (v : Value) (hv : ∀ i, i < os.length → vs' i = vs i) (h : vs' os.length = v) : sobjCells (os ++ [x]) vs' = sobjCells os vs ++ [.int .i64 x.1, v] := by
  unfold sobjCells
  rw [List.length_append, List.length_singleton, List.range_succ, List.flatMap_append]
  congr 1
  · have e : ∀ i ∈ List.range os.length, [Value.int .i64 ((os ++ [x]).getD i (0, [])).1, vs' i] = [Value.int .i64 (os.getD i (0, [])).1, vs i] := fun i hi => by
      have hi' := List.mem_range.1 hi
      rw [hv i hi']
      simp [List.getD, List.getElem?_append_left hi']
    rw [List.flatMap_def, List.flatMap_def, List.map_congr_left e]
  · simp [h, List.getD]

/-- What telling objects keeps. -/
structure SG3 (W0 : World) (B bp N : Nat) (v0 : Value) (met : List Nat) (vm : Value) (os : List (Int × List Int)) (vs : Nat → Value) (vo : Value) (W : World) : Prop where
  gr : SGr B bp N met vm W
  row : W.ownsRow B 45 2 vo os.length (sobjCells os vs)
  fld : ∀ i, i < os.length → W.ownsRow B 3 1 (vs i) (os.getD i (0, [])).2.length (wordCells (os.getD i (0, [])).2)
  ofl : ∀ i, i < os.length → ∀ q, (vs i).ownBlock = some q → W0.heap.size ≤ q ∧ vm.ownBlock ≠ some q ∧ vo.ownBlock ≠ some q
  o1 : ∀ q, vo.ownBlock = some q → W0.heap.size ≤ q
  a1 : ∀ q, vo.ownBlock = some q → vm.ownBlock ≠ some q
  lp : bp < W0.heap.size
  mv : MovedTo W0 v0 vm
  frm : FrmG W0 bp bp v0 W

theorem SG3.tells {W0 : World} {B bp N : Nat} {v0 : Value} {met met' : List Nat} {vm vm' : Value} {os : List (Int × List Int)} {vs : Nat → Value} {vo : Value} {W W' : World} (s : SG3 W0 B bp N v0 met vm os vs vo W) (hg : SGr B bp N met' vm' W') (hf : FrmG W bp bp vm W') (hm : MovedTo W vm vm') : SG3 W0 B bp N v0 met' vm' os vs vo W' := by
  have hap : ∀ q, q < W.heap.size → vm.ownBlock ≠ some q → vm'.ownBlock ≠ some q := fun q hq h1 e => by
    rcases hm with h | ⟨g, h, hl⟩
    · exact h1 (h.symm.trans e)
    · rw [e] at h
      cases h
      omega
  have hlo := (owns_at' s.row).1
  have lp := s.lp
  refine ⟨hg, owns_of_block' s.row (fun g e => hf.block g (hlo g e).2 (by have := s.o1 g e; omega) (by have := s.o1 g e; omega) (s.a1 g e)), fun i hi => owns_of_block (s.fld i hi) (fun q e => hf.block q ((owns_at (s.fld i hi)).1 q e).2 (by have := (s.ofl i hi q e).1; omega) (by have := (s.ofl i hi q e).1; omega) (s.ofl i hi q e).2.1), fun i hi q e => ⟨(s.ofl i hi q e).1, hap q ((owns_at (s.fld i hi)).1 q e).2 (s.ofl i hi q e).2.1, (s.ofl i hi q e).2.2⟩, s.o1, fun q e => hap q (hlo q e).2 (s.a1 q e), s.lp, MovedTo.trans s.frm.size s.mv hm, s.frm.trans s.mv hf⟩

theorem SG3.below {W0 : World} {B bp N : Nat} {v0 : Value} {met : List Nat} {vm : Value} {os : List (Int × List Int)} {vs : Nat → Value} {vo : Value} {W W' : World} (s : SG3 W0 B bp N v0 met vm os vs vo W) (hb : Below W.heap.size W W') : SG3 W0 B bp N v0 met vm os vs vo W' := s.tells (s.gr.keep hb) (FrmG.of_below hb bp bp vm) (Or.inl rfl)

theorem SG3.push {W0 : World} {B bp N : Nat} {v0 : Value} {met : List Nat} {vm : Value} {os : List (Int × List Int)} {vs : Nat → Value} {vo vo' : Value} {W W' : World} (s : SG3 W0 B bp N v0 met vm os vs vo W) (x : Int × List Int) (v : Value) (hr : W.ownsRow B 3 1 v x.2.length (wordCells x.2)) (hv : ∀ q, v.ownBlock = some q → W0.heap.size ≤ q ∧ vm.ownBlock ≠ some q ∧ vo.ownBlock ≠ some q)
    (hown : W'.ownsRow B 45 2 vo' (os.length + 1) (sobjCells os vs ++ [.int .i64 x.1, v])) (hgr : W.grownBy W' vo.ownBlock) (hat : vo'.ownBlock = vo.ownBlock ∨ ∃ q, vo'.ownBlock = some q ∧ W.heap.size ≤ q) :
    SG3 W0 B bp N v0 met vm (os ++ [x]) (fun i => if i = os.length then v else vs i) vo' W' := by
  obtain ⟨gos, gtape, gout, gsz, gblk⟩ := hgr
  have kb : ∀ q, q < W.heap.size → vo.ownBlock ≠ some q → W'.heap[q]? = W.heap[q]? := fun q hq hn => gblk q hq hn.symm
  have hlo := (owns_at' s.row).1
  have lp := s.lp
  have hfs := s.frm.size
  have nb : ∀ q, q < W0.heap.size → vo.ownBlock ≠ some q := fun q hq e => by have := s.o1 q e; omega
  have na : ∀ q, q < W.heap.size → vo.ownBlock ≠ some q → vo'.ownBlock ≠ some q := fun q hq h1 e => by
    rcases hat with h | ⟨g, h, hl⟩
    · exact h1 (h.symm.trans e)
    · rw [e] at h
      cases h
      omega
  have G : ∀ i, i < os.length → ((os ++ [x]).getD i (0, [])) = os.getD i (0, []) := fun i hi => by simp [List.getD, List.getElem?_append_left hi]
  have Gl : ((os ++ [x]).getD os.length (0, [])) = x := by simp [List.getD]
  refine ⟨s.gr.beside (fun q hq hor => kb q hq (fun e => ?_)), ?_, ?_, ?_, ?_, ?_, lp, s.mv, ⟨gos.trans s.frm.os, gtape.trans s.frm.tape, gout.trans s.frm.output, by omega, fun q hq h1 h2 h3 => (kb q (by omega) (nb q hq)).trans (s.frm.block q hq h1 h2 h3)⟩⟩
  · rcases hor with h | h
    · have := s.o1 q e
      omega
    · exact s.a1 q e h
  · rw [sobjCells_snoc os x vs (fun i => if i = os.length then v else vs i) v (fun i hi => if_neg (by omega)) (if_pos rfl), List.length_append, List.length_singleton]
    exact hown
  · intro i hi
    rw [List.length_append, List.length_singleton] at hi
    by_cases hl : i = os.length
    · subst hl
      rw [Gl, if_pos rfl]
      exact owns_of_block hr (fun q e => kb q ((owns_at hr).1 q e).2 (hv q e).2.2)
    · rw [G i (by omega), if_neg hl]
      have hi' : i < os.length := by omega
      exact owns_of_block (s.fld i hi') (fun q e => kb q ((owns_at (s.fld i hi')).1 q e).2 (s.ofl i hi' q e).2.2)
  · intro i hi q e
    rw [List.length_append, List.length_singleton] at hi
    by_cases hl : i = os.length
    · rw [if_pos hl] at e
      exact ⟨(hv q e).1, (hv q e).2.1, na q ((owns_at hr).1 q e).2 (hv q e).2.2⟩
    · rw [if_neg hl] at e
      have hi' : i < os.length := by omega
      exact ⟨(s.ofl i hi' q e).1, (s.ofl i hi' q e).2.1, na q ((owns_at (s.fld i hi')).1 q e).2 (s.ofl i hi' q e).2.2⟩
  · intro q e
    rcases hat with h | ⟨g, h, hl⟩
    · exact s.o1 q (h.symm.trans e)
    · rw [e] at h
      cases h
      omega
  · intro q e
    rcases hat with h | ⟨g, h, hl⟩
    · exact s.a1 q (h.symm.trans e)
    · rw [e] at h
      cases h
      intro e'
      have := (s.gr.own_lt e').2
      omega

end Go.Proofs.Ytebpgglegnljgaa

/- The specification's HeapGraph: a heap and roots that are fit. -/
namespace Go.Proofs.Ytebpgglegnljgaa
open Go.RowKit

/-- What telling all that roots lead to comes to, in the specification. -/
def SGraphTold (w : World) (ws xs : List Int) (e : Ending) (w' : World) : Prop :=
  ∃ (K : Nat) (vo vt : Value) (vs : Nat → Value), (∀ j, j < K → j < (graphRun ws j (tellsRun ws xs xs.length []).1).1.length) ∧ (graphRun ws K (tellsRun ws xs xs.length []).1).1.length ≤ K ∧
    e = .returned (.tuple #[vo, vt, .bool true]) ∧
    w'.ownsRow w.heap.size 45 2 vo (graphRun ws K (tellsRun ws xs xs.length []).1).2.length ((List.range (graphRun ws K (tellsRun ws xs xs.length []).1).2.length).flatMap (fun i => [.int .i64 ((graphRun ws K (tellsRun ws xs xs.length []).1).2.getD i (0, [])).1, vs i])) ∧
    (∀ i, i < (graphRun ws K (tellsRun ws xs xs.length []).1).2.length → w'.ownsRow w.heap.size 3 1 (vs i) ((graphRun ws K (tellsRun ws xs xs.length []).1).2.getD i (0, [])).2.length (((graphRun ws K (tellsRun ws xs xs.length []).1).2.getD i (0, [])).2.map (fun x => Value.int .i64 x))) ∧
    w'.ownsRow w.heap.size 3 1 vt xs.length ((tellsRun ws xs xs.length []).2.map (fun x => Value.int .i64 x)) ∧ Below w.heap.size w w'

set_option maxHeartbeats 8000000 in
set_option maxRecDepth 100000 in
theorem sGraph_good (b off cap N : Nat) (h : HpN) (rg n rc : Nat) (w : World) (ws S xs : List Int) (ok : OkHeap ws S h) (d : Wds b off N ws w) (hN : N ≤ 8000) (hl : ListAt rg 0 xs w) (hxn : xs.length = n) (hn : n ≤ 20) (hx : ∀ i, i < xs.length → Leads ws S (xs.getD i 0))
    (HOk : Hid (∀ X, Below w.heap.size w X → Calls Try.prog 35 #[heapV (.slice (some ⟨b, off, none⟩) N cap) h] X fun e w' => e = .returned (.bool true) ∧ Below X.heap.size X w'))
    (HRt : Hid (∀ X, Below w.heap.size w X → Calls Try.prog 36 #[heapV (.slice (some ⟨b, off, none⟩) N cap) h, .slice (some ⟨rg, 0, none⟩) n rc] X fun e w' => e = .returned (.bool true) ∧ Below X.heap.size X w')) :
    Calls Try.prog 9 #[heapV (.slice (some ⟨b, off, none⟩) N cap) h, .slice (some ⟨rg, 0, none⟩) n rc] w (SGraphTold w ws xs) := by
  have HKo := hid ok
  have HD := hid d
  have HL := hid hl
  have HX := hid hx
  have HXn := hid hxn
  have HN20 := hid hn
  have HNow := hid (fun x X (d : Wds b off N ws X) (hx : Leads ws S x) (hx8 : x % 8 = 0) => sNow_calls (cap := cap) ok x X d hN hx hx8)
  have hn20 : ¬ (20 : Int) < (n : Int) := by omega
  clear ok d hl hx hxn hn
  obtain ⟨g1, g2, g3, g4, g5, g6, g7, g8, g9⟩ := h
  unfold heapV at *
  dsimp only at *
  obtain ⟨W0, hW0, hA, k2⟩ := one_new w (.slice (some ⟨b, off, none⟩) N cap) ⟨g1, g2, g3, g4, g5, g6, g7, g8, g9⟩
  dsimp only at hW0
  have HW0 := hid hW0
  have HK2 := hid k2
  have HA := hid hA
  clear hW0 hA k2
  go_enter Try.func9, Try.ntmps9
  go_wp2_with fail
  rw [HW0.out]
  refine (HOk.out _ HK2.out).mono ?_
  rintro e W1 ⟨rfl, hb1⟩
  have HB1 := hid (HK2.out.trans (hb1.mono HK2.out.size))
  have HA1 := hid (HA.out.below hb1)
  obtain ⟨c0, c1, c2, c3, c4, c5, c6, c7, c8, c9⟩ := HA1.out.cells
  dsimp only at c0 c1 c2 c3 c4 c5 c6 c7 c8 c9
  clear hb1 HW0 HK2 HOk HA
  go_wp2_with fail
  refine (HRt.out _ HB1.out).mono ?_
  rintro e W2 ⟨rfl, hb2⟩
  have HB2 := hid (HB1.out.trans (hb2.mono HB1.out.size))
  have HA2 := hid (HA1.out.below hb2)
  clear hb2 HB1 HRt c0 c1 c2 c3 c4 c5 c6 c7 c8 c9 HA1
  have c0 := HA2.out.cells.1
  obtain ⟨c, hcs, hmk⟩ := made_ints N (by omega) W2
  have hrow := World.rowIs_alloc W2 c 3 (fun i => c.getD i undef) (fun i hi => by simp [hi])
  rw [hcs] at hrow
  have hK := (Below.refl W2.heap.size W2).alloc (Nat.le_refl _) (.cells c 3)
  have hsz : (W2.alloc (.cells c 3)).heap.size = W2.heap.size + 1 := by simp
  have HK := hid hK
  have HSz := hid hsz
  have HA3 := hid (HA2.out.below hK)
  have HB3 := hid (HB2.out.trans (hK.mono HB2.out.size))
  have hBz := HB2.out.size
  have hAl : w.heap.size < W2.heap.size := heap_lt HA2.out
  clear hK hsz HA2
  go_wp2_with fail
  clear hmk c0
  generalize W2.alloc (.cells c 3) = W3 at *
  have HRw := hid (rw_of_row hrow N)
  clear hrow hcs
  obtain ⟨bp, hbp⟩ : ∃ bp, W2.heap.size = bp := ⟨_, rfl⟩
  rw [hbp] at HRw HSz hBz hAl HK ⊢
  go_loopw [8] (fun i wr => ∃ (ii : Int) (k : Nat) (f : Nat → Value), i = .int .i64 ii ∧ Hid (ii = (k : Int) ∧ k ≤ N) ∧ Hid (Rw wr bp 3 N f N) ∧ Hid (∀ j, j < k → f j = .int .i64 (-1)) ∧ Hid (Below bp W3 wr)) (fun i _ => N - (intOf i).toNat)
  case atStart => exact ⟨0, 0, _, rfl, ⟨rfl, by omega⟩, HRw.out, fun j hj => by omega, Below.refl _ _⟩
  case round =>
    obtain ⟨ii, k, f, rfl, HQ, HRo, HF, HBl⟩ := hrel
    have hi0 : 0 ≤ ii := by have := HQ.out; omega
    clear HRw
    by_cases hlt : ii < (N : Int)
    · have hkm : k < N := by have := HQ.out; omega
      have hik : ii.toNat = k := by have := HQ.out; omega
      have q1 := HRo.out.cell (i := k) hkm
      have z1 := HRo.out.frozen k hkm
      have hs : Hid (N - (intOf (.int .i64 (ii + 1))).toNat < N - (intOf (.int .i64 ii)).toNat) := by show _ < _; simp only [intOf]; omega
      have hw : Hid (wrap64 (ii + 1) = ii + 1) := by show _ = _; unfold wrap64; omega
      go_wp2_with fail
      try rw [hw.out]
      refine ⟨⟨ii + 1, k + 1, _, rfl, ⟨by have := HQ.out; push_cast; omega, by omega⟩, HRo.out.set k _, ?_, HBl.out.setCell (by show bp ≤ bp; omega) _⟩, hs.out⟩
      intro j hj
      by_cases hjk : j = k
      · rw [if_pos hjk]
      · rw [if_neg hjk]
        exact HF.out j (by omega)
    · have hkm : k = N := by have := HQ.out; omega
      have HS0 : Hid (SGr w.heap.size bp N [] (.slice none 0 0) wr) := ⟨⟨N, f, HRo.out, Nat.le_refl _, fun j hj => by rw [HF.out j (by omega)]; simp [placeZ]⟩, World.ownsRow_nil _ _ _ _, by simp [Value.ownBlock], by omega⟩
      have HBw : Hid (Below w.heap.size w wr) := HB3.out.trans (HBl.out.mono (by omega))
      have HA4 := hid ((HBl.out.block w.heap.size hAl).trans HA3.out)
      have hW3 : bp < wr.heap.size := by have := HBl.out.size; have := HSz.out; omega
      have HA4 := hid ((HBl.out.block w.heap.size hAl).trans HA3.out)
      have hW3 : bp < wr.heap.size := by have := HBl.out.size; have := HSz.out; omega
      have HA4 := hid ((HBl.out.block w.heap.size hAl).trans HA3.out)
      have hW3 : bp < wr.heap.size := by have := HBl.out.size; have := HSz.out; omega
      have HA4 := hid ((HBl.out.block w.heap.size hAl).trans HA3.out)
      have hW3 : bp < wr.heap.size := by have := HBl.out.size; have := HSz.out; omega
      have HA4 := hid ((HBl.out.block w.heap.size hAl).trans HA3.out)
      have hW3 : bp < wr.heap.size := by have := HBl.out.size; have := HSz.out; omega
      have HA4 := hid ((HBl.out.block w.heap.size hAl).trans HA3.out)
      have hW3 : bp < wr.heap.size := by have := HBl.out.size; have := HSz.out; omega
      have HA4 := hid ((HBl.out.block w.heap.size hAl).trans HA3.out)
      have hW3 : bp < wr.heap.size := by have := HBl.out.size; have := HSz.out; omega
      have HA4 := hid ((HBl.out.block w.heap.size hAl).trans HA3.out)
      have hW3 : bp < wr.heap.size := by have := HBl.out.size; have := HSz.out; omega
      have HA4 := hid ((HBl.out.block w.heap.size hAl).trans HA3.out)
      have hW3 : bp < wr.heap.size := by have := HBl.out.size; have := HSz.out; omega
      have HA4 := hid ((HBl.out.block w.heap.size hAl).trans HA3.out)
      have hW3 : bp < wr.heap.size := by have := HBl.out.size; have := HSz.out; omega
      have HA4 := hid ((HBl.out.block w.heap.size hAl).trans HA3.out)
      have hW3 : bp < wr.heap.size := by have := HBl.out.size; have := HSz.out; omega
      have HA4 := hid ((HBl.out.block w.heap.size hAl).trans HA3.out)
      have hW3 : bp < wr.heap.size := by have := HBl.out.size; have := HSz.out; omega
      have HA4 := hid ((HBl.out.block w.heap.size hAl).trans HA3.out)
      have hW3 : bp < wr.heap.size := by have := HBl.out.size; have := HSz.out; omega
      rename World => w3
      have HS1 : Hid (STl w3 w.heap.size bp N (.slice none 0 0) [] (.slice none 0 0) [] (.slice none 0 0) w3) := ⟨HS0.out, World.ownsRow_nil _ _ _ _, fun q e => by simp [Value.ownBlock] at e, fun q e => by simp [Value.ownBlock] at e, hW3, Or.inl rfl, FrmG.refl _ _ _ _⟩
      have HTg := hid (fun x w => specTag_calls x w)
      unfold tagZ at HTg
      clear HS0 HRo HF HBl HB2 HK HSz HA3 HB3 HQ
      go_wp2_with fail
      go_loopw [9, 10, 11] (fun vm vt i wr => ∃ (ii : Int) (k : Nat), i = .int .i64 ii ∧ Hid (ii = (k : Int) ∧ k ≤ n) ∧ Hid (STl w3 w.heap.size bp N (.slice none 0 0) (tellsRun ws xs k []).1 vm (tellsRun ws xs k []).2 vt wr)) (fun _ _ i _ => n - (intOf i).toNat)
      case atStart => exact ⟨0, 0, rfl, ⟨rfl, by omega⟩, HS1.out⟩
      case round =>
        obtain ⟨ii, k, rfl, HQ, HS⟩ := hrel
        have hi0' : 0 ≤ ii := by have := HQ.out; omega
        by_cases hlt2 : ii < (n : Int)
        · have hkm2 : k < n := by have := HQ.out; omega
          have hik : ii.toNat = k := by have := HQ.out; omega
          have hkx : k < xs.length := by have := HXn.out; omega
          have HOld : Hid (∀ q, q < w3.heap.size → q ≠ bp → wr.heap[q]? = w3.heap[q]?) := fun q hq hne => HS.out.frm.block q hq hne hne (by simp [Value.ownBlock])
          have q0 : wr.cell? ⟨rg, k, none⟩ = some (.int .i64 (xs.getD k 0)) := by
            have hrg : rg < w.heap.size := HL.out.1 (Nat.lt_of_le_of_lt (Nat.zero_le _) hkx)
            have hrl : rg < w3.heap.size := Nat.lt_of_lt_of_le hrg HBw.out.size
            have e := (World.cell?_of_block (w := w3) (a := ⟨rg, 0 + k, none⟩) (HOld.out rg hrl (by omega))).trans ((HBw.out.cell (p := ⟨rg, 0 + k, none⟩) hrg).trans (HL.out.2 k hkx))
            rw [Nat.zero_add] at e
            exact e
          have HDr : Hid (Wds b off N ws wr) := HS.out.frm.wds (HD.out.below HBw.out) HD.out.lt (by omega) (by omega) (fun q e => by simp [Value.ownBlock] at e)
          have HLd := hid (HX.out k hkx)
          have HMt := hid (Met.tells HKo.out (met := []) ⟨List.nodup_nil, fun a ha => by cases ha⟩ HX.out k (by omega)).1
          have HLk := hid (Met.tells HKo.out (met := []) ⟨List.nodup_nil, fun a ha => by cases ha⟩ HX.out k (by omega)).2.2
          have HNx : Hid (tellsRun ws xs (k + 1) [] = ((tellZ ws (tellsRun ws xs k []).1 (xs.getD k 0)).1, (tellsRun ws xs k []).2 ++ [(tellZ ws (tellsRun ws xs k []).1 (xs.getD k 0)).2])) := rfl
          obtain ⟨x, hxk⟩ : ∃ x, xs.getD k 0 = x := ⟨_, rfl⟩
          obtain ⟨mt, hmt⟩ : ∃ mt, (tellsRun ws xs k []).1 = mt := ⟨_, rfl⟩
          obtain ⟨ot, hot⟩ : ∃ ot, (tellsRun ws xs k []).2 = ot := ⟨_, rfl⟩
          rw [hxk] at q0 HLd HNx
          rw [hmt, hot] at HNx HS
          rw [hot] at HLk
          rw [hmt] at HMt
          obtain ⟨r, hr⟩ : ∃ r, tellZ ws mt x = r := ⟨_, rfl⟩
          rw [hr] at HNx
          have HrE := hid hr
          have HSg := hid HS.out.gr
          have HSh : Hid (mt.length ≤ 8000) := by have e := HMt.out.short HKo.out; have := HDr.out.len; show _ ≤ _; omega
          obtain ⟨h0, h1, h2, h3, h4, h5, h6, h7, h8, h9⟩ := HeapBlk.cells (h := ⟨g1, g2, g3, g4, g5, g6, g7, g8, g9⟩) ((HOld.out w.heap.size (by omega) (by omega)).trans HA4.out)
          dsimp only at h0 h1 h2 h3 h4 h5 h6 h7 h8 h9
          clear hxk hmt hot hr
          go_wp2_with fail
          refine (HTg.out _ _).mono ?_
          rintro e Wt ⟨rfl, rfl⟩
          go_upto_if 60 with fail
          go_cut [9, 12, 13] from 48 to 86 (fun vm' tw _ wx => tw = .int .i64 r.2 ∧ Hid (SGr w.heap.size bp N r.1 vm' wx) ∧ Hid (FrmG wr bp bp u9 wx) ∧ Hid (MovedTo wr u9 vm'))
          case first =>
            by_cases hx8 : x % 8 = 0
            case neg =>
              have hne : ((x % 8 : Int) == 0) = false := by simpa using hx8
              have hre : (mt, x) = r := by rw [← HrE.out]; unfold tellZ; rw [if_neg hx8]
              go_wp2_with fail
              go_meet
              case rel => exact ⟨by rw [← hre], by rw [← hre]; exact HSg.out, FrmG.refl _ _ _ _, Or.inl rfl⟩
            obtain ⟨y0, y1, hyS⟩ := HLd.out hx8
            have hnode := now_node HKo.out HLd.out hx8
            have hnn := HKo.out.noted.2 _ hnode.here
            have HNw := hid (HNow.out x wr HDr.out HLd.out hx8)
            obtain ⟨c, hc⟩ : ∃ c, nowZ ws (x / 8).toNat = c := ⟨_, rfl⟩
            rw [hc] at hnn HNw
            have hcN : c < N := by rw [← HDr.out.len]; exact hnn.1
            have hre : (if c ∈ mt then (mt, 8 * ((mt).idxOf c : Int)) else (mt ++ [c], 8 * ((mt).length : Int))) = r := by rw [← HrE.out]; unfold tellZ; rw [if_pos hx8, hc]
            have HRe := hid hre
            obtain ⟨ci, hci⟩ : ∃ ci : Int, (c : Int) = ci := ⟨_, rfl⟩
            rw [hci] at HNw
            have Hci := hid hci
            have hx8b : ((x % 8 : Int) == 0) = true := by simpa using hx8
            clear hnode hnn hc hre hci y0 y1 hyS
            go_wp2_with fail
            refine HNw.out.mono ?_
            rintro e Wn ⟨rfl, hbn⟩
            have HG2 := hid (HSg.out.keep hbn)
            have HF2 := hid (FrmG.of_below hbn bp bp u9)
            clear hbn HNw
            have q0 := HG2.out.places.cell (i := c) hcN
            have hct : ci.toNat = c := by have := Hci.out; omega
            have hc0 : 0 ≤ ci := by have := Hci.out; omega
            have hcl : ci < (N : Int) := by have := Hci.out; omega
            have hpr := placeZ_range (met := mt) (a := c)
            obtain ⟨p1, hp1⟩ : ∃ p1, placeZ mt c = p1 := ⟨_, rfl⟩
            rw [hp1] at q0
            have Hp1 := hid hp1
            by_cases hin : c ∈ mt
            · have hix := List.idxOf_lt_length_of_mem hin
              have hpv : p1 = (((mt).idxOf c : Nat) : Int) := by rw [← hp1]; unfold placeZ; rw [if_pos hin]
              have hnl : ¬ p1 < 0 := by omega
              have HMk := hid (fun w => specMake_calls 0 p1 w)
              have HMv : Hid (makeZ 0 p1 = 8 * ((mt).idxOf c : Int)) := by
                have := HSh.out
                show _ = _
                rw [hpv]
                unfold makeZ wrap64
                simp
                omega
              rw [HMv.out] at HMk
              have HRi : Hid ((mt, 8 * ((mt).idxOf c : Int)) = r) := by show _ = _; rw [← HRe.out, if_pos hin]
              clear hix hpv hpr hp1 HMv
              go_wp2_with fail
              refine (HMk.out _).mono ?_
              rintro e Wm ⟨rfl, rfl⟩
              go_wp2_with fail
              go_meet
              case rel => exact ⟨by rw [← HRi.out], by rw [← HRi.out]; exact HG2.out, HF2.out, Or.inl rfl⟩
            · have hpz : p1 < 0 := by rw [← hp1]; exact placeZ_neg.2 hin
              have HRi : Hid ((mt ++ [c], 8 * ((mt).length : Int)) = r) := by show _ = _; rw [← HRe.out, if_neg hin]
              have HPn := hid (fun a => placeZ_new (met := mt) hin a)
              clear hpr hp1
              obtain ⟨-, ad, cm, hvm⟩ := owns_at HG2.out.row
              subst hvm
              obtain ⟨_, _, hrow, _, _⟩ := HG2.out.places
              have fq := hrow.frozen c hcN
              have q5 := row_set' HG2.out.places c (.int .i64 ((mt).length : Int))
              have HP5 : Hid (CellRow 3 (Wn.setCell ⟨bp, c, none⟩ (.int .i64 ((mt).length : Int))) bp N (fun a => .int .i64 (placeZ (mt ++ [c]) a))) := by
                refine q5.congr (fun j hj => ?_)
                rw [HPn.out]
                by_cases h : j = c
                · rw [if_pos h, if_pos h]
                · rw [if_neg h, if_neg h]
              have HO5 : Hid (∀ g, g ≠ bp → (Wn.setCell ⟨bp, c, none⟩ (.int .i64 ((mt).length : Int))).heap[g]? = Wn.heap[g]?) := fun g hg => Below.heap_setCell Wn ⟨bp, c, none⟩ _ g hg
              have HZ5 : Hid (Wn.heap.size = (Wn.setCell ⟨bp, c, none⟩ (.int .i64 ((mt).length : Int))).heap.size) := by show _ = _; simp [World.setCell]
              have HT5 : Hid ((Wn.setCell ⟨bp, c, none⟩ (.int .i64 ((mt).length : Int))).os = Wn.os ∧ (Wn.setCell ⟨bp, c, none⟩ (.int .i64 ((mt).length : Int))).tape = Wn.tape ∧ (Wn.setCell ⟨bp, c, none⟩ (.int .i64 ((mt).length : Int))).output = Wn.output) := ⟨rfl, rfl, rfl⟩
              obtain ⟨X, hX⟩ : ∃ X, Wn.setCell ⟨bp, c, none⟩ (.int .i64 ((mt).length : Int)) = X := ⟨_, rfl⟩
              rw [hX] at HP5 HO5 HZ5 HT5
              have HRX : Hid (X.ownsRow w.heap.size 3 1 (.slice ad (mt).length cm) (mt).length (metCells mt)) := owns_of_block HG2.out.row (fun g e => HO5.out g (fun e' => HG2.out.n2 (e' ▸ e)))
              have hKX := (Below.refl X.heap.size X).alloc (Nat.le_refl _) (.cells #[.int .i64 ci] 3)
              have hE : (X.alloc (.cells #[.int .i64 ci] 3)).heap[X.heap.size]? = some (.cells #[.int .i64 ci] 3) := (MapKept.heap_alloc X _).1
              have hsX : (X.alloc (.cells #[.int .i64 ci] 3)).heap.size = X.heap.size + 1 := by simp
              have HKX := hid hKX
              have HE := hid hE
              have HsX := hid hsX
              obtain ⟨i0, hi, hz0, hz1, hz2⟩ := info_parts info_int
              have hlen8 := HSh.out
              have HB2 : Hid (w.heap.size ≤ (X.alloc (.cells #[.int .i64 ci] 3)).heap.size) := by have h1 := HsX.out; have h2 := HG2.out.b2; have h3 := HG2.out.places.lt; have h4 := HZ5.out; show _ ≤ _; omega
              clear q5 hrow hKX hE hsX
              go_wp2_with (first
                | (at_builtin; refine wpList_append_own_at _ rfl _ _ 23 rfl w.heap.size 3 i0 (.int .i64 0) 1 8 Try.underlying23 hi hz0 hz1 hz2 rfl (by decide) (.slice ad (mt).length cm) (mt).length (metCells mt) rfl (kept_owns HRX.out HKX.out) ⟨X.heap.size, 0, none⟩ 1 1 [.int .i64 ci] rfl rfl (fun j u hu => ?_) (fun u hu => ?_) (by unfold maxLen; omega) (by omega) HB2.out ?_))
              · cases j with
                | zero =>
                  simp at hu
                  subst hu
                  exact (cell_of_heap HE.out 0)
                | succ j => simp at hu
              · simp at hu
                subst hu
                rfl
              intro v' Wv hown hgrow hnil hat
              obtain ⟨gos, gtape, gout, gsz, gblk⟩ := hgrow
              rw [HsX.out] at gsz gblk
              have hnb := HG2.out.n2
              have hbpl : bp < Wn.heap.size := HG2.out.places.lt
              have hzx := HZ5.out
              have hzf := HF2.out.size
              have HPv : Hid (CellRow 3 Wv bp N (fun a => .int .i64 (placeZ (mt ++ [c]) a))) := HP5.out.of_block ((gblk bp (by omega) (Ne.symm hnb)).trans (HKX.out.block bp (by omega)))
              have HFv : Hid (FrmG wr bp bp (.slice ad (mt).length cm) Wv) := HF2.out.trans (Or.inl rfl) ⟨gos.trans (HKX.out.os.trans HT5.out.1), gtape.trans (HKX.out.tape.trans HT5.out.2.1), gout.trans (HKX.out.output.trans HT5.out.2.2), by omega, fun q hq h1 _ h2 => (gblk q (by omega) (Ne.symm h2)).trans ((HKX.out.block q (by omega)).trans (HO5.out q h1))⟩
              have HMv : Hid (MovedTo wr (.slice ad (mt).length cm) v') := by
                rcases hat with h | h
                · exact Or.inl h
                · exact Or.inr ⟨_, h, by omega⟩
              have HSv : Hid (SGr w.heap.size bp N (mt ++ [c]) v' Wv) := by
                refine ⟨HPv.out, ?_, fun e => ?_, HG2.out.b2⟩
                · unfold metCells at hown ⊢
                  rw [List.length_append, List.map_append]
                  rw [← Hci.out] at hown
                  exact hown
                · rcases hat with h | h
                  · exact hnb (h.symm.trans e)
                  · rw [e] at h
                    cases h
                    omega
              have q6 := HPv.out.cell (i := c) hcN
              have hpl : placeZ (mt ++ [c]) c = ((mt).length : Int) := by rw [HPn.out, if_pos rfl]
              rw [hpl] at q6
              have HMk := hid (fun w => specMake_calls 0 ((mt).length : Int) w)
              have HMv2 : Hid (makeZ 0 ((mt).length : Int) = 8 * ((mt).length : Int)) := by
                have := HSh.out
                show _ = _
                unfold makeZ wrap64
                simp
                omega
              rw [HMv2.out] at HMk
              clear hown hat gos gtape gout gsz gblk hnil hpl hX HKX HE HsX HB2 HRX HP5 HO5 HZ5 HT5 q0 fq hi hz0 hz1 hz2 HMv2
              go_wp2_with fail
              refine (HMk.out _).mono ?_
              rintro e Wm ⟨rfl, rfl⟩
              go_wp2_with fail
              go_meet
              case rel => exact ⟨by rw [← HRi.out], by rw [← HRi.out]; exact HSv.out, HFv.out, HMv.out⟩
          case rest =>
            obtain ⟨rfl, HSx, HFx, HMx⟩ := hcut
            have HS2 := hid (HS.out.tell HSx.out HFx.out HMx.out)
            have hKt := (Below.refl wc.heap.size wc).alloc (Nat.le_refl _) (.cells #[.int .i64 r.2] 3)
            have hE : (wc.alloc (.cells #[.int .i64 r.2] 3)).heap[wc.heap.size]? = some (.cells #[.int .i64 r.2] 3) := (MapKept.heap_alloc wc _).1
            have HKt := hid hKt
            have HE := hid hE
            have HBt : Hid (w.heap.size ≤ (wc.alloc (.cells #[.int .i64 r.2] 3)).heap.size) := by have h1 := hKt.size; have h2 := HS2.out.gr.b2; have h3 := HS2.out.gr.places.lt; show _ ≤ _; omega
            obtain ⟨i0, hi, hz0, hz1, hz2⟩ := info_parts info_int
            have hol : ot.length ≤ 20 := by have := HLk.out; have := HN20.out; omega
            have hs : Hid (n - (intOf (.int .i64 (ii + 1))).toNat < n - (intOf (.int .i64 ii)).toNat) := by show _ < _; simp only [intOf]; omega
            have hw : Hid (wrap64 (ii + 1) = ii + 1) := by show _ = _; have := HN20.out; unfold wrap64; omega
            clear hKt hE HSx HFx HMx HS HSg h0 h1 h2 h3 h4 h5 h6 h7 h8 h9 q0
            go_wp2_with (first
              | (at_builtin; refine wpList_append_own_at _ rfl _ _ 23 rfl w.heap.size 3 i0 (.int .i64 0) 1 8 Try.underlying23 hi hz0 hz1 hz2 rfl (by decide) u10 ot.length (wordCells ot) rfl (kept_owns HS2.out.row HKt.out) ⟨wc.heap.size, 0, none⟩ 1 1 [.int .i64 r.2] rfl rfl (fun j u hu => ?_) (fun u hu => ?_) (by unfold maxLen; omega) (by omega) HBt.out ?_))
            · cases j with
              | zero =>
                simp at hu
                subst hu
                exact (cell_of_heap HE.out 0)
              | succ j => simp at hu
            · simp at hu
              subst hu
              rfl
            intro v' Wv hown hgrow hnil hat
            have HS3 : Hid (STl w3 w.heap.size bp N (.slice none 0 0) r.1 u9 (ot ++ [r.2]) v' Wv) := (HS2.out.below HKt.out).push r.2 hown hgrow (by
              rcases hat with h | h
              · exact Or.inl h
              · exact Or.inr ⟨_, h, by simp⟩)
            clear hown hgrow hnil hat HKt HE HBt hi hz0 hz1 hz2 HS2
            go_wp2_with fail
            try rw [hw.out]
            refine ⟨⟨ii + 1, k + 1, rfl, ⟨by have := HQ.out; push_cast; omega, by omega⟩, ?_⟩, hs.out⟩
            rw [HNx.out]
            exact HS3.out


        · have hkm2 : k = n := by have := HQ.out; omega
          rw [hkm2] at HS
          have HM0 : Hid (Met ws S (tellsRun ws xs n []).1) := (Met.tells HKo.out (met := []) ⟨List.nodup_nil, fun a ha => by cases ha⟩ HX.out n (by rw [HXn.out]; exact Nat.le_refl _)).1
          have HB4 : Hid (Below w.heap.size w wr) := HBw.out.trans ⟨HS.out.frm.os, HS.out.frm.tape, HS.out.frm.output, HS.out.frm.size, fun q hq => HS.out.frm.block q (by have := HBw.out.size; omega) (by omega) (by omega) (by simp [Value.ownBlock])⟩
          have HA5 := hid ((HS.out.frm.block w.heap.size (by omega) (by omega) (by omega) (by simp [Value.ownBlock])).trans HA4.out)
          have hw4 : bp < wr.heap.size := by have := HS.out.frm.size; omega
          obtain ⟨M, hM⟩ : ∃ M, (tellsRun ws xs n []).1 = M := ⟨_, rfl⟩
          obtain ⟨T, hT⟩ : ∃ T, (tellsRun ws xs n []).2 = T := ⟨_, rfl⟩
          rw [hM, hT] at HS
          rw [hM] at HM0
          have HMe := hid hM
          have HTe := hid hT
          generalize u9 = v9 at *
          generalize u10 = v10 at *
          rename World => w4
          have HTo := hid HS.out
          have HN9 : Hid (v9.ownBlock ≠ some w.heap.size) := fun e => by
            rcases HS.out.mv with h | ⟨q, h, hl⟩
            · rw [e] at h
              simp [Value.ownBlock] at h
            · rw [e] at h
              cases h
              omega
          have HS30 : Hid (SG3 w4 w.heap.size bp N v9 M v9 [] (fun _ => .slice none 0 0) (.slice none 0 0) w4) := ⟨HS.out.gr, World.ownsRow_nil _ _ _ _, fun i hi => (by cases hi), fun i hi => (by cases hi), fun q e => (by simp [Value.ownBlock] at e), fun q e => (by simp [Value.ownBlock] at e), hw4, Or.inl rfl, FrmG.refl _ _ _ _⟩
          have HMg : Hid (∀ k, (∀ j, j < k → j < (graphRun ws j M).1.length) → Met ws S (graphRun ws k M).1 ∧ (graphRun ws k M).2.length = k) := fun k hk => ⟨(Met.graph HKo.out HM0.out k hk).1, (Met.graph HKo.out HM0.out k hk).2.2⟩
          clear hM hT HS HQ
          go_wp2_with fail
          go_loopw [9, 14, 15] (fun vm vo i wr => ∃ (ii : Int) (k : Nat) (vs : Nat → Value), i = .int .i64 ii ∧ Hid (ii = (k : Int) ∧ ∀ j, j < k → j < (graphRun ws j M).1.length) ∧ Hid (SG3 w4 w.heap.size bp N v9 (graphRun ws k M).1 vm (graphRun ws k M).2 vs vo wr)) (fun _ _ i _ => N - (intOf i).toNat)
          case atStart => exact ⟨0, 0, fun _ => .slice none 0 0, rfl, ⟨rfl, fun j hj => by omega⟩, HS30.out⟩
          case round =>
            clear HS30 HS1
            obtain ⟨i3, k3, vs, rfl, HQ, HS⟩ := hrel
            have HMk := hid (HMg.out k3 HQ.out.2)
            have HNx : Hid (graphRun ws (k3 + 1) M = ((tellsRun ws (fieldsAtZ ws ((graphRun ws k3 M).1.getD k3 0)) (fieldsAtZ ws ((graphRun ws k3 M).1.getD k3 0)).length (graphRun ws k3 M).1).1, (graphRun ws k3 M).2 ++ [(ws.getD ((graphRun ws k3 M).1.getD k3 0) 0 % 16, (tellsRun ws (fieldsAtZ ws ((graphRun ws k3 M).1.getD k3 0)) (fieldsAtZ ws ((graphRun ws k3 M).1.getD k3 0)).length (graphRun ws k3 M).1).2)])) := rfl
            have HLs : Hid (∀ j, j < k3 → j < (graphRun ws j M).1.length) := HQ.out.2
            have HQk : Hid (i3 = (k3 : Int)) := HQ.out.1
            obtain ⟨mt, hmt⟩ : ∃ mt, (graphRun ws k3 M).1 = mt := ⟨_, rfl⟩
            obtain ⟨ot, hot⟩ : ∃ ot, (graphRun ws k3 M).2 = ot := ⟨_, rfl⟩
            rw [hmt, hot] at HS HNx HMk
            have Hmt := hid hmt
            have Hot := hid hot
            clear hmt hot HQ
            obtain ⟨-, ad, cm, hvm⟩ := owns_at HS.out.gr.row
            subst hvm
            have HSh0 := hid (HMk.out.1.short HKo.out)
            by_cases hlt3 : i3 < (mt.length : Int)
            · have hkm3 : k3 < mt.length := by have := HQk.out; omega
              have hik : i3.toNat = k3 := by have := HQk.out; omega
              have hi03 : 0 ≤ i3 := by have := HQk.out; omega
              obtain ⟨gm, rfl⟩ : ∃ gm, ad = some ⟨gm, 0, none⟩ := by
                obtain ⟨-, ⟨e, h0⟩ | ⟨g, cap', cur, e, -⟩⟩ := HS.out.gr.row
                · omega
                · cases e
                  exact ⟨g, rfl⟩
              have hnode : Node ws S (mt.getD k3 0) := HMk.out.1.nodes _ (by simp [List.getD, hkm3])
              obtain ⟨h36, haN, hfl⟩ := node_at HKo.out hnode
              have qm : wr.cell? ⟨gm, k3, none⟩ = some (.int .i64 ((mt.getD k3 0 : Nat) : Int)) := by
                have e := HS.out.gr.row.cells (g := gm) (by simp [Value.ownBlock]) k3 (.int .i64 ((mt.getD k3 0 : Nat) : Int)) (by unfold metCells; simp [List.getD, hkm3])
                rw [show (⟨gm, 0, none⟩ : Addr).add k3 = ⟨gm, k3, none⟩ from by unfold Addr.add; split <;> simp_all] at e
                exact e
              have hgl : gm < wr.heap.size := (HS.out.gr.own_lt (by simp [Value.ownBlock])).2
              have hfl' := fieldsAtZ_len ws (mt.getD k3 0)
              have HFz := hid (fun i (hi : i < (fieldsAtZ ws (mt.getD k3 0)).length) => show Leads ws S ((fieldsAtZ ws (mt.getD k3 0)).getD i 0) from by
                rw [hfl'] at hi
                rw [fieldsAtZ_get hi]
                exact hfl i hi)
              have HFg := hid (fun i (hi : i < (fieldsAtZ ws (mt.getD k3 0)).length) => show (fieldsAtZ ws (mt.getD k3 0)).getD i 0 = ws.getD (mt.getD k3 0 + 1 + i) 0 from by
                rw [hfl'] at hi
                exact fieldsAtZ_get hi)
              have HDr : Hid (Wds b off N ws wr) := HS.out.frm.wds (HD.out.below HB4.out) HD.out.lt (by omega) (by omega) (fun q e => (HTo.out.gr.own_lt e).1)
              have HLen := hid HD.out.len
              have Hgk : Hid (mt.getD k3 0 = mt.getD k3 0) := rfl
              obtain ⟨a, ha⟩ : ∃ a, mt.getD k3 0 = a := ⟨_, rfl⟩
              have Ha := hid ha
              rw [ha] at qm HFz HFg h36 haN hfl' HNx
              obtain ⟨fz, hfz⟩ : ∃ fz, fieldsAtZ ws a = fz := ⟨_, rfl⟩
              rw [hfz] at HFz HFg hfl' HNx
              have haN' : a < N := by have := HLen.out; omega
              have qw := HDr.out.cells a haN'
              obtain ⟨x, hxv⟩ : ∃ x, ws.getD a 0 = x := ⟨_, rfl⟩
              rw [hxv] at h36 haN hfl' HNx qw
              obtain ⟨m, hm⟩ : ∃ m, fz.length = m := ⟨_, rfl⟩
              rw [hm] at hfl' HNx HFz HFg
              have Hm := hid hm
              obtain ⟨ai, hai⟩ : ∃ ai : Int, (a : Int) = ai := ⟨_, rfl⟩
              rw [hai] at qm
              have Hai := hid hai
              obtain ⟨si, hsi⟩ : ∃ si, x / 16 = si := ⟨_, rfl⟩
              have Hsi : Hid (si = (m : Int) + 1 ∧ (m = 2 ∨ m = 5) ∧ a + (m + 1) ≤ N) := ⟨by omega, by omega, by have := HLen.out; omega⟩
              have hb15 := and15 x
              obtain ⟨kd, hkd⟩ : ∃ kd, x % 16 = kd := ⟨_, rfl⟩
              rw [hkd] at hb15 HNx
              have hat : ai.toNat = a := by omega
              have ha0 : 0 ≤ ai := by omega
              have hal : ai < (N : Int) := by omega
              have hAw := (HS.out.frm.block w.heap.size (by omega) (by omega) (by omega) (fun e => by have := (HTo.out.gr.own_lt e); exact absurd e (HN9.out))).trans HA5.out
              have l0 : ∀ y : Later wr.heap.size wr, y.w.cell? ⟨w.heap.size, 0, none⟩ = some (.slice (some ⟨b, off, none⟩) N cap) := fun y => y.cell (heap_lt hAw) (HeapBlk.cells (h := ⟨g1, g2, g3, g4, g5, g6, g7, g8, g9⟩) hAw).1
              have l1 : ∀ y : Later wr.heap.size wr, y.w.cell? ⟨gm, k3, none⟩ = some (.int .i64 ai) := fun y => y.cell hgl qm
              have l2 : ∀ y : Later wr.heap.size wr, y.w.cell? ⟨b, off + a, none⟩ = some (.int .i64 x) := fun y => y.cell HDr.out.lt qw
              have HAw : Hid (HeapBlk wr w.heap.size (.slice (some ⟨b, off, none⟩) N cap) ⟨g1, g2, g3, g4, g5, g6, g7, g8, g9⟩) := hAw
              clear hnode h36 haN hfl hfl' hfz hxv hm hai ha haN' hkd hAw qm qw Hgk
              go_wp2_with fail
              refine wp_region_calm wr.heap.size (by kernel_rfl) (by kernel_rfl) ?_
              repeat (go_big_quiet_step (fail))
              refine wpQuiet_nil ?_
              rintro w6 ⟨y, rfl⟩
              have HS1 := hid (HS.out.below y.h)
              have HD1 := hid (HDr.out.below y.h)
              have HA1 := hid (HAw.out.below y.h)
              generalize y.w = X1 at *
              clear y l0 l1 l2 HDr HAw HS
              have hK2 := (Below.refl X1.heap.size X1).alloc (Nat.le_refl _) (.cells #[.int .i64 kd, .slice none 0 0] 45)
              have hE2 : (X1.alloc (.cells #[.int .i64 kd, .slice none 0 0] 45)).heap[X1.heap.size]? = some (.cells #[.int .i64 kd, .slice none 0 0] 45) := (MapKept.heap_alloc X1 _).1
              have HT2 : Hid (STl X1 w.heap.size bp N (.slice (some ⟨gm, 0, none⟩) mt.length cm) mt (.slice (some ⟨gm, 0, none⟩) mt.length cm) [] (.slice none 0 0) (X1.alloc (.cells #[.int .i64 kd, .slice none 0 0] 45))) := ⟨HS1.out.gr.keep hK2, World.ownsRow_nil _ _ _ _, fun q e => (by simp [Value.ownBlock] at e), fun q e => (by simp [Value.ownBlock] at e), HS1.out.gr.places.lt, Or.inl rfl, FrmG.of_below hK2 _ _ _⟩
              have HE2 := hid hE2
              have HN1 : Hid ((Value.slice (some ⟨gm, 0, none⟩) mt.length cm).ownBlock ≠ some w.heap.size) := fun e => by
                rcases HS1.out.mv with h | ⟨q, h, hl⟩
                · exact HN9.out (h.symm.trans e)
                · rw [e] at h
                  cases h
                  omega
              clear hK2 hE2
              go_wp2_with fail
              generalize X1.alloc (.cells #[.int .i64 kd, .slice none 0 0] 45) = X2 at *
              go_loopw [9, 18] (fun vm i wr => ∃ (jj : Int) (j : Nat) (vt : Value), i = .int .i64 jj ∧ Hid (jj = (j : Int) + 1 ∧ j ≤ m) ∧ Hid (STl X1 w.heap.size bp N (.slice (some ⟨gm, 0, none⟩) mt.length cm) (tellsRun ws fz j mt).1 vm (tellsRun ws fz j mt).2 vt wr) ∧ Hid (wr.heap[X1.heap.size]? = some (.cells #[.int .i64 kd, vt] 45)) ∧ Hid (vm.ownBlock ≠ some X1.heap.size ∧ vt.ownBlock ≠ some X1.heap.size)) (fun _ i _ => m + 1 - (intOf i).toNat)
              case atStart => exact ⟨1, 0, .slice none 0 0, rfl, ⟨rfl, by omega⟩, HT2.out, HE2.out, ⟨by have := (HS1.out.gr.own_lt (k := gm) (by simp [Value.ownBlock])).2; simp [Value.ownBlock]; omega, by simp [Value.ownBlock]⟩⟩
              case round =>
                clear HT2 HE2
                obtain ⟨jj, j, vt, rfl, HQ4, HT, HE, HNo⟩ := hrel
                have hj0 : 0 ≤ jj := by have := HQ4.out; omega
                have HM4 := hid (Met.tells HKo.out HMk.out.1 (xs := fz) (fun i hi => HFz.out i (by have := Hm.out; omega)) j (by have := HQ4.out; have := Hm.out; omega))
                by_cases hlt4 : jj < si
                · have hjm : j < m := by have := HQ4.out; have := Hsi.out; omega
                  have HNx4 : Hid (tellsRun ws fz (j + 1) mt = ((tellZ ws (tellsRun ws fz j mt).1 (fz.getD j 0)).1, (tellsRun ws fz j mt).2 ++ [(tellZ ws (tellsRun ws fz j mt).1 (fz.getD j 0)).2])) := rfl
                  have HLd := hid (HFz.out j hjm)
                  have hfg := HFg.out j hjm
                  have HDr : Hid (Wds b off N ws wr) := HT.out.frm.wds HD1.out HD.out.lt (by omega) (by omega) (fun q e => (HS1.out.gr.own_lt e).1)
                  have HA4' := hid ((HT.out.frm.block w.heap.size (heap_lt HA1.out) (by omega) (by omega) (by have := HN1.out; exact this)).trans HA1.out)
                  have hpN : a + 1 + j < N := by have := Hsi.out; omega
                  have qx := HDr.out.cells (a + 1 + j) hpN
                  rw [← hfg] at qx
                  obtain ⟨r0, hr0⟩ := HM4.out.2.1
                  have hkl : k3 < (tellsRun ws fz j mt).1.length := by rw [hr0, List.length_append]; omega
                  have hkv : (tellsRun ws fz j mt).1.getD k3 0 = a := by rw [hr0, ← Ha.out]; simp [List.getD, List.getElem?_append_left hkm3]
                  have HMm := hid HM4.out.1
                  have HLk := hid HM4.out.2.2
                  obtain ⟨x4, hx4⟩ : ∃ x4, fz.getD j 0 = x4 := ⟨_, rfl⟩
                  obtain ⟨m4, hm4⟩ : ∃ m4, (tellsRun ws fz j mt).1 = m4 := ⟨_, rfl⟩
                  obtain ⟨o4, ho4⟩ : ∃ o4, (tellsRun ws fz j mt).2 = o4 := ⟨_, rfl⟩
                  rw [hx4] at HNx4 HLd qx
                  rw [hm4, ho4] at HNx4 HT
                  rw [hm4] at HMm hkl hkv
                  rw [ho4] at HLk
                  obtain ⟨r, hr⟩ : ∃ r, tellZ ws m4 x4 = r := ⟨_, rfl⟩
                  rw [hr] at HNx4
                  have HrE := hid hr
                  obtain ⟨-, ad4, c4m, hvm4⟩ := owns_at HT.out.gr.row
                  subst hvm4
                  obtain ⟨g4m, rfl⟩ : ∃ gm, ad4 = some ⟨gm, 0, none⟩ := by
                    obtain ⟨-, ⟨e, h0⟩ | ⟨g, cap', cur, e, -⟩⟩ := HT.out.gr.row
                    · omega
                    · cases e
                      exact ⟨g, rfl⟩
                  have qm4 : wr.cell? ⟨g4m, k3, none⟩ = some (.int .i64 ai) := by
                    have e := HT.out.gr.row.cells (g := g4m) (by simp [Value.ownBlock]) k3 (.int .i64 ((m4.getD k3 0 : Nat) : Int)) (by unfold metCells; simp [List.getD, hkl])
                    rw [show (⟨g4m, 0, none⟩ : Addr).add k3 = ⟨g4m, k3, none⟩ from by unfold Addr.add; split <;> simp_all] at e
                    rw [hkv, Hai.out] at e
                    exact e
                  have hgl4 : g4m < wr.heap.size := (HT.out.gr.own_lt (by simp [Value.ownBlock])).2
                  have HSh : Hid (m4.length ≤ 8000) := by have e := HMm.out.short HKo.out; have := HLen.out; show _ ≤ _; omega
                  have hik4 : i3 < (m4.length : Int) := by have := HQk.out; omega
                  have hw4i : wrap64 (ai + jj) = ai + jj := by have := Hai.out; have := HQ4.out; unfold wrap64; omega
                  have hti4 : (ai + jj).toNat = a + 1 + j := by have := Hai.out; have := HQ4.out; omega
                  have hlo4 : 0 ≤ ai + jj := by omega
                  have hhi4 : ai + jj < (N : Int) := by have := Hai.out; have := HQ4.out; omega
                  have l0 : ∀ y : Later wr.heap.size wr, y.w.cell? ⟨w.heap.size, 0, none⟩ = some (.slice (some ⟨b, off, none⟩) N cap) := fun y => y.cell (heap_lt HA4'.out) (HeapBlk.cells (h := ⟨g1, g2, g3, g4, g5, g6, g7, g8, g9⟩) HA4'.out).1
                  have l1 : ∀ y : Later wr.heap.size wr, y.w.cell? ⟨g4m, k3, none⟩ = some (.int .i64 ai) := fun y => y.cell hgl4 qm4
                  have l2 : ∀ y : Later wr.heap.size wr, y.w.cell? ⟨b, off + (a + 1 + j), none⟩ = some (.int .i64 x4) := fun y => y.cell HDr.out.lt qx
                  clear hfg hkl hkv hr0 hx4 hm4 ho4 hr qx qm4 hpN
                  go_wp2_with fail
                  refine wp_region_calm wr.heap.size (by kernel_rfl) (by kernel_rfl) ?_
                  repeat (go_big_quiet_step (fail))
                  refine wpQuiet_nil ?_
                  rintro w6 ⟨y, rfl⟩
                  have HT3 := hid (HT.out.below y.h)
                  have HD3 := hid (HDr.out.below y.h)
                  have HA3' := hid (HeapBlk.below (h := ⟨g1, g2, g3, g4, g5, g6, g7, g8, g9⟩) HA4'.out y.h)
                  have HE3' := hid ((y.h.block _ (heap_lt HE.out)).trans HE.out)
                  generalize y.w = X3 at *
                  clear y l0 l1 l2 HDr HA4' HT HE hgl4
                  have HDr := HD3
                  have HSg := hid HT3.out.gr
                  obtain ⟨h0, h1, h2, h3, h4, h5, h6, h7, h8, h9⟩ := HeapBlk.cells (h := ⟨g1, g2, g3, g4, g5, g6, g7, g8, g9⟩) HA3'.out
                  dsimp only at h0 h1 h2 h3 h4 h5 h6 h7 h8 h9
                  go_wp2_with fail
                  refine (HTg.out _ _).mono ?_
                  rintro e Wt ⟨rfl, rfl⟩
                  go_upto_if 122 with fail
                  go_cut [9, 19, 20] from 104 to 150 (fun vm' tw _ wx => tw = .int .i64 r.2 ∧ Hid (SGr w.heap.size bp N r.1 vm' wx) ∧ Hid (FrmG X3 bp bp (.slice (some ⟨g4m, 0, none⟩) m4.length c4m) wx) ∧ Hid (MovedTo X3 (.slice (some ⟨g4m, 0, none⟩) m4.length c4m) vm'))
                  case first =>
                    by_cases hx8 : x4 % 8 = 0
                    case neg =>
                      have hne : ((x4 % 8 : Int) == 0) = false := by simpa using hx8
                      have hre : (m4, x4) = r := by rw [← HrE.out]; unfold tellZ; rw [if_neg hx8]
                      go_wp2_with fail
                      go_meet
                      case rel => exact ⟨by rw [← hre], by rw [← hre]; exact HSg.out, FrmG.refl _ _ _ _, Or.inl rfl⟩
                    obtain ⟨y0, y1, hyS⟩ := HLd.out hx8
                    have hnode := now_node HKo.out HLd.out hx8
                    have hnn := HKo.out.noted.2 _ hnode.here
                    have HNw := hid (HNow.out x4 X3 HDr.out HLd.out hx8)
                    obtain ⟨c, hc⟩ : ∃ c, nowZ ws (x4 / 8).toNat = c := ⟨_, rfl⟩
                    rw [hc] at hnn HNw
                    have hcN : c < N := by rw [← HDr.out.len]; exact hnn.1
                    have hre : (if c ∈ m4 then (m4, 8 * ((m4).idxOf c : Int)) else (m4 ++ [c], 8 * ((m4).length : Int))) = r := by rw [← HrE.out]; unfold tellZ; rw [if_pos hx8, hc]
                    have HRe := hid hre
                    obtain ⟨ci, hci⟩ : ∃ ci : Int, (c : Int) = ci := ⟨_, rfl⟩
                    rw [hci] at HNw
                    have Hci := hid hci
                    have hx8b : ((x4 % 8 : Int) == 0) = true := by simpa using hx8
                    clear hnode hnn hc hre hci y0 y1 hyS
                    go_wp2_with fail
                    refine HNw.out.mono ?_
                    rintro e Wn ⟨rfl, hbn⟩
                    have HG2 := hid (HSg.out.keep hbn)
                    have HF2 := hid (FrmG.of_below hbn bp bp (.slice (some ⟨g4m, 0, none⟩) m4.length c4m))
                    clear hbn HNw
                    have q0 := HG2.out.places.cell (i := c) hcN
                    have hct : ci.toNat = c := by have := Hci.out; omega
                    have hc0 : 0 ≤ ci := by have := Hci.out; omega
                    have hcl : ci < (N : Int) := by have := Hci.out; omega
                    have hpr := placeZ_range (met := m4) (a := c)
                    obtain ⟨p1, hp1⟩ : ∃ p1, placeZ m4 c = p1 := ⟨_, rfl⟩
                    rw [hp1] at q0
                    have Hp1 := hid hp1
                    by_cases hin : c ∈ m4
                    · have hix := List.idxOf_lt_length_of_mem hin
                      have hpv : p1 = (((m4).idxOf c : Nat) : Int) := by rw [← hp1]; unfold placeZ; rw [if_pos hin]
                      have hnl : ¬ p1 < 0 := by omega
                      have HMk := hid (fun w => specMake_calls 0 p1 w)
                      have HMv : Hid (makeZ 0 p1 = 8 * ((m4).idxOf c : Int)) := by
                        have := HSh.out
                        show _ = _
                        rw [hpv]
                        unfold makeZ wrap64
                        simp
                        omega
                      rw [HMv.out] at HMk
                      have HRi : Hid ((m4, 8 * ((m4).idxOf c : Int)) = r) := by show _ = _; rw [← HRe.out, if_pos hin]
                      clear hix hpv hpr hp1 HMv
                      go_wp2_with fail
                      refine (HMk.out _).mono ?_
                      rintro e Wm ⟨rfl, rfl⟩
                      go_wp2_with fail
                      go_meet
                      case rel => exact ⟨by rw [← HRi.out], by rw [← HRi.out]; exact HG2.out, HF2.out, Or.inl rfl⟩
                    · have hpz : p1 < 0 := by rw [← hp1]; exact placeZ_neg.2 hin
                      have HRi : Hid ((m4 ++ [c], 8 * ((m4).length : Int)) = r) := by show _ = _; rw [← HRe.out, if_neg hin]
                      have HPn := hid (fun a => placeZ_new (met := m4) hin a)
                      clear hpr hp1
                      skip
                      skip
                      obtain ⟨_, _, hrow, _, _⟩ := HG2.out.places
                      have fq := hrow.frozen c hcN
                      have q5 := row_set' HG2.out.places c (.int .i64 ((m4).length : Int))
                      have HP5 : Hid (CellRow 3 (Wn.setCell ⟨bp, c, none⟩ (.int .i64 ((m4).length : Int))) bp N (fun a => .int .i64 (placeZ (m4 ++ [c]) a))) := by
                        refine q5.congr (fun j hj => ?_)
                        rw [HPn.out]
                        by_cases h : j = c
                        · rw [if_pos h, if_pos h]
                        · rw [if_neg h, if_neg h]
                      have HO5 : Hid (∀ g, g ≠ bp → (Wn.setCell ⟨bp, c, none⟩ (.int .i64 ((m4).length : Int))).heap[g]? = Wn.heap[g]?) := fun g hg => Below.heap_setCell Wn ⟨bp, c, none⟩ _ g hg
                      have HZ5 : Hid (Wn.heap.size = (Wn.setCell ⟨bp, c, none⟩ (.int .i64 ((m4).length : Int))).heap.size) := by show _ = _; simp [World.setCell]
                      have HT5 : Hid ((Wn.setCell ⟨bp, c, none⟩ (.int .i64 ((m4).length : Int))).os = Wn.os ∧ (Wn.setCell ⟨bp, c, none⟩ (.int .i64 ((m4).length : Int))).tape = Wn.tape ∧ (Wn.setCell ⟨bp, c, none⟩ (.int .i64 ((m4).length : Int))).output = Wn.output) := ⟨rfl, rfl, rfl⟩
                      obtain ⟨X, hX⟩ : ∃ X, Wn.setCell ⟨bp, c, none⟩ (.int .i64 ((m4).length : Int)) = X := ⟨_, rfl⟩
                      rw [hX] at HP5 HO5 HZ5 HT5
                      have HRX : Hid (X.ownsRow w.heap.size 3 1 (.slice (some ⟨g4m, 0, none⟩) (m4).length c4m) (m4).length (metCells m4)) := owns_of_block HG2.out.row (fun g e => HO5.out g (fun e' => HG2.out.n2 (e' ▸ e)))
                      have hKX := (Below.refl X.heap.size X).alloc (Nat.le_refl _) (.cells #[.int .i64 ci] 3)
                      have hE : (X.alloc (.cells #[.int .i64 ci] 3)).heap[X.heap.size]? = some (.cells #[.int .i64 ci] 3) := (MapKept.heap_alloc X _).1
                      have hsX : (X.alloc (.cells #[.int .i64 ci] 3)).heap.size = X.heap.size + 1 := by simp
                      have HKX := hid hKX
                      have HE := hid hE
                      have HsX := hid hsX
                      obtain ⟨i0, hi, hz0, hz1, hz2⟩ := info_parts info_int
                      have hlen8 := HSh.out
                      have HB2 : Hid (w.heap.size ≤ (X.alloc (.cells #[.int .i64 ci] 3)).heap.size) := by have h1 := HsX.out; have h2 := HG2.out.b2; have h3 := HG2.out.places.lt; have h4 := HZ5.out; show _ ≤ _; omega
                      clear q5 hrow hKX hE hsX
                      go_wp2_with (first
                        | (at_builtin; refine wpList_append_own_at _ rfl _ _ 23 rfl w.heap.size 3 i0 (.int .i64 0) 1 8 Try.underlying23 hi hz0 hz1 hz2 rfl (by decide) (.slice (some ⟨g4m, 0, none⟩) (m4).length c4m) (m4).length (metCells m4) rfl (kept_owns HRX.out HKX.out) ⟨X.heap.size, 0, none⟩ 1 1 [.int .i64 ci] rfl rfl (fun j u hu => ?_) (fun u hu => ?_) (by unfold maxLen; omega) (by omega) HB2.out ?_))
                      · cases j with
                        | zero =>
                          simp at hu
                          subst hu
                          exact (cell_of_heap HE.out 0)
                        | succ j => simp at hu
                      · simp at hu
                        subst hu
                        rfl
                      intro v' Wv hown hgrow hnil hat
                      obtain ⟨gos, gtape, gout, gsz, gblk⟩ := hgrow
                      rw [HsX.out] at gsz gblk
                      have hnb := HG2.out.n2
                      have hbpl : bp < Wn.heap.size := HG2.out.places.lt
                      have hzx := HZ5.out
                      have hzf := HF2.out.size
                      have HPv : Hid (CellRow 3 Wv bp N (fun a => .int .i64 (placeZ (m4 ++ [c]) a))) := HP5.out.of_block ((gblk bp (by omega) (Ne.symm hnb)).trans (HKX.out.block bp (by omega)))
                      have HFv : Hid (FrmG X3 bp bp (.slice (some ⟨g4m, 0, none⟩) (m4).length c4m) Wv) := HF2.out.trans (Or.inl rfl) ⟨gos.trans (HKX.out.os.trans HT5.out.1), gtape.trans (HKX.out.tape.trans HT5.out.2.1), gout.trans (HKX.out.output.trans HT5.out.2.2), by omega, fun q hq h1 _ h2 => (gblk q (by omega) (Ne.symm h2)).trans ((HKX.out.block q (by omega)).trans (HO5.out q h1))⟩
                      have HMv : Hid (MovedTo X3 (.slice (some ⟨g4m, 0, none⟩) (m4).length c4m) v') := by
                        rcases hat with h | h
                        · exact Or.inl h
                        · exact Or.inr ⟨_, h, by omega⟩
                      have HSv : Hid (SGr w.heap.size bp N (m4 ++ [c]) v' Wv) := by
                        refine ⟨HPv.out, ?_, fun e => ?_, HG2.out.b2⟩
                        · unfold metCells at hown ⊢
                          rw [List.length_append, List.map_append]
                          rw [← Hci.out] at hown
                          exact hown
                        · rcases hat with h | h
                          · exact hnb (h.symm.trans e)
                          · rw [e] at h
                            cases h
                            omega
                      have q6 := HPv.out.cell (i := c) hcN
                      have hpl : placeZ (m4 ++ [c]) c = ((m4).length : Int) := by rw [HPn.out, if_pos rfl]
                      rw [hpl] at q6
                      have HMk := hid (fun w => specMake_calls 0 ((m4).length : Int) w)
                      have HMv2 : Hid (makeZ 0 ((m4).length : Int) = 8 * ((m4).length : Int)) := by
                        have := HSh.out
                        show _ = _
                        unfold makeZ wrap64
                        simp
                        omega
                      rw [HMv2.out] at HMk
                      clear hown hat gos gtape gout gsz gblk hnil hpl hX HKX HE HsX HB2 HRX HP5 HO5 HZ5 HT5 q0 fq hi hz0 hz1 hz2 HMv2
                      go_wp2_with fail
                      refine (HMk.out _).mono ?_
                      rintro e Wm ⟨rfl, rfl⟩
                      go_wp2_with fail
                      go_meet
                      case rel => exact ⟨by rw [← HRi.out], by rw [← HRi.out]; exact HSv.out, HFv.out, HMv.out⟩
                  case rest =>
                    obtain ⟨rfl, HSx, HFx, HMx⟩ := hcut
                    have hbX : bp < X1.heap.size := HS1.out.gr.places.lt
                    have HS2 := hid (HT3.out.tell HSx.out HFx.out HMx.out)
                    have HE5 := hid ((HFx.out.block X1.heap.size (heap_lt HE3'.out) (by omega) (by omega) HNo.out.1).trans HE3'.out)
                    have HN5 : Hid (u9.ownBlock ≠ some X1.heap.size) := by
                      intro e
                      rcases HMx.out with h | ⟨q, h, hl⟩
                      · exact HNo.out.1 (h.symm.trans e)
                      · rw [e] at h
                        cases h
                        have := heap_lt HE3'.out
                        omega
                    have hKt := (Below.refl wc.heap.size wc).alloc (Nat.le_refl _) (.cells #[.int .i64 r.2] 3)
                    have hE : (wc.alloc (.cells #[.int .i64 r.2] 3)).heap[wc.heap.size]? = some (.cells #[.int .i64 r.2] 3) := (MapKept.heap_alloc wc _).1
                    have hsz5 : (wc.alloc (.cells #[.int .i64 r.2] 3)).heap.size = wc.heap.size + 1 := by simp
                    have HKt := hid hKt
                    have HEn := hid hE
                    have Hsz5 := hid hsz5
                    have HBt : Hid (w.heap.size ≤ (wc.alloc (.cells #[.int .i64 r.2] 3)).heap.size) := by have h1 := hKt.size; have h2 := HS2.out.gr.b2; have h3 := HS2.out.gr.places.lt; show _ ≤ _; omega
                    have d1 : wc.cell? ⟨X1.heap.size, 1, none⟩ = some vt := by rw [cell_of_heap HE5.out]; rfl
                    have hlX : X1.heap.size < wc.heap.size := heap_lt HE5.out
                    obtain ⟨i0, hi, hz0, hz1, hz2⟩ := info_parts info_int
                    have hol : o4.length ≤ 20 := by have := HLk.out; have := Hsi.out; omega
                    have hs : Hid (m + 1 - (intOf (.int .i64 (jj + 1))).toNat < m + 1 - (intOf (.int .i64 jj)).toNat) := by show _ < _; have := HQ4.out; simp only [intOf]; omega
                    have hw : Hid (wrap64 (jj + 1) = jj + 1) := by show _ = _; have := HQ4.out; have := Hsi.out; unfold wrap64; omega
                    clear hKt hE hsz5 HSx HFx HMx HT3 HSg h0 h1 h2 h3 h4 h5 h6 h7 h8 h9
                    go_wp2_with (first
                      | (at_builtin; refine wpList_append_own_at _ rfl _ _ 23 rfl w.heap.size 3 i0 (.int .i64 0) 1 8 Try.underlying23 hi hz0 hz1 hz2 rfl (by decide) vt o4.length (wordCells o4) rfl (kept_owns HS2.out.row HKt.out) ⟨wc.heap.size, 0, none⟩ 1 1 [.int .i64 r.2] rfl rfl (fun jq u hu => ?_) (fun u hu => ?_) (by unfold maxLen; omega) (by omega) HBt.out ?_))
                    · cases jq with
                      | zero =>
                        simp at hu
                        subst hu
                        exact (cell_of_heap HEn.out 0)
                      | succ jq => simp at hu
                    · simp at hu
                      subst hu
                      rfl
                    intro v' Wv hown hgrow hnil hat'
                    obtain ⟨-, ad', cm', hv'⟩ := owns_at hown
                    subst hv'
                    have eV := (hgrow.block X1.heap.size (by have := Hsz5.out; omega) (Ne.symm HNo.out.2)).trans ((HKt.out.block X1.heap.size hlX).trans HE5.out)
                    have HS3 : Hid (STl X1 w.heap.size bp N (.slice (some ⟨gm, 0, none⟩) mt.length cm) r.1 u9 (o4 ++ [r.2]) (.slice ad' (o4.length + 1) cm') Wv) := (HS2.out.below HKt.out).push r.2 hown hgrow (by
                      rcases hat' with h | h
                      · exact Or.inl h
                      · exact Or.inr ⟨_, h, by simp⟩)
                    have HN6 : Hid ((Value.slice ad' (o4.length + 1) cm').ownBlock ≠ some X1.heap.size) := by
                      intro e
                      rcases hat' with h | h
                      · exact HNo.out.2 (h.symm.trans e)
                      · rw [e] at h
                        have := Option.some.inj h
                        omega
                    have d2 : Wv.cell? ⟨X1.heap.size, 1, none⟩ = some vt := by rw [cell_of_heap eV]; rfl
                    have f2 := frozen_of_heap eV 1
                    have HS4 := hid (HS3.out.set (Nat.le_refl _) HN5.out HN6.out 1 (.slice ad' (o4.length + 1) cm'))
                    have HE6 : Hid ((Wv.setCell ⟨X1.heap.size, 1, none⟩ (.slice ad' (o4.length + 1) cm')).heap[X1.heap.size]? = some (.cells #[.int .i64 kd, (.slice ad' (o4.length + 1) cm')] 45)) := by simpa [Hid] using set_cells eV 1 (.slice ad' (o4.length + 1) cm')
                    clear hown hgrow hnil hat' HKt HEn HBt hi hz0 hz1 hz2 HS2 eV HS3
                    go_wp2_with fail
                    try rw [hw.out]
                    refine ⟨⟨jj + 1, j + 1, (.slice ad' (o4.length + 1) cm'), rfl, ⟨by have := HQ4.out; push_cast; omega, by omega⟩, ?_, HE6.out, ⟨HN5.out, HN6.out⟩⟩, hs.out⟩
                    rw [HNx4.out]
                    exact HS4.out

                · have hjm : j = m := by have := HQ4.out; have := Hsi.out; omega
                  rw [hjm] at HT
                  obtain ⟨R, hR⟩ : ∃ R, tellsRun ws fz m mt = R := ⟨_, rfl⟩
                  rw [hR] at HT HNx
                  have HRl : Hid (R.2.length = m) := by
                    have e := HM4.out.2.2
                    rw [hjm, hR] at e
                    exact e
                  have HS4 := hid (HS1.out.tells HT.out.gr HT.out.frm HT.out.mv)
                  have d0 : wr.cell? ⟨X1.heap.size, 0, none⟩ = some (.int .i64 kd) := by rw [cell_of_heap HE.out]; rfl
                  have d1 : wr.cell? ⟨X1.heap.size, 1, none⟩ = some vt := by rw [cell_of_heap HE.out]; rfl
                  obtain ⟨tad, tc, hvt⟩ := (owns_at HT.out.row).2
                  subst hvt
                  have hE3 : (wr.alloc (.cells #[.int .i64 kd, .slice tad R.2.length tc] 45)).heap[wr.heap.size]? = some (.cells #[.int .i64 kd, .slice tad R.2.length tc] 45) := (MapKept.heap_alloc wr _).1
                  have hK3 := (Below.refl wr.heap.size wr).alloc (Nat.le_refl _) (.cells #[.int .i64 kd, .slice tad R.2.length tc] 45)
                  have HS5 := hid (HS4.out.below hK3)
                  have HR5 := hid (kept_owns HT.out.row hK3)
                  have HE3 := hid hE3
                  have hsz3 : (wr.alloc (.cells #[.int .i64 kd, .slice tad R.2.length tc] 45)).heap.size = wr.heap.size + 1 := by simp
                  obtain ⟨i0, hi, hz0, hz1, hz2⟩ := info_parts info_obj
                  have hol : ot.length ≤ 8000 := by have := HMk.out.2; have := HSh0.out; have := HLen.out; omega
                  have HB5 : Hid (w.heap.size ≤ (wr.alloc (.cells #[.int .i64 kd, .slice tad R.2.length tc] 45)).heap.size) := by have h1 := HS5.out.gr.b2; have h2 := HS5.out.gr.places.lt; show _ ≤ _; omega
                  have HV5 : Hid (∀ q, (Value.slice tad R.2.length tc).ownBlock = some q → w4.heap.size ≤ q ∧ u9.ownBlock ≠ some q ∧ u14.ownBlock ≠ some q) := fun q e => ⟨Nat.le_trans HS1.out.frm.size (HT.out.o2 q e), HT.out.ap q e, fun e' => by have h1 := ((owns_at' HS1.out.row).1 q e').2; have h2 := HT.out.o2 q e; omega⟩
                  have hs : Hid (N - (intOf (.int .i64 (i3 + 1))).toNat < N - (intOf (.int .i64 i3)).toNat) := by have := HSh0.out; have := HLen.out; show _ < _; simp only [intOf]; omega
                  have hw : Hid (wrap64 (i3 + 1) = i3 + 1) := by show _ = _; have := HSh0.out; have := HLen.out; unfold wrap64; omega
                  clear hK3 hE3 HT HE HNo HS4 hR
                  go_wp2_with (first
                    | (at_builtin; refine wpList_append_own_at _ rfl _ _ 28 rfl w.heap.size 45 i0 (.agg #[.int .i64 0, .slice none 0 0]) 2 32 Try.underlying28 hi hz0 hz1 hz2 rfl (by decide) u14 ot.length (sobjCells ot vs) rfl HS5.out.row ⟨wr.heap.size, 0, none⟩ 1 1 [.int .i64 kd, .slice tad R.2.length tc] rfl rfl (fun jq u hu => ?_) (fun u hu => ?_) (by unfold maxLen; omega) (by omega) HB5.out ?_))
                  · simp at hu
                    rcases hu with rfl | rfl <;> rfl
                  intro v' Wv hown hgrow hnil hat'
                  have HS6 : Hid (SG3 w4 w.heap.size bp N v9 R.1 u9 (ot ++ [(kd, R.2)]) (fun i => if i = ot.length then .slice tad R.2.length tc else vs i) v' Wv) := HS5.out.push (kd, R.2) _ HR5.out HV5.out hown hgrow (by
                    rcases hat' with h | h
                    · exact Or.inl h
                    · exact Or.inr ⟨_, h, by simp⟩)
                  clear hown hgrow hnil hat' HS5 HR5 HE3 HB5 HV5 hi hz0 hz1 hz2 d0 d1
                  go_wp2_with fail
                  try rw [hw.out]
                  refine ⟨⟨i3 + 1, k3 + 1, fun i => if i = ot.length then .slice tad R.2.length tc else vs i, rfl, ⟨by have := HQk.out; push_cast; omega, fun j hj => ?_⟩, ?_⟩, hs.out⟩
                  · rcases Nat.lt_or_ge j k3 with h | h
                    · exact HLs.out j h
                    · have e : j = k3 := by omega
                      rw [e, Hmt.out]
                      exact hkm3
                  · rw [HNx.out]
                    exact HS6.out
            · have hk3 : mt.length ≤ k3 := by have := HQk.out; omega
              have hfz : w4.heap.size ≤ wr.heap.size := HS.out.frm.size
              have HBr : Hid (Below w.heap.size w wr) := HB4.out.trans ⟨HS.out.frm.os, HS.out.frm.tape, HS.out.frm.output, HS.out.frm.size, fun q hq => HS.out.frm.block q (by have := HB4.out.size; omega) (by omega) (by omega) (fun e => by have := (HTo.out.gr.own_lt e).1; omega)⟩
              have HTr : Hid (wr.ownsRow w.heap.size 3 1 v10 T.length (wordCells T)) := owns_of_block HTo.out.row (fun q e => HS.out.frm.block q ((owns_at HTo.out.row).1 q e).2 (by have := HTo.out.o2 q e; omega) (by have := HTo.out.o2 q e; omega) (HTo.out.ap q e))
              have HTl : Hid (T.length = n) := by
                have e := (Met.tells HKo.out (met := []) ⟨List.nodup_nil, fun a ha => by cases ha⟩ HX.out n (by rw [HXn.out]; exact Nat.le_refl _)).2.2
                rw [HTe.out] at e
                exact e
              go_wp2_with fail
              refine bodyPost_ret (v := .tuple #[u14, v10, .bool true]) (by simp [results, Try.results9, go_sem]) rfl ?_
              have hn := HXn.out
              subst hn
              refine ⟨k3, u14, v10, vs, ?_⟩
              rw [HMe.out, HTe.out, Hmt.out, Hot.out]
              refine ⟨HLs.out, hk3, rfl, HS.out.row, HS.out.fld, ?_, HBr.out⟩
              have e := HTr.out
              rw [HTl.out] at e
              exact e
end Go.Proofs.Ytebpgglegnljgaa

/- The specification asks whether words lead to objects in use. -/
namespace Go.Proofs.Ytebpgglegnljgaa
open Go.RowKit

def specRoots (ws S : List Int) (h : HpN) (xs : List Int) : Bool := (List.range xs.length).all (fun k => specLeads ws S h (xs.getD k 0) false)

theorem roots_upto {P : Nat → Bool} {m : Nat} (H : ∀ k, k < m → P k = true) : (List.range m).all P = true := by
  rw [List.all_eq_true]
  exact fun k hk => H k (List.mem_range.1 hk)

theorem roots_not {P : Nat → Bool} {m j : Nat} (hj : j < m) (hf : P j = false) : (List.range m).all P = false := by
  rw [List.all_eq_false]
  exact ⟨j, List.mem_range.2 hj, by simp [hf]⟩

set_option maxHeartbeats 2000000 in
set_option maxRecDepth 100000 in
theorem specRoots_calls (b off cap N : Nat) (ws S : List Int) (h : HpN) (v : Value) (xs : List Int) (w : World) (hN : ws.length = N) (ho : Ordered h N) (hS : specLay ws h = some S)
    (hb : b < w.heap.size) (hw : ∀ k, k < N → w.cell? ⟨b, off + k, none⟩ = some (.int .i64 (ws.getD k 0))) (hv : IntSlice w v xs) (hx : xs.length ≤ 20) :
    Calls Try.prog 36 #[heapV (.slice (some ⟨b, off, none⟩) N cap) h, v] w fun e w' => e = .returned (.bool (specRoots ws S h xs)) ∧ Below w.heap.size w w' := by
  have HBg := hid (fun (X : World) (hX : Below w.heap.size w X) => specBegins_calls b off cap N ws h X hN ho (Nat.lt_of_lt_of_le hb hX.size) (fun k hk => (hX.cell (p := ⟨b, off + k, none⟩) hb).trans (hw k hk)))
  rw [hS] at HBg
  have HO := hid ho
  have HW := hid hw
  have HV := hid hv
  have HNN := hid hN
  obtain ⟨ad, c, rfl, -⟩ := hv
  clear hw hS ho hN
  obtain ⟨g1, g2, g3, g4, g5, g6, g7, g8, g9⟩ := h
  unfold heapV at *
  dsimp only at *
  generalize hR : specRoots ws S ⟨g1, g2, g3, g4, g5, g6, g7, g8, g9⟩ xs = R
  have HR := hid hR
  clear hR
  go_enter Try.func36, Try.ntmps36
  go_wp2_with fail
  have k0 := (Below.refl w.heap.size w).alloc (Nat.le_refl _) (.cells #[.slice (some ⟨b, off, none⟩) N cap, .int .i64 g1, .int .i64 g2, .int .i64 g3, .int .i64 g4, .int .i64 g5, .int .i64 g6, .int .i64 g7, .int .i64 g8, .int .i64 g9] 25)
  refine (HBg.out _ k0).mono ?_
  rintro e W1 ⟨⟨gb, gcap, ok, rfl, hlow, hlt, hh⟩, hb0⟩
  have hH := (HeapBlk.new w (.slice (some ⟨b, off, none⟩) N cap) ⟨g1, g2, g3, g4, g5, g6, g7, g8, g9⟩).below hb0
  have hb1 := k0.trans (hb0.mono k0.size)
  clear hb0 k0
  obtain ⟨S', hS', rfl, hl, hr⟩ := hh.resolve_left (by simp)
  obtain rfl := Option.some.inj hS'
  clear hh hS' HBg
  have HH := hid hH
  have HLd := hid (fun (X : World) (hX : Below W1.heap.size W1 X) (x : Int) => by
    have e := specLeads_calls b off cap gb gcap ws S ⟨g1, g2, g3, g4, g5, g6, g7, g8, g9⟩ x false X (by rw [HNN.out]; exact HO.out) (by rw [HNN.out]; exact hl) (Nat.lt_of_lt_of_le hb (Nat.le_trans hb1.size hX.size)) (fun k hk => (hX.cell (p := ⟨b, off + k, none⟩) (Nat.lt_of_lt_of_le hb hb1.size)).trans ((hb1.cell (p := ⟨b, off + k, none⟩) hb).trans (HW.out k (by rw [← HNN.out]; exact hk)))) (Nat.lt_of_lt_of_le hlt hX.size) (fun k hk => (hX.cell (p := ⟨gb, k, none⟩) hlt).trans (hr.cell (by rw [← hl]; exact hk)))
    rw [HNN.out, hl] at e
    exact e)
  unfold heapV at HLd
  dsimp only at HLd
  have HB1 := hid hb1
  clear hb1 hr hlow hl hH
  go_wp2_with fail
  go_loopw [7] (fun i wr => ∃ k : Nat, i = .int .i64 k ∧ k ≤ xs.length ∧ Hid (∀ j, j < k → specLeads ws S ⟨g1, g2, g3, g4, g5, g6, g7, g8, g9⟩ (xs.getD j 0) false = true) ∧ Hid (Below W1.heap.size W1 wr)) (fun i _ => xs.length - (intOf i).toNat)
  case atStart => exact ⟨0, rfl, Nat.zero_le _, fun j hj => by omega, Below.refl _ _⟩
  case round =>
    obtain ⟨k, rfl, hk, HJ, HB⟩ := hrel
    by_cases hlt2 : (k : Int) < (xs.length : Int)
    · obtain ⟨ad', c', e, hh⟩ := HV.out
      cases e
      obtain ⟨b', o', rfl, hb', hc⟩ := hh.resolve_left (by rintro rfl; simp at hlt2; omega)
      clear hh
      have q0 := (HB.out.cell (p := ⟨b', o' + k, none⟩) (Nat.lt_of_lt_of_le hb' HB1.out.size)).trans ((HB1.out.cell (p := ⟨b', o' + k, none⟩) hb').trans (hc k (by omega)))
      clear hc hb'
      have hH3 := HH.out.below HB.out
      obtain ⟨v0, v1, v2, v3, v4, v5, v6, v7, v8, v9⟩ := hH3.later (B := wr.heap.size) (heap_lt hH3)
      dsimp only at v0 v1 v2 v3 v4 v5 v6 v7 v8 v9
      have q1 : ∀ x : Later wr.heap.size wr, x.w.cell? ⟨b', o' + k, none⟩ = some (.int .i64 (xs.getD k 0)) := fun x => x.cell (block_in q0) q0
      have HL := hid (fun x : Later wr.heap.size wr => HLd.out x.w (HB.out.trans (x.h.mono HB.out.size)) (xs.getD k 0))
      have HX : Hid (∃ y, specLeads ws S ⟨g1, g2, g3, g4, g5, g6, g7, g8, g9⟩ (xs.getD k 0) false = y) := ⟨_, rfl⟩
      clear q0 hH3
      obtain ⟨y, hy⟩ := HX.out
      rw [hy] at HL
      have HY := hid hy
      clear hy HX
      go_wp2_with fail
      refine wp_region_calm wr.heap.size (by kernel_rfl) (by kernel_rfl) ?_
      repeat (go_big_quiet_step (first | (rename_i x; go_at_call 66; refine (HL.out x).mono ?_; rintro e w5 ⟨rfl, hb5⟩; exact ⟨rfl, ⟨w5, x.h.trans (hb5.mono x.h.size)⟩, rfl⟩)))
      refine wpQuiet_nil ?_
      rintro w5 ⟨x, rfl⟩
      have HB3 := hid (HB.out.trans (x.h.mono HB.out.size))
      clear HL q1 v0 v1 v2 v3 v4 v5 v6 v7 v8 v9
      generalize x.w = W3 at *
      cases y with
      | false =>
        go_wp2_with fail
        go_ret
        refine ⟨?_, HB1.out.trans (HB3.out.mono HB1.out.size)⟩
        rw [← HR.out]
        unfold specRoots
        rw [roots_not (j := k) (by omega) HY.out]
        rfl
      | true =>
        go_wp2_with fail
        have hs : xs.length - (intOf (.int .i64 ((k : Int) + 1))).toNat < xs.length - (intOf (.int .i64 (k : Int))).toNat := by simp only [intOf, Int.toNat_natCast]; omega
        refine ⟨⟨k + 1, by push_cast; rfl, by omega, fun j hj => ?_, HB3.out⟩, hs⟩
        by_cases hjk : j = k
        · rw [hjk]
          exact HY.out
        · exact HJ.out j (by omega)
    · obtain rfl : k = xs.length := by omega
      go_wp2_with fail
      go_ret
      refine ⟨?_, HB1.out.trans (HB.out.mono HB1.out.size)⟩
      rw [← HR.out]
      unfold specRoots
      rw [roots_upto HJ.out]
      rfl
end Go.Proofs.Ytebpgglegnljgaa

/- Words in a row of their own, copied; what both sides count. -/
namespace Go.Proofs.Ytebpgglegnljgaa
open Go.RowKit

/-- Words in a row of their own, at a later world. -/
theorem row_kept {B g N : Nat} {bs : List Int} {W X : World} (h0 : N ≠ 0) (hs : SliceR 3 1 B W (.slice (some ⟨g, 0, none⟩) N N) N (intCells bs)) (hX : Below W.heap.size W X) :
    g < X.heap.size ∧ ∀ k, k < N → X.cell? ⟨g, 0 + k, none⟩ = some (.int .i64 (bs.getD k 0)) := by
  obtain ⟨ad, cap, e, hh⟩ := hs
  obtain ⟨g', e2, hB, hr⟩ := hh.resolve_left h0
  cases e
  cases e2
  rw [Nat.mul_one] at hr
  exact ⟨Nat.lt_of_lt_of_le hr.lt hX.size, fun k hk => by rw [Nat.zero_add]; exact (hX.cell (p := ⟨g, k, none⟩) hr.lt).trans (hr.cell hk)⟩

theorem touch_same (t r q : Int) : wrap64 (wrap64 (t + r) + q) = wrap64 (t + (r + q)) := by
  unfold wrap64
  omega

theorem clone_row (rg n rc : Nat) (xs : List Int) (X : World) (hl : xs.length = n) (hn : n ≤ 20) (hc : ∀ k, k < n → X.cell? ⟨rg, 0 + k, none⟩ = some (.int .i64 (xs.getD k 0))) :
    Calls Try.prog 43 #[.slice (some ⟨rg, 0, none⟩) n rc] X fun e w' => ∃ g c, e = .returned (.slice (some ⟨g, 0, none⟩) n c) ∧ Hid (CellRow 3 w' g n (intCells xs)) ∧ X.heap.size ≤ g ∧ Below X.heap.size X w' := by
  refine (Try.slices_Clone_int rg 0 n rc xs X (by omega) (by omega) (fun j hj => hc j (by omega))).mono ?_
  rintro e w' ⟨v', rfl, how, hv0, hb⟩
  rw [List.take_of_length_le (by omega)] at how
  obtain ⟨-, hh | ⟨g, cp, cur, rfl, hg, -⟩⟩ := id how
  · exact absurd hh.1 hv0
  obtain ⟨hrow, hlow⟩ := row_of_owns hl how
  exact ⟨g, cp, rfl, hrow, hlow, hb⟩
end Go.Proofs.Ytebpgglegnljgaa

/- Objects in memory: a row of kinds and fields, each object's fields in a row of their own. Two that hold the same compare as alike; marks that are put into one are held by it. -/
namespace Go.Proofs.Ytebpgglegnljgaa
open Go.RowKit

/-- The cells of a row of objects, told by place. -/
def objF (ks : Nat → Int) (fv : Nat → Value) (c : Nat) : Value := if c % 2 = 0 then .int .i64 (ks (c / 2)) else fv (c / 2)

theorem objF_kind (ks : Nat → Int) (fv : Nat → Value) (k : Nat) : objF ks fv (k * 2) = .int .i64 (ks k) := by
  unfold objF
  rw [if_pos (by omega), show k * 2 / 2 = k by omega]

theorem objF_fields (ks : Nat → Int) (fv : Nat → Value) (k : Nat) : objF ks fv (k * 2 + 1) = fv k := by
  unfold objF
  rw [if_neg (by omega), show (k * 2 + 1) / 2 = k by omega]

/-- n objects: their kinds, their fields. -/
structure ObR (B : Nat) (W : World) (v : Value) (n : Nat) (ks : Nat → Int) (fv : Nat → Value) (ln : Nat → Nat) (F : Nat → Nat → Value) : Prop where
  row : SliceR 45 2 B W v n (objF ks fv)
  fld : ∀ i, i < n → SliceR 3 1 B W (fv i) (ln i) (F i)

theorem ObR.below {B : Nat} {W W' : World} {v : Value} {n : Nat} {ks : Nat → Int} {fv : Nat → Value} {ln : Nat → Nat} {F : Nat → Nat → Value} (o : ObR B W v n ks fv ln F) (h : Below W.heap.size W W') : ObR B W' v n ks fv ln F :=
  ⟨o.row.below h, fun i hi => (o.fld i hi).below h⟩

/-- No two of its rows are one. -/
structure ObA (v : Value) (n : Nat) (fv : Nat → Value) (ln : Nat → Nat) : Prop where
  own : ∀ i, i < n → ln i ≠ 0 → (fv i).ownBlock ≠ v.ownBlock
  two : ∀ i j, i < n → j < n → i ≠ j → ln i ≠ 0 → ln j ≠ 0 → (fv i).ownBlock ≠ (fv j).ownBlock

/-- Its blocks. -/
def ObB (v : Value) (n : Nat) (fv : Nat → Value) (ln : Nat → Nat) (q : Nat) : Prop := (n ≠ 0 ∧ v.ownBlock = some q) ∨ ∃ i, i < n ∧ ln i ≠ 0 ∧ (fv i).ownBlock = some q

/-- Only such blocks are changed. -/
structure Chg (P : Nat → Prop) (w w' : World) : Prop where
  os : w'.os = w.os
  tape : w'.tape = w.tape
  output : w'.output = w.output
  size : w.heap.size ≤ w'.heap.size
  block : ∀ q, q < w.heap.size → ¬ P q → w'.heap[q]? = w.heap[q]?

theorem Chg.refl (P : Nat → Prop) (w : World) : Chg P w w := ⟨rfl, rfl, rfl, Nat.le_refl _, fun _ _ _ => rfl⟩

theorem Chg.trans {P : Nat → Prop} {w w1 w2 : World} (h : Chg P w w1) (h' : Chg P w1 w2) : Chg P w w2 :=
  ⟨h'.os.trans h.os, h'.tape.trans h.tape, h'.output.trans h.output, Nat.le_trans h.size h'.size, fun q hq hp => (h'.block q (Nat.lt_of_lt_of_le hq h.size) hp).trans (h.block q hq hp)⟩

theorem Chg.of_below {P : Nat → Prop} {w w' : World} (h : Below w.heap.size w w') : Chg P w w' := ⟨h.os, h.tape, h.output, h.size, fun q hq _ => h.block q hq⟩

theorem Chg.of_turned {P : Nat → Prop} {w w' : World} {v : Value} {n : Nat} (h : Turned w w' v n) (hp : ∀ q, n ≠ 0 → v.ownBlock = some q → P q) : Chg P w w' := by
  obtain ⟨row, hg, hrow⟩ := h
  refine ⟨hg.os, hg.tape, hg.output, hg.size, fun q hq hnp => hg.block q hq (fun e => ?_)⟩
  rcases hrow with rfl | ⟨hn, rfl⟩
  · cases e
  · exact hnp (hp q hn e.symm)

theorem Chg.set {P : Nat → Prop} {w : World} {g : Nat} (hp : P g) (i : Nat) (v : Value) : Chg P w (w.setCell ⟨g, i, none⟩ v) :=
  ⟨rfl, rfl, rfl, by simp [World.setCell], fun q _ hq => Below.heap_setCell w ⟨g, i, none⟩ v q (fun e => hq (e ▸ hp))⟩

theorem Chg.mono {P Q : Nat → Prop} {w w' : World} (h : Chg P w w') (hpq : ∀ q, P q → Q q) : Chg Q w w' := ⟨h.os, h.tape, h.output, h.size, fun q hq hn => h.block q hq (fun e => hn (hpq q e))⟩

theorem SliceR.chg {t : TypeId} {sz B : Nat} {P : Nat → Prop} {w w' : World} {v : Value} {n : Nat} {F : Nat → Value} (h : SliceR t sz B w v n F) (hc : Chg P w w') (hn : n ≠ 0 → ∀ q, v.ownBlock = some q → ¬ P q) : SliceR t sz B w' v n F := by
  obtain ⟨ad, cap, rfl, h⟩ := h
  refine ⟨ad, cap, rfl, ?_⟩
  by_cases h0 : n = 0
  · exact Or.inl h0
  · obtain ⟨g, rfl, hB, hr⟩ := h.resolve_left h0
    exact Or.inr ⟨g, rfl, hB, hr.of_block (hc.block g hr.lt (hn h0 g rfl))⟩

theorem ObR.chg {B : Nat} {P : Nat → Prop} {W W' : World} {v : Value} {n : Nat} {ks : Nat → Int} {fv : Nat → Value} {ln : Nat → Nat} {F : Nat → Nat → Value} (o : ObR B W v n ks fv ln F) (hc : Chg P W W') (hn : ∀ q, ObB v n fv ln q → ¬ P q) : ObR B W' v n ks fv ln F :=
  ⟨o.row.chg hc (fun h0 q e => hn q (Or.inl ⟨h0, e⟩)), fun i hi => (o.fld i hi).chg hc (fun h0 q e => hn q (Or.inr ⟨i, hi, h0, e⟩))⟩

theorem ObR.lo {B : Nat} {W : World} {v : Value} {n : Nat} {ks : Nat → Int} {fv : Nat → Value} {ln : Nat → Nat} {F : Nat → Nat → Value} (o : ObR B W v n ks fv ln F) {q : Nat} (h : ObB v n fv ln q) : B ≤ q ∧ q < W.heap.size := by
  rcases h with ⟨h0, e⟩ | ⟨i, hi, h0, e⟩
  · obtain ⟨g, e1, h1, h2⟩ := o.row.block h0
    rw [e1] at e
    cases e
    exact ⟨h1, h2⟩
  · obtain ⟨g, e1, h1, h2⟩ := (o.fld i hi).block h0
    rw [e1] at e
    cases e
    exact ⟨h1, h2⟩

/-- The kind of one object is changed. -/
theorem SliceR.kind {B : Nat} {w : World} {v : Value} {n g k cap : Nat} {ks : Nat → Int} {fv : Nat → Value} (hv : v = .slice (some ⟨g, 0, none⟩) n cap) (h : SliceR 45 2 B w v n (objF ks fv)) (hk : k < n) (x : Int) : SliceR 45 2 B (w.setCell ⟨g, k * 2, none⟩ (.int .i64 x)) v n (objF (fun j => if j = k then x else ks j) fv) := by
  obtain ⟨ad, cap', e, h⟩ := h
  rw [hv] at e
  cases e
  obtain ⟨g', e2, hB, N, f, hr, hN, hf⟩ := h.resolve_left (by omega)
  cases e2
  refine ⟨_, cap, hv, Or.inr ⟨g, rfl, hB, N, _, hr.set (k * 2) _, hN, fun i hi => ?_⟩⟩
  by_cases hik : i = k * 2
  · subst hik
    rw [if_pos rfl, objF_kind, if_pos rfl]
  · rw [if_neg hik, hf i hi]
    unfold objF
    by_cases h2 : i % 2 = 0
    · rw [if_pos h2, if_pos h2]
      dsimp only
      rw [if_neg (by omega)]
    · rw [if_neg h2, if_neg h2]

/-- The marks of n objects: where each object's marks begin. -/
def markAt (s : Int) (ln : Nat → Nat) : Nat → Int
  | 0 => s
  | k + 1 => markAt s ln k + 1 + (ln k : Int)

end Go.Proofs.Ytebpgglegnljgaa
