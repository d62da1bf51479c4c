/- What a law holds in memory between its calls: slices of numbers and heaps, each in blocks of their own. -/
import Derived.Test.YtnoobonlmfgfhaaHeapVal
namespace Go.Proofs.Ytnoobonlmfgfhaa
open Go.RowKit

/-- A slice of numbers: its value, how many, and what it holds. -/
structure Sl where
  v : Value
  n : Nat
  F : Nat → Value

/-- A heap in a block: where, its words, its numbers. -/
structure Hb where
  b : Nat
  v : Value
  h : HpN

/-- All that the law holds; nothing that was there is changed. -/
structure Mem (w0 : World) (sl : List Sl) (hb : List Hb) (W : World) : Prop where
  slices : ∀ x ∈ sl, SliceR 3 1 w0.heap.size W x.v x.n x.F
  blocks : ∀ x ∈ hb, HeapBlk W x.b x.v x.h ∧ w0.heap.size ≤ x.b
  apart : sl.Pairwise (fun x y => x.n ≠ 0 → y.n ≠ 0 → x.v.ownBlock ≠ y.v.ownBlock)
  beside : ∀ x ∈ sl, ∀ y ∈ hb, x.n ≠ 0 → x.v.ownBlock ≠ some y.b
  below : Below w0.heap.size w0 W

theorem Mem.start (w : World) : Mem w [] [] w := ⟨fun _ h => (by cases h), fun _ h => (by cases h), List.Pairwise.nil, fun _ h => (by cases h), Below.refl _ _⟩

theorem Mem.keep {w0 W W' : World} {sl : List Sl} {hb : List Hb} (m : Mem w0 sl hb W) (h : Below W.heap.size W W') : Mem w0 sl hb W' :=
  ⟨fun x hx => (m.slices x hx).below h, fun x hx => ⟨(m.blocks x hx).1.below h, (m.blocks x hx).2⟩, m.apart, m.beside, m.below.trans (h.mono m.below.size)⟩

theorem Mem.lt_slice {w0 W : World} {sl : List Sl} {hb : List Hb} (m : Mem w0 sl hb W) {x : Sl} (hx : x ∈ sl) (h0 : x.n ≠ 0) : ∃ g, x.v.ownBlock = some g ∧ w0.heap.size ≤ g ∧ g < W.heap.size := (m.slices x hx).block h0

/-- A call's new slice is put beside. -/
theorem Mem.more {w0 W W' : World} {sl : List Sl} {hb : List Hb} (m : Mem w0 sl hb W) (h : Below W.heap.size W W') (x : Sl) (hx : SliceR 3 1 W.heap.size W' x.v x.n x.F) : Mem w0 (x :: sl) hb W' := by
  have m' := m.keep h
  refine ⟨?_, m'.blocks, List.Pairwise.cons ?_ m.apart, ?_, m'.below⟩
  · intro y hy
    rcases List.mem_cons.1 hy with rfl | hy
    · exact hx.mono m.below.size
    · exact m'.slices y hy
  · intro y hy h0 h1 e
    obtain ⟨g, e1, hg, _⟩ := hx.block h0
    obtain ⟨g', e2, _, hlt⟩ := m.lt_slice hy h1
    rw [e1, e2] at e
    cases e
    omega
  · intro y hy z hz h0 e
    rcases List.mem_cons.1 hy with rfl | hy
    · obtain ⟨g, e1, hg, _⟩ := hx.block h0
      have := heap_lt (m.blocks z hz).1
      rw [e1] at e
      cases e
      omega
    · exact m.beside y hy z hz h0 e

/-- A heap is laid into a new block. -/
theorem Mem.lay {w0 W : World} {sl : List Sl} {hb : List Hb} (m : Mem w0 sl hb W) (v : Value) (h : HpN) :
    Mem w0 sl (⟨W.heap.size, v, h⟩ :: hb) (W.alloc (.cells #[v, .int .i64 h.size, .int .i64 h.to, .int .i64 h.bottom, .int .i64 h.top, .int .i64 h.scan, .int .i64 h.fb, .int .i64 h.ft, .int .i64 h.flips, .int .i64 h.touched] 27)) := by
  have m' := m.keep ((Below.refl _ W).alloc (Nat.le_refl _) (.cells #[v, .int .i64 h.size, .int .i64 h.to, .int .i64 h.bottom, .int .i64 h.top, .int .i64 h.scan, .int .i64 h.fb, .int .i64 h.ft, .int .i64 h.flips, .int .i64 h.touched] 27))
  refine ⟨m'.slices, ?_, m.apart, ?_, m'.below⟩
  · intro x hx
    rcases List.mem_cons.1 hx with rfl | hx
    · exact ⟨HeapBlk.new _ _ _, m.below.size⟩
    · exact m'.blocks x hx
  · intro x hx y hy h0 e
    rcases List.mem_cons.1 hy with rfl | hy
    · obtain ⟨g, e1, _, hlt⟩ := m.lt_slice hx h0
      rw [e1] at e
      have e := Option.some.inj e
      dsimp only at e
      omega
    · exact m.beside x hx y hy h0 e

/-- The first slice is marked. -/
theorem Mem.mark {w0 W W1 W' : World} {x : Sl} {sl : List Sl} {hb : List Hb} (m : Mem w0 (x :: sl) hb W) (hk : Below W.heap.size W W1) (ht : Turned W1 W' x.v x.n) {G : Nat → Value} {B : Nat} (hG : SliceR 3 1 B W' x.v x.n G) : Mem w0 (⟨x.v, x.n, G⟩ :: sl) hb W' := by
  have m1 := m.keep hk
  obtain ⟨hp, hq⟩ := List.pairwise_cons.1 m.apart
  refine ⟨?_, ?_, List.Pairwise.cons hp hq, ?_, ?_⟩
  · intro y hy
    rcases List.mem_cons.1 hy with rfl | hy
    · obtain ⟨ad, cap, e, h⟩ := hG
      obtain ⟨ad', cap', e', h'⟩ := m.slices x List.mem_cons_self
      by_cases h0 : x.n = 0
      · exact ⟨ad, cap, e, Or.inl h0⟩
      · obtain ⟨g, rfl, _, hr⟩ := h.resolve_left h0
        obtain ⟨g', e2, hB⟩ := h'.resolve_left h0
        rw [e] at e'
        cases e'
        cases e2
        exact ⟨_, cap, e, Or.inr ⟨g, rfl, hB.1, hr⟩⟩
    · exact (m1.slices y (List.mem_cons_of_mem _ hy)).turned ht (fun h0 h1 e => hp y hy h1 h0 e.symm)
  · intro y hy
    exact ⟨(m1.blocks y hy).1.turned ht (fun h0 e => m.beside x List.mem_cons_self y hy h0 e), (m1.blocks y hy).2⟩
  · intro y hy z hz h0 e
    rcases List.mem_cons.1 hy with rfl | hy
    · exact m.beside x List.mem_cons_self z hz h0 e
    · exact m.beside y (List.mem_cons_of_mem _ hy) z hz h0 e
  · exact ht.below m1.below m1.below.size (fun h1 k hk => by
      obtain ⟨g, e, hg, _⟩ := m.lt_slice (x := x) List.mem_cons_self h1
      rw [e] at hk
      cases hk
      exact hg)
end Go.Proofs.Ytnoobonlmfgfhaa
