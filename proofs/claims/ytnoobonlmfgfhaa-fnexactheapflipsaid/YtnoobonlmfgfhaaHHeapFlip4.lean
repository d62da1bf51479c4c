/- Slices that a law holds, in whatever order; two that came at once. -/
import Derived.Test.YtnoobonlmfgfhaaHeapMem
import Derived.Test.YtnoobonlmfgfhaaHeapArgs
namespace Go.Proofs.Ytnoobonlmfgfhaa
open Go.RowKit

theorem Mem.perm {w0 W : World} {sl sl' : List Sl} {hb : List Hb} (m : Mem w0 sl hb W) (p : sl.Perm sl') : Mem w0 sl' hb W :=
  ⟨fun z hz => m.slices z (p.mem_iff.2 hz), m.blocks, (p.pairwise_iff (fun h h0 h1 e => h h1 h0 e.symm)).1 m.apart, fun z hz => m.beside z (p.mem_iff.2 hz), m.below⟩

theorem Mem.more2 {w0 W W' : World} {sl : List Sl} {hb : List Hb} (m : Mem w0 sl hb W) (h : Below W.heap.size W W') (x y : Sl) (hx : SliceR 3 1 W.heap.size W' x.v x.n x.F) (hy : SliceR 3 1 W.heap.size W' y.v y.n y.F) (hxy : x.n ≠ 0 → y.n ≠ 0 → x.v.ownBlock ≠ y.v.ownBlock) : Mem w0 (x :: y :: sl) hb W' := by
  have m1 := m.more h x hx
  have m2 := m.more h y hy
  obtain ⟨hp, -⟩ := List.pairwise_cons.1 m1.apart
  refine ⟨?_, m1.blocks, List.Pairwise.cons ?_ m2.apart, ?_, m1.below⟩
  · intro z hz
    rcases List.mem_cons.1 hz with rfl | hz
    · exact m1.slices _ List.mem_cons_self
    · exact m2.slices _ hz
  · intro z hz
    rcases List.mem_cons.1 hz with rfl | hz
    · exact hxy
    · exact hp z hz
  · intro z hz
    rcases List.mem_cons.1 hz with rfl | hz
    · exact m1.beside _ List.mem_cons_self
    · exact m2.beside _ hz

/-- The third slice to the front. -/
theorem Mem.third {w0 W : World} {x y z : Sl} {sl : List Sl} {hb : List Hb} (m : Mem w0 (x :: y :: z :: sl) hb W) : Mem w0 (z :: x :: y :: sl) hb W :=
  m.perm (((List.Perm.swap z y sl).cons x).trans (List.Perm.swap z x (y :: sl)))

/-- The first slice to the third place. -/
theorem Mem.back3 {w0 W : World} {x y z : Sl} {sl : List Sl} {hb : List Hb} (m : Mem w0 (z :: x :: y :: sl) hb W) : Mem w0 (x :: y :: z :: sl) hb W :=
  m.perm (((List.Perm.swap z y sl).cons x).trans (List.Perm.swap z x (y :: sl))).symm

/-- The fourth slice to the front. -/
theorem Mem.fourth {w0 W : World} {x y z u : Sl} {sl : List Sl} {hb : List Hb} (m : Mem w0 (x :: y :: z :: u :: sl) hb W) : Mem w0 (u :: x :: y :: z :: sl) hb W :=
  m.perm ((((List.Perm.swap u z sl).cons y).trans (List.Perm.swap u y (z :: sl))).cons x |>.trans (List.Perm.swap u x (y :: z :: sl)))

/-- The first slice to the fourth place. -/
theorem Mem.back4 {w0 W : World} {x y z u : Sl} {sl : List Sl} {hb : List Hb} (m : Mem w0 (u :: x :: y :: z :: sl) hb W) : Mem w0 (x :: y :: z :: u :: sl) hb W :=
  m.perm ((((List.Perm.swap u z sl).cons y).trans (List.Perm.swap u y (z :: sl))).cons x |>.trans (List.Perm.swap u x (y :: z :: sl))).symm

theorem perm5 {α : Type} (x y z u v : α) (l : List α) : (x :: y :: z :: u :: v :: l).Perm (v :: x :: y :: z :: u :: l) :=
  (((((List.Perm.swap v u l).cons z).trans (List.Perm.swap v z (u :: l))).cons y).trans (List.Perm.swap v y (z :: u :: l))).cons x |>.trans (List.Perm.swap v x (y :: z :: u :: l))

/-- The fifth slice to the front. -/
theorem Mem.fifth {w0 W : World} {x y z u v : Sl} {sl : List Sl} {hb : List Hb} (m : Mem w0 (x :: y :: z :: u :: v :: sl) hb W) : Mem w0 (v :: x :: y :: z :: u :: sl) hb W :=
  m.perm (perm5 x y z u v sl)

/-- The first slice to the fifth place. -/
theorem Mem.back5 {w0 W : World} {x y z u v : Sl} {sl : List Sl} {hb : List Hb} (m : Mem w0 (v :: x :: y :: z :: u :: sl) hb W) : Mem w0 (x :: y :: z :: u :: v :: sl) hb W :=
  m.perm (perm5 x y z u v sl).symm
end Go.Proofs.Ytnoobonlmfgfhaa

/- A heap that is handed in: its numbers are numbers of 64 bits. -/
namespace Go.Proofs.Ytnoobonlmfgfhaa
open Go.RowKit
section
open Go.Deep Go.ChangeShapes Go.WideShapes
variable {H : Type} {enc : TypeId × Value → H} {W : World} {sp : Nat → Bool} {held : Bool}

set_option maxRecDepth 100000 in
/-- A heap that is handed in, out of its cells. -/
theorem open_heapT {fuel : Nat} {cs : List Value} {x : DataW H × List MemPlace} (h : DataW.trod enc Try.prog W 0 sp held fuel 24 cs = some x) :
    ∃ v bs, ∃ n : HpN, cs = [v, .int .i64 n.size, .int .i64 n.to, .int .i64 n.bottom, .int .i64 n.top, .int .i64 n.scan, .int .i64 n.fb, .int .i64 n.ft, .int .i64 n.flips, .int .i64 n.touched] ∧ IntSlice W v bs ∧ bs.length ≤ maxLen ∧ n.touched < 9223372036854775808 := by
  obtain ⟨xs, k, hk, hxy, hcl, hxl, hf⟩ := DataW.trod_struct Try.underlying24 h
  rw [Try.cellsHeap] at hcl
  match xs, hxl, cs, hcl with
  | [y0, y1, y2, y3, y4, y5, y6, y7, y8, y9], _, [v0, v1, v2, v3, v4, v5, v6, v7, v8, v9], _ =>
    have g0 := hf 0 _ rfl
    have g1 := hf 1 _ rfl
    have g2 := hf 2 _ rfl
    have g3 := hf 3 _ rfl
    have g4 := hf 4 _ rfl
    have g5 := hf 5 _ rfl
    have g6 := hf 6 _ rfl
    have g7 := hf 7 _ rfl
    have g8 := hf 8 _ rfl
    have g9 := hf 9 _ rfl
    simp [Try.cellsInt, Try.cellsInts] at g0 g1 g2 g3 g4 g5 g6 g7 g8 g9
    obtain ⟨bs, hb, hl⟩ := open_intS g0
    obtain ⟨i1, e1, _⟩ := DataW.trod_int Try.underlying3 g1
    obtain ⟨i2, e2, _⟩ := DataW.trod_int Try.underlying3 g2
    obtain ⟨i3, e3, _⟩ := DataW.trod_int Try.underlying3 g3
    obtain ⟨i4, e4, _⟩ := DataW.trod_int Try.underlying3 g4
    obtain ⟨i5, e5, _⟩ := DataW.trod_int Try.underlying3 g5
    obtain ⟨i6, e6, _⟩ := DataW.trod_int Try.underlying3 g6
    obtain ⟨i7, e7, _⟩ := DataW.trod_int Try.underlying3 g7
    obtain ⟨i8, e8, _⟩ := DataW.trod_int Try.underlying3 g8
    obtain ⟨i9, e9, _, w9⟩ := DataW.trod_int Try.underlying3 g9
    have h9 : i9 < 9223372036854775808 := by
      simp [Lit.wf] at w9
      omega
    simp at e1 e2 e3 e4 e5 e6 e7 e8 e9
    subst e1 e2 e3 e4 e5 e6 e7 e8 e9
    exact ⟨v0, bs, ⟨i1, i2, i3, i4, i5, i6, i7, i8, i9⟩, rfl, hb, hl, h9⟩
end
end Go.Proofs.Ytnoobonlmfgfhaa
