/- Slices in rows of their own: what they hold, told by place; kept by later worlds. -/
import Derived.Test.YtkdipppeljpgmaaGreatDoorRows
import Derived.Test.YtkdipppeljpgmaaGreatDoorKept
import Derived.WalkKit
import Derived.ProofKit
import Derived.Deep.OwnRows
import Derived.Deep.Slices
import Derived.Deep.RegionWith
import Derived.Laws.AppendOwn
import Derived.BigQuiet
namespace Go.Proofs.YtkdipppeljpgmaaGreatDoor
open Go.RowKit

theorem hid {p : Prop} (h : p) : Hid p := h

theorem kept_refl (w : World) (row : Option Nat) : w.grownBy w row := ⟨rfl, rfl, rfl, Nat.le_refl _, fun _ _ _ => rfl⟩

theorem kept_of_below {w w' : World} (h : Below w.heap.size w w') (row : Option Nat) : w.grownBy w' row := ⟨h.os, h.tape, h.output, h.size, fun k hk _ => h.block k hk⟩

theorem kept_set {w w' : World} {g : Nat} (h : w.grownBy w' (some g)) (i : Nat) (v : Value) : w.grownBy (w'.setCell ⟨g, i, none⟩ v) (some g) :=
  ⟨h.os, h.tape, h.output, by simpa [World.setCell] using h.size, fun k hk hne => (Below.heap_setCell _ _ _ _ (fun e => hne (by rw [e]))).trans (h.block k hk hne)⟩

theorem kept_below {w w' w'' : World} {g : Nat} (h : w.grownBy w' (some g)) (hb : Below w'.heap.size w' w'') : w.grownBy w'' (some g) :=
  ⟨hb.os.trans h.os, hb.tape.trans h.tape, hb.output.trans h.output, Nat.le_trans h.size hb.size, fun k hk hne => (hb.block k (Nat.lt_of_lt_of_le hk h.size)).trans (h.block k hk hne)⟩

theorem kept_owns {w w' : World} {base : Nat} {e : TypeId} {size : Nat} {v : Value} {n : Nat} {xs : List Value} (h : w.ownsRow base e size v n xs) (hb : Below w.heap.size w w') : w'.ownsRow base e size v n xs :=
  h.kept (kept_of_below hb none) (by cases hv : v.ownBlock <;> simp)

theorem one_below {w w2 : World} {o : Obj} (h : Below (w.alloc o).heap.size (w.alloc o) w2) : Below w.heap.size w w2 := (one_kept h).2

/-- Block g is a row of N cells, told by place; none of the first n is frozen. -/
def Rw (w : World) (g : Nat) (t : TypeId) (N : Nat) (f : Nat → Value) (n : Nat) : Prop :=
  ∃ (c : Array Value) (fz : Nat × Nat), w.heap[g]? = some (.cells c t fz) ∧ c.size = N ∧ (∀ i, i < N → c[i]? = some (f i)) ∧ (fz = (0, 0) ∨ n ≤ fz.1)

theorem rw_of_row {w : World} {g : Nat} {t : TypeId} {N : Nat} {f : Nat → Value} (h : w.rowIs g t N f) (n : Nat) : Rw w g t N f n := by
  obtain ⟨c, hg, hs, hc⟩ := h
  exact ⟨c, (0, 0), hg, hs, hc, Or.inl rfl⟩

namespace Rw
variable {w : World} {g : Nat} {t : TypeId} {N n : Nat} {f : Nat → Value}

theorem cell (h : Rw w g t N f n) {i : Nat} (hi : i < N) : w.cell? ⟨g, i, none⟩ = some (f i) := by
  obtain ⟨c, fz, hg, hs, hc, _⟩ := h
  simp [World.cell?, hg, hc i hi]

theorem frozen (h : Rw w g t N f n) (i : Nat) (hi : i < n) : w.frozen? ⟨g, i, none⟩ = false := by
  obtain ⟨c, fz, hg, hs, hc, hz⟩ := h
  obtain ⟨lo, hi'⟩ := fz
  simp only [World.frozen?, hg]
  rcases hz with hz | hz
  · simp at hz
    simp [hz.2]
  · simp at hz
    simp
    omega

theorem lt (h : Rw w g t N f n) : g < w.heap.size := by
  obtain ⟨c, fz, hg, _⟩ := h
  exact heap_lt hg

theorem of_block {w' : World} (h : Rw w g t N f n) (e : w'.heap[g]? = w.heap[g]?) : Rw w' g t N f n := by
  obtain ⟨c, fz, hg, r⟩ := h
  exact ⟨c, fz, e.trans hg, r⟩

theorem set (h : Rw w g t N f n) (i : Nat) (v : Value) : Rw (w.setCell ⟨g, i, none⟩ v) g t N (fun j => if j = i then v else f j) n := by
  obtain ⟨c, fz, hg, hs, hc, hz⟩ := h
  refine ⟨c.setIfInBounds i v, fz, ?_, by simp [hs], fun j hj => ?_, hz⟩
  · rw [setCell_eq_setRow w g i c t fz v hg]
    exact setRow_heap w g _ _ t _ hg
  · by_cases hji : j = i
    · subst hji
      simp [hs, hj]
    · have hij : ¬ i = j := fun e => hji e.symm
      simp [hji, hij, hc j hj]
end Rw

/-- Block g is a row that begins with these n cells, told by place. -/
def CellRow (t : TypeId) (w : World) (g n : Nat) (F : Nat → Value) : Prop :=
  ∃ N f, Rw w g t N f n ∧ n ≤ N ∧ ∀ i, i < n → f i = F i

theorem CellRow.of_block {t : TypeId} {w w' : World} {g n : Nat} {F : Nat → Value} (h : CellRow t w g n F) (e : w'.heap[g]? = w.heap[g]?) : CellRow t w' g n F := by
  obtain ⟨N, f, hr, h1, h2⟩ := h
  exact ⟨N, f, hr.of_block e, h1, h2⟩

theorem CellRow.lt {t : TypeId} {w : World} {g n : Nat} {F : Nat → Value} (h : CellRow t w g n F) : g < w.heap.size := by
  obtain ⟨N, f, hr, _⟩ := h
  exact hr.lt

theorem CellRow.cell {t : TypeId} {w : World} {g n : Nat} {F : Nat → Value} (h : CellRow t w g n F) {i : Nat} (hi : i < n) : w.cell? ⟨g, i, none⟩ = some (F i) := by
  obtain ⟨N, f, hr, h1, h2⟩ := h
  rw [hr.cell (by omega), h2 i hi]

theorem CellRow.congr {t : TypeId} {w : World} {g n : Nat} {F G : Nat → Value} (h : CellRow t w g n F) (e : ∀ i, i < n → F i = G i) : CellRow t w g n G := by
  obtain ⟨N, f, hr, h1, h2⟩ := h
  exact ⟨N, f, hr, h1, fun i hi => (h2 i hi).trans (e i hi)⟩

/-- A slice of n things of sz cells each, in a row of a block from B on. -/
def SliceR (t : TypeId) (sz B : Nat) (w : World) (v : Value) (n : Nat) (F : Nat → Value) : Prop :=
  ∃ ad cap, v = .slice ad n cap ∧ (n = 0 ∨ ∃ g, ad = some ⟨g, 0, none⟩ ∧ B ≤ g ∧ CellRow t w g (n * sz) F)

theorem SliceR.below {t : TypeId} {sz B : Nat} {w w' : World} {v : Value} {n : Nat} {F : Nat → Value} (h : SliceR t sz B w v n F) (hb : Below w.heap.size w w') : SliceR t sz B w' v n F := by
  obtain ⟨ad, cap, rfl, h⟩ := h
  refine ⟨ad, cap, rfl, h.imp id ?_⟩
  rintro ⟨g, rfl, hB, hr⟩
  exact ⟨g, rfl, hB, hr.of_block (hb.block g hr.lt)⟩

theorem SliceR.mono {t : TypeId} {sz B B' : Nat} {w : World} {v : Value} {n : Nat} {F : Nat → Value} (h : SliceR t sz B w v n F) (hb : B' ≤ B) : SliceR t sz B' w v n F := by
  obtain ⟨ad, cap, rfl, h⟩ := h
  refine ⟨ad, cap, rfl, h.imp id ?_⟩
  rintro ⟨g, rfl, hB, hr⟩
  exact ⟨g, rfl, by omega, hr⟩

/-- A slice below B is kept by what grows a block from B on. -/
theorem SliceR.grown {t : TypeId} {sz B B' g : Nat} {w w' : World} {v : Value} {n : Nat} {F : Nat → Value} (h : SliceR t sz B w v n F) (hg : w.grownBy w' (some g)) (hB : B' ≤ g) (hlt : ∀ k, v.ownBlock = some k → n ≠ 0 → k < B') : SliceR t sz B w' v n F := by
  obtain ⟨ad, cap, rfl, h⟩ := h
  refine ⟨ad, cap, rfl, ?_⟩
  by_cases h0 : n = 0
  · exact Or.inl h0
  · obtain ⟨k, rfl, hk, hr⟩ := h.resolve_left h0
    refine Or.inr ⟨k, rfl, hk, hr.of_block (hg.block k hr.lt (fun e => ?_))⟩
    have := hlt k rfl h0
    simp at e
    omega

theorem SliceR.block {t : TypeId} {sz B : Nat} {w : World} {v : Value} {n : Nat} {F : Nat → Value} (h : SliceR t sz B w v n F) (h0 : n ≠ 0) : ∃ g, v.ownBlock = some g ∧ B ≤ g ∧ g < w.heap.size := by
  obtain ⟨ad, cap, rfl, h⟩ := h
  obtain ⟨g, rfl, hB, hr⟩ := h.resolve_left h0
  exact ⟨g, rfl, hB, hr.lt⟩

/-- What a mark or a store changes: nothing, or a slice's own block. -/
def Turned (w w' : World) (v : Value) (n : Nat) : Prop := ∃ row, w.grownBy w' row ∧ (row = none ∨ (n ≠ 0 ∧ row = v.ownBlock))

theorem SliceR.turned {t : TypeId} {sz B : Nat} {w w' : World} {v u : Value} {n m : Nat} {F : Nat → Value} (h : SliceR t sz B w v n F) (ht : Turned w w' u m) (hne : n ≠ 0 → m ≠ 0 → v.ownBlock ≠ u.ownBlock) : SliceR t sz B w' v n F := by
  obtain ⟨row, hg, hrow⟩ := ht
  obtain ⟨ad, cap, rfl, h⟩ := h
  refine ⟨ad, cap, rfl, ?_⟩
  by_cases h0 : n = 0
  · exact Or.inl h0
  · obtain ⟨k, rfl, hk, hr⟩ := h.resolve_left h0
    refine Or.inr ⟨k, rfl, hk, hr.of_block (hg.block k hr.lt (fun e => ?_))⟩
    rcases hrow with rfl | ⟨hm, rfl⟩
    · cases e
    · exact hne h0 hm e

theorem Turned.below {w w' w0 : World} {u : Value} {m B : Nat} (ht : Turned w w' u m) (h : Below B w0 w) (hB : B ≤ w.heap.size) (hu : m ≠ 0 → ∀ k, u.ownBlock = some k → B ≤ k) : Below B w0 w' := by
  obtain ⟨row, hg, hrow⟩ := ht
  refine h.grown hg hB (fun k hk => ?_)
  rcases hrow with rfl | ⟨hm, rfl⟩
  · cases hk
  · exact hu hm k hk

theorem sliceR_of_owns {t : TypeId} {sz B : Nat} {w : World} {v : Value} {n : Nat} {xs : List Value} (h : w.ownsRow B t sz v n xs) : SliceR t sz B w v n (fun i => xs.getD i undef) := by
  rcases h.2 with ⟨rfl, hn⟩ | ⟨g, cap, cur, rfl, hB, hg, hnc, hcm, hsz, htake⟩
  · exact ⟨none, 0, by rw [hn], Or.inl hn⟩
  · refine ⟨_, cap, rfl, Or.inr ⟨g, rfl, hB, cur.size, fun i => cur.getD i undef, ⟨cur, (0, 0), hg, rfl, fun i hi => by simp [hi], Or.inl rfl⟩, by rw [hsz]; exact Nat.mul_le_mul_right _ hnc, fun i hi => ?_⟩⟩
    rw [← htake]
    simp only [List.getD, Array.getD_eq_getD_getElem?]
    rw [List.getElem?_take_of_lt hi, Array.getElem?_toList]
end Go.Proofs.YtkdipppeljpgmaaGreatDoor
