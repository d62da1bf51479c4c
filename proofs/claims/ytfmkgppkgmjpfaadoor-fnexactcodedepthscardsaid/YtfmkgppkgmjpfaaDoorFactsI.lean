/- What a law holds in memory between its calls, told as facts, each of a stretch of blocks of its own. -/
import Derived.Test.YtfmkgppkgmjpfaaDoorOwnRow
namespace Go.Proofs.YtfmkgppkgmjpfaaDoor
open Go.RowKit

/-- Only such blocks are changed. -/
structure Chg (P : Nat → Prop) (w w' : World) : Prop where
  os : w'.os = w.os
  tape : w'.tape = w.tape
  output : w'.output = w.output
  size : w.heap.size ≤ w'.heap.size
  block : ∀ q, q < w.heap.size → ¬ P q → w'.heap[q]? = w.heap[q]?

theorem Chg.refl (P : Nat → Prop) (w : World) : Chg P w w := ⟨rfl, rfl, rfl, Nat.le_refl _, fun _ _ _ => rfl⟩

theorem Chg.trans {P : Nat → Prop} {w w1 w2 : World} (h : Chg P w w1) (h' : Chg P w1 w2) : Chg P w w2 :=
  ⟨h'.os.trans h.os, h'.tape.trans h.tape, h'.output.trans h.output, Nat.le_trans h.size h'.size, fun q hq hp => (h'.block q (Nat.lt_of_lt_of_le hq h.size) hp).trans (h.block q hq hp)⟩

theorem Chg.of_below {P : Nat → Prop} {w w' : World} (h : Below w.heap.size w w') : Chg P w w' := ⟨h.os, h.tape, h.output, h.size, fun q hq _ => h.block q hq⟩

theorem Chg.of_turned {P : Nat → Prop} {w w' : World} {v : Value} {n : Nat} (h : Turned w w' v n) (hp : ∀ q, n ≠ 0 → v.ownBlock = some q → P q) : Chg P w w' := by
  obtain ⟨row, hg, hrow⟩ := h
  refine ⟨hg.os, hg.tape, hg.output, hg.size, fun q hq hnp => hg.block q hq (fun e => ?_)⟩
  rcases hrow with rfl | ⟨hn, rfl⟩
  · cases e
  · exact hnp (hp q hn e.symm)

theorem Chg.set {P : Nat → Prop} {w : World} {g : Nat} (hp : P g) (i : Nat) (v : Value) : Chg P w (w.setCell ⟨g, i, none⟩ v) :=
  ⟨rfl, rfl, rfl, by simp [World.setCell], fun q _ hq => Below.heap_setCell w ⟨g, i, none⟩ v q (fun e => hq (e ▸ hp))⟩

theorem Chg.mono {P Q : Nat → Prop} {w w' : World} (h : Chg P w w') (hpq : ∀ q, P q → Q q) : Chg Q w w' := ⟨h.os, h.tape, h.output, h.size, fun q hq hn => h.block q hq (fun e => hn (hpq q e))⟩

theorem SliceR.chg {t : TypeId} {sz B : Nat} {P : Nat → Prop} {w w' : World} {v : Value} {n : Nat} {F : Nat → Value} (h : SliceR t sz B w v n F) (hc : Chg P w w') (hn : n ≠ 0 → ∀ q, v.ownBlock = some q → ¬ P q) : SliceR t sz B w' v n F := by
  obtain ⟨ad, cap, rfl, h⟩ := h
  refine ⟨ad, cap, rfl, ?_⟩
  by_cases h0 : n = 0
  · exact Or.inl h0
  · obtain ⟨g, rfl, hB, hr⟩ := h.resolve_left h0
    exact Or.inr ⟨g, rfl, hB, hr.of_block (hc.block g hr.lt (hn h0 g rfl))⟩

/-- What is told of a world depends on the blocks from lo to hi alone. -/
def Fact (lo hi : Nat) (T : World → Prop) : Prop := ∀ W W', T W → (∀ q, lo ≤ q → q < hi → W'.heap[q]? = W.heap[q]?) → T W'

theorem Fact.and {lo hi : Nat} {T U : World → Prop} (h : Fact lo hi T) (h' : Fact lo hi U) : Fact lo hi (fun W => T W ∧ U W) := fun W W' ht he => ⟨h W W' ht.1 he, h' W W' ht.2 he⟩

theorem Fact.wide {lo hi lo' hi' : Nat} {T : World → Prop} (h : Fact lo hi T) (h1 : lo' ≤ lo) (h2 : hi ≤ hi') : Fact lo' hi' T := fun W W' ht he => h W W' ht (fun q hq hq' => he q (by omega) (by omega))

theorem fact_slice {t : TypeId} {sz B hi : Nat} {v : Value} {n : Nat} (F : Nat → Value) (h : n ≠ 0 → ∀ q, v.ownBlock = some q → q < hi) : Fact B hi (fun X => SliceR t sz B X v n F) := by
  intro W W' ht he
  obtain ⟨ad, cap, rfl, ht⟩ := ht
  refine ⟨ad, cap, rfl, ?_⟩
  by_cases h0 : n = 0
  · exact Or.inl h0
  · obtain ⟨g, rfl, hB, hr⟩ := ht.resolve_left h0
    exact Or.inr ⟨g, rfl, hB, hr.of_block (he g hB (h h0 g rfl))⟩

/-- One fact: its stretch, what it tells. -/
structure Fc where
  lo : Nat
  hi : Nat
  T : World → Prop

/-- All that the law holds; the newest first. -/
structure Held (w0 : World) (l : List Fc) (W : World) : Prop where
  below : Below w0.heap.size w0 W
  fact : ∀ f ∈ l, Fact f.lo f.hi f.T
  tells : ∀ f ∈ l, f.T W
  lo : ∀ f ∈ l, w0.heap.size ≤ f.lo
  hi : ∀ f ∈ l, f.hi ≤ W.heap.size
  apart : l.Pairwise (fun f g => g.hi ≤ f.lo)

theorem Held.start (w : World) : Held w [] w := ⟨Below.refl _ _, fun _ h => (by cases h), fun _ h => (by cases h), fun _ h => (by cases h), fun _ h => (by cases h), List.Pairwise.nil⟩

theorem Held.keep {w0 W W' : World} {l : List Fc} (h : Held w0 l W) (hb : Below W.heap.size W W') : Held w0 l W' :=
  ⟨h.below.trans (hb.mono h.below.size), h.fact, fun f hf => h.fact f hf W W' (h.tells f hf) (fun q _ hq => hb.block q (Nat.lt_of_lt_of_le hq (h.hi f hf))), h.lo, fun f hf => Nat.le_trans (h.hi f hf) hb.size, h.apart⟩

theorem Held.add {w0 W W' : World} {l : List Fc} (h : Held w0 l W) (hb : Below W.heap.size W W') {T : World → Prop} (hf : Fact W.heap.size W'.heap.size T) (ht : T W') : Held w0 (⟨W.heap.size, W'.heap.size, T⟩ :: l) W' := by
  have k := h.keep hb
  refine ⟨k.below, fun f hf' => ?_, fun f hf' => ?_, fun f hf' => ?_, fun f hf' => ?_, List.Pairwise.cons (fun f hf' => h.hi f hf') h.apart⟩
  · rcases List.mem_cons.1 hf' with rfl | hf'
    · exact hf
    · exact k.fact f hf'
  · rcases List.mem_cons.1 hf' with rfl | hf'
    · exact ht
    · exact k.tells f hf'
  · rcases List.mem_cons.1 hf' with rfl | hf'
    · exact h.below.size
    · exact k.lo f hf'
  · rcases List.mem_cons.1 hf' with rfl | hf'
    · exact Nat.le_refl _
    · exact k.hi f hf'

/-- One fact is changed, within its stretch. -/
theorem Held.chg {w0 W W' : World} (l1 : List Fc) {l2 : List Fc} {lo hi : Nat} {T T' : World → Prop} {P : Nat → Prop} (h : Held w0 (l1 ++ ⟨lo, hi, T⟩ :: l2) W) (hc : Chg P W W') (hp : ∀ q, P q → lo ≤ q ∧ q < hi) (hf : Fact lo hi T') (ht : T' W') : Held w0 (l1 ++ ⟨lo, hi, T'⟩ :: l2) W' := by
  have hm : (⟨lo, hi, T⟩ : Fc) ∈ l1 ++ ⟨lo, hi, T⟩ :: l2 := List.mem_append_right _ List.mem_cons_self
  have hlo := h.lo _ hm
  obtain ⟨p1, p2, p3⟩ := List.pairwise_append.1 h.apart
  obtain ⟨p4, p5⟩ := List.pairwise_cons.1 p2
  have hcase : ∀ f, f ∈ l1 ++ ⟨lo, hi, T'⟩ :: l2 → f = ⟨lo, hi, T'⟩ ∨ (f ∈ l1 ++ ⟨lo, hi, T⟩ :: l2 ∧ (f.hi ≤ lo ∨ hi ≤ f.lo)) := fun f hf => by
    rcases List.mem_append.1 hf with h1 | h1
    · exact Or.inr ⟨List.mem_append_left _ h1, Or.inr (p3 f h1 _ List.mem_cons_self)⟩
    · rcases List.mem_cons.1 h1 with h1 | h1
      · exact Or.inl h1
      · exact Or.inr ⟨List.mem_append_right _ (List.mem_cons_of_mem _ h1), Or.inl (p4 f h1)⟩
  refine ⟨⟨hc.os.trans h.below.os, hc.tape.trans h.below.tape, hc.output.trans h.below.output, Nat.le_trans h.below.size hc.size, fun q hq => ?_⟩, fun f hf' => ?_, fun f hf' => ?_, fun f hf' => ?_, fun f hf' => ?_, ?_⟩
  · exact (hc.block q (Nat.lt_of_lt_of_le hq h.below.size) (fun e => by have := (hp q e).1; have hlo' : w0.heap.size ≤ lo := hlo; omega)).trans (h.below.block q hq)
  · rcases hcase f hf' with rfl | ⟨h1, -⟩
    · exact hf
    · exact h.fact f h1
  · rcases hcase f hf' with rfl | ⟨h1, h2⟩
    · exact ht
    · have hh := h.hi f h1
      exact h.fact f h1 W W' (h.tells f h1) (fun q hq hq' => hc.block q (by omega) (fun e => by have := hp q e; omega))
  · rcases hcase f hf' with rfl | ⟨h1, -⟩
    · exact hlo
    · exact h.lo f h1
  · have hs := hc.size
    rcases hcase f hf' with rfl | ⟨h1, -⟩
    · exact Nat.le_trans (h.hi ⟨lo, hi, T⟩ hm) hs
    · exact Nat.le_trans (h.hi f h1) hs
  · refine List.pairwise_append.2 ⟨p1, List.pairwise_cons.2 ⟨p4, p5⟩, fun a ha b hb => ?_⟩
    rcases List.mem_cons.1 hb with rfl | hb
    · exact p3 a ha ⟨lo, hi, T⟩ List.mem_cons_self
    · exact p3 a ha b (List.mem_cons_of_mem _ hb)

/-- What a new slice tells. -/
theorem Held.slice {w0 W W' : World} {l : List Fc} (h : Held w0 l W) (hb : Below W.heap.size W W') {t : TypeId} {sz : Nat} {v : Value} {n : Nat} {F : Nat → Value} (hs : SliceR t sz W.heap.size W' v n F) : Held w0 (⟨W.heap.size, W'.heap.size, fun X => SliceR t sz W.heap.size X v n F⟩ :: l) W' :=
  h.add hb (fact_slice F (fun h0 q e => by obtain ⟨g, e1, -, h2⟩ := hs.block h0; rw [e1] at e; cases e; exact h2)) hs

/-- A slice is marked. -/
theorem Held.mark {w0 W W1 W' : World} (l1 : List Fc) {l2 : List Fc} {lo hi B : Nat} {t : TypeId} {sz : Nat} {v : Value} {n : Nat} {F G : Nat → Value} (h : Held w0 (l1 ++ ⟨lo, hi, fun X => SliceR t sz lo X v n F⟩ :: l2) W) (hu : n ≠ 0 → ∀ q, v.ownBlock = some q → q < hi) (hk : Below W.heap.size W W1) (ht : Turned W1 W' v n) (hG : SliceR t sz B W' v n G) : Held w0 (l1 ++ ⟨lo, hi, fun X => SliceR t sz lo X v n G⟩ :: l2) W' := by
  have hs := h.tells _ (List.mem_append_right l1 List.mem_cons_self)
  refine (h.keep hk).chg l1 (P := fun q => n ≠ 0 ∧ v.ownBlock = some q) (Chg.of_turned ht (fun q h0 e => ⟨h0, e⟩)) (fun q hq => ⟨?_, hu hq.1 q hq.2⟩) (fact_slice G hu) ?_
  · obtain ⟨g, e1, h1, -⟩ := hs.block hq.1
    rw [e1] at hq
    cases hq.2
    exact h1
  · obtain ⟨ad, cap, e, h1⟩ := hG
    obtain ⟨ad', cap', e', h2⟩ := hs
    by_cases h0 : n = 0
    · exact ⟨ad, cap, e, Or.inl h0⟩
    · obtain ⟨g, rfl, _, hr⟩ := h1.resolve_left h0
      obtain ⟨g', e2, hB, _⟩ := h2.resolve_left h0
      rw [e] at e'
      cases e'
      cases e2
      exact ⟨_, cap, e, Or.inr ⟨g, rfl, hB, hr⟩⟩
end Go.Proofs.YtfmkgppkgmjpfaaDoor
