/- The first two slices that a law holds change places. -/
import Derived.Test.YtnoobonlmfgfhaaHeapMem
namespace Go.Proofs.Ytnoobonlmfgfhaa
open Go.RowKit

theorem Mem.swap {w0 W : World} {x y : Sl} {sl : List Sl} {hb : List Hb} (m : Mem w0 (x :: y :: sl) hb W) : Mem w0 (y :: x :: sl) hb W := by
  obtain ⟨hp, hq⟩ := List.pairwise_cons.1 m.apart
  obtain ⟨hp2, hq2⟩ := List.pairwise_cons.1 hq
  have hm : ∀ z, z ∈ y :: x :: sl → z ∈ x :: y :: sl := fun z hz => by
    simp only [List.mem_cons] at hz ⊢
    rcases hz with h | h | h
    · exact Or.inr (Or.inl h)
    · exact Or.inl h
    · exact Or.inr (Or.inr h)
  refine ⟨fun z hz => m.slices z (hm z hz), m.blocks, ?_, fun z hz => m.beside z (hm z hz), m.below⟩
  refine List.Pairwise.cons ?_ (List.Pairwise.cons (fun z hz => hp z (List.mem_cons_of_mem _ hz)) hq2)
  intro z hz
  rcases List.mem_cons.1 hz with rfl | hz
  · exact fun h0 h1 e => hp y List.mem_cons_self h1 h0 e.symm
  · exact hp2 z hz
end Go.Proofs.Ytnoobonlmfgfhaa
