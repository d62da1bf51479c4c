/- The namer's walk over a form. -/
import Derived.Test.YtnbmhopoiijhoaaNameRenB
namespace Go.Proofs.Ytnbmhopoiijhoaa
open Go.RowKit Go.Deep

theorem info_nd : (Try.prog.info? 92).map (fun i => (i.zero, i.size, i.bytes)) = some (some (.agg #[.int .i64 0, .int .i64 0, .string ⟨#[]⟩, .string ⟨#[]⟩, .string ⟨#[]⟩, .int .i64 0]), 6, 72) := by kernel_rfl

/-- A node that its form keeps whole. -/
def Whole (n : Nd) : Prop := bareZ n = { n with kids := 0 } ∧ n.a.size ≤ 281474976710656

theorem node6_set {w : World} {b : Nat} {t : TypeId} {x0 x1 x2 x3 x4 x5 : Value} (h : w.heap[b]? = some (.cells #[x0, x1, x2, x3, x4, x5] t)) (v : Value) : (w.setCell ⟨b, 5, none⟩ v).heap[b]? = some (.cells #[x0, x1, x2, x3, x4, v] t) := by
  simp [World.setCell, Array.getElem?_modify, h]

theorem sliceOf_len {B : Nat} {w : World} {sv : Value} {us : List Value} (h : SliceOf B w sv us) : ∃ ad c, sv = .slice ad us.length c := by
  rcases h with ⟨rfl, a, c, rfl⟩ | ⟨g, o, cap, rfl, -⟩
  · exact ⟨a, c, rfl⟩
  · exact ⟨_, _, rfl⟩

end Go.Proofs.Ytnbmhopoiijhoaa