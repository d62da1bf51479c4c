/- The namer's walk over a form is the plain one. -/
import Derived.Test.YtnbmhopoiijhoaaNameWalk
namespace Go.Proofs.Ytnbmhopoiijhoaa
open Go.RowKit Go.Deep

/-- There is room for so many nodes more. -/
structure Room (c : Nat) (s : Wst) : Prop where
  plain : s.plain.length + 2 * c ≤ 90000
  free : s.free.length + 2 * c ≤ 90000
  made : s.made + 2 * c ≤ 90000

theorem Room.small {c : Nat} {s : Wst} (h : Room c s) : Wsm s := ⟨by have := h.plain; omega, by have := h.free; omega, by have := h.made; omega⟩

theorem makesZ_le (k : Int) : makesZ k ≤ 2 := by
  unfold makesZ
  repeat' split
  all_goals omega

theorem lostZ_len (n : Nd) (sc : Sco) : (lostZ n sc).length ≤ 1 := by
  unfold lostZ
  split <;> simp

/-- A block that no row lies in. -/
structure Free (Nb q : Nat) (vp vf : Value) (X : World) : Prop where
  lt : q < X.heap.size
  nb : q ≠ Nb
  np : vp.ownBlock ≠ some q
  nf : vf.ownBlock ≠ some q

theorem Free.step {Nb q : Nat} {vp vf vp' vf' : Value} {X Y : World} (h : Free Nb q vp vf X) (fy : Nfr Nb vp vf X Y) (hp : Movd X vp vp') (hf : Movd X vf vf') : Free Nb q vp' vf' Y ∧ Y.heap[q]? = X.heap[q]? :=
  ⟨⟨Nat.lt_of_lt_of_le h.lt fy.size, h.nb, hp.not h.lt h.np, hf.not h.lt h.nf⟩, fy.block q h.lt h.nb h.np h.nf⟩

theorem Free.below {Nb q : Nat} {vp vf : Value} {X Y : World} (h : Free Nb q vp vf X) (hb : Below X.heap.size X Y) : Free Nb q vp vf Y ∧ Y.heap[q]? = X.heap[q]? := h.step (Nfr.of_below hb) (Or.inl rfl) (Or.inl rfl)

/-- Names in a slice. -/
def NamesAt (W : World) (ad : Option Addr) (ss : List ByteArray) : Prop := ss.length = 0 ∨ ∃ g o, ad = some ⟨g, o, none⟩ ∧ g < W.heap.size ∧ ∀ j, j < ss.length → W.cell? ⟨g, o + j, none⟩ = some (.string (ss.getD j ⟨#[]⟩))

theorem names_at {B : Nat} {W : World} {sv : Value} {ss : List ByteArray} (h : SliceOf B W sv (strRow ss)) : ∃ ad c, sv = .slice ad ss.length c ∧ NamesAt W ad ss := by
  have hl : (strRow ss).length = ss.length := by unfold strRow; simp
  rcases h with ⟨e, a, c, rfl⟩ | ⟨g, o, cap, rfl, -, hg, hc⟩
  · have h0 : ss.length = 0 := by rw [← hl, e]; rfl
    exact ⟨a, c, by rw [h0], Or.inl h0⟩
  · refine ⟨_, cap, by rw [hl], Or.inr ⟨g, o, rfl, hg, fun j hj => ?_⟩⟩
    rw [hc j (by rw [hl]; exact hj)]
    unfold strRow
    simp [List.getD, hj]

theorem NamesAt.below {W W' : World} {ad : Option Addr} {ss : List ByteArray} (h : NamesAt W ad ss) (hb : Below W.heap.size W W') : NamesAt W' ad ss := by
  rcases h with h | ⟨g, o, e, hg, hc⟩
  · exact Or.inl h
  · exact Or.inr ⟨g, o, e, Nat.lt_of_lt_of_le hg hb.size, fun j hj => (hb.cell (p := ⟨g, o + j, none⟩) hg).trans (hc j hj)⟩

theorem zip_take (xs ys : List ByteArray) (j : Nat) (h1 : j < xs.length) (h2 : xs.length = ys.length) (sc : Sco) : ((xs.zip ys).take (j + 1)).foldl (fun s p => p :: s) sc = (xs.getD j ⟨#[]⟩, ys.getD j ⟨#[]⟩) :: ((xs.zip ys).take j).foldl (fun s p => p :: s) sc := by
  have hz : j < (xs.zip ys).length := by rw [List.length_zip]; omega
  rw [List.take_add_one, List.getElem?_eq_getElem hz, Option.toList_some, List.foldl_append]
  simp [List.getD, h1, show j < ys.length by omega]

theorem walkW_room {n : Nd} {k : Fo} {sc : Sco} {s : Wst} {c : Nat} (h : Room (1 + k.flat.length + c) s) : Room c (walkW n k sc s) := by
  obtain ⟨h1, h2, h3⟩ := kidsW_plain n (renZ n sc s.made) k 0 sc (stepW n sc s)
  have e1 := h.plain
  have e2 := h.free
  have e3 := h.made
  have h4 := lostZ_len n sc
  have h5 := makesZ_le n.kind
  have s1 : (stepW n sc s).plain.length = s.plain.length + 1 := by simp [stepW]
  have s2 : (stepW n sc s).free.length ≤ s.free.length + 1 := by simp only [stepW, List.length_append]; omega
  have s3 : (stepW n sc s).made ≤ s.made + 2 := by simp only [stepW]; omega
  unfold walkW
  exact ⟨by omega, by omega, by omega⟩

theorem lt_step' {i L : Nat} (h : (i : Int) < (L : Int)) : L - (intOf (.int .i64 ((i + 1 : Nat) : Int))).toNat < L - (intOf (.int .i64 (i : Int))).toNat := by simp only [intOf, Int.toNat_natCast]; omega

end Go.Proofs.Ytnbmhopoiijhoaa