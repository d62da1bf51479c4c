/- A program is spoilt: what lies there meanwhile. -/
import Derived.Test.YtfmeldjkofoelaaGreatDoorGenOMU
import Derived.Test.YtfmeldjkofoelaaGreatDoorTreeAll
namespace Go.Proofs.YtfmeldjkofoelaaGreatDoor
open Go.RowKit Go.Deep

/-- Where the spoiling stands: the program in its box, the box of what is told, a copy of the tree. -/
structure Sp (d : Dr) (W X : World) (q : Nat) (ve v1 : Value) (bp rx : Nat) (vt : Value) (ns : List Nd) : Prop where
  rd : Rdr d X q
  gr : Grew d W X
  box : X.heap[bp]? = some (.cells #[ve, v1] 36)
  res : X.heap[rx]? = some (.cells #[.slice none 0 0, .slice none 0 0] 36)
  lo : d.B < W.heap.size ∧ W.heap.size ≤ bp ∧ W.heap.size ≤ rx ∧ bp ≠ rx
  row : X.ownsRow W.heap.size 29 6 vt ns.length (rowZ Nd.cell 6 ns)
  sml : ∀ n ∈ ns, Brief n.a ∧ Brief n.b ∧ Brief n.c
  any : 1 ≤ ns.length ∧ ns.length ≤ 300

theorem Sp.pick {d : Dr} {W X X' : World} {q q' : Nat} {ve v1 : Value} {bp rx : Nat} {vt : Value} {ns : List Nd} (h : Sp d W X q ve v1 bp rx vt ns) (hr : Rdr d X' q') (hg : Grew d X X') (ho : ∀ k, k ≠ d.B → X'.heap[k]? = X.heap[k]?) : Sp d W X' q' ve v1 bp rx vt ns :=
  ⟨hr, h.gr.trans hg, (ho bp (by have := h.lo; omega)).trans h.box, (ho rx (by have := h.lo; omega)).trans h.res, h.lo, g_same h.row (fun g hk => ho g (by have := (h.row.lt g hk).1; have := h.lo; omega)), h.sml, h.any⟩

theorem Sp.below {d : Dr} {W X X' : World} {q : Nat} {ve v1 : Value} {bp rx : Nat} {vt : Value} {ns : List Nd} (h : Sp d W X q ve v1 bp rx vt ns) (hb : Below X.heap.size X X') : Sp d W X' q ve v1 bp rx vt ns :=
  ⟨h.rd.below hb, h.gr.trans (Grew.of_below hb), (hb.block _ (heap_lt h.box)).trans h.box, (hb.block _ (heap_lt h.res)).trans h.res, h.lo, g_same h.row (fun g hk => hb.block g (h.row.lt g hk).2), h.sml, h.any⟩

/-- A block of one's own is written, neither the boxes nor the copy. -/
theorem Sp.other {d : Dr} {W X X' : World} {q : Nat} {ve v1 : Value} {bp rx nb : Nat} {vt : Value} {ns : List Nd} (h : Sp d W X q ve v1 bp rx vt ns) (ho : ∀ k, k ≠ nb → X'.heap[k]? = X.heap[k]?) (hs : X'.heap.size = X.heap.size) (hos : X'.os = X.os ∧ X'.tape = X.tape ∧ X'.output = X.output) (h1 : W.heap.size ≤ nb) (h2 : nb ≠ bp) (h3 : nb ≠ rx) (h4 : vt.ownBlock ≠ some nb) (hby : ∀ b off, d.a0 = some ⟨b, off, none⟩ → 0 < d.len → b ≠ nb) : Sp d W X' q ve v1 bp rx vt ns := by
  have hlo := h.lo
  refine ⟨⟨(ho _ (by omega)).trans h.rd.blk, fun hl => ?_⟩, ⟨hos.1.trans h.gr.os, hos.2.1.trans h.gr.tape, hos.2.2.trans h.gr.output, by rw [hs]; exact h.gr.size, fun k hk => (ho k (by have := hk.1; omega)).trans (h.gr.block k hk)⟩, (ho bp (Ne.symm h2)).trans h.box, (ho rx (Ne.symm h3)).trans h.res, hlo, g_same h.row (fun g hk => ho g (fun e => h4 (by rw [← e]; exact hk))), h.sml, h.any⟩
  obtain ⟨b, off, ea, hq, hz⟩ := h.rd.bytes hl
  refine ⟨b, off, ea, ⟨by rw [hs]; exact hq.1, hq.2⟩, fun i hi => ?_⟩
  obtain ⟨z, hz, h5⟩ := hz i hi
  exact ⟨z, (World.cell?_of_block (a := ⟨b, off + i, none⟩) (ho b (hby b off ea hl))).trans hz, h5⟩

def SpoilPost (d : Dr) (W : World) (p : Nat) (e : Ending) (W' : World) : Prop :=
  ∃ ad n cp v ns p', e = .returned (.agg #[.slice ad n cp, v]) ∧ NodesD d W' v ns ∧ ns.length ≤ 1000 ∧ Rdr d W' p' ∧ p' ≤ p + 10 ∧ Grew d W W'

/-- Where the bytes lie they lay at the beginning. -/
theorem bytes_low {d : Dr} {W : World} {p : Nat} (h : Rdr d W p) : ∀ b off, d.a0 = some ⟨b, off, none⟩ → 0 < d.len → b < W.heap.size := fun b off ea hl => by
  obtain ⟨b', off', ea', hq, -⟩ := h.bytes hl
  rw [ea] at ea'
  cases ea'
  exact hq.1

/-- The boxes alone. -/
structure Bx (d : Dr) (W X : World) (q : Nat) (ve v1 : Value) (bp rx : Nat) : Prop where
  rd : Rdr d X q
  gr : Grew d W X
  box : X.heap[bp]? = some (.cells #[ve, v1] 36)
  res : X.heap[rx]? = some (.cells #[.slice none 0 0, .slice none 0 0] 36)
  lo : d.B < W.heap.size ∧ W.heap.size ≤ bp ∧ W.heap.size ≤ rx ∧ bp ≠ rx

theorem Sp.bx {d : Dr} {W X : World} {q : Nat} {ve v1 : Value} {bp rx : Nat} {vt : Value} {ns : List Nd} (h : Sp d W X q ve v1 bp rx vt ns) : Bx d W X q ve v1 bp rx := ⟨h.rd, h.gr, h.box, h.res, h.lo⟩

theorem Bx.other {d : Dr} {W X X' : World} {q p0 : Nat} {ve v1 : Value} {bp rx nb : Nat} (h : Bx d W X q ve v1 bp rx) (h0 : Rdr d W p0) (ho : ∀ k, k ≠ nb → X'.heap[k]? = X.heap[k]?) (hs : X'.heap.size = X.heap.size) (hos : X'.os = X.os ∧ X'.tape = X.tape ∧ X'.output = X.output) (h1 : W.heap.size ≤ nb) (h2 : nb ≠ bp) (h3 : nb ≠ rx) : Bx d W X' q ve v1 bp rx := by
  have hlo := h.lo
  refine ⟨⟨(ho _ (by omega)).trans h.rd.blk, fun hl => ?_⟩, ⟨hos.1.trans h.gr.os, hos.2.1.trans h.gr.tape, hos.2.2.trans h.gr.output, by rw [hs]; exact h.gr.size, fun k hk => (ho k (by have := hk.1; omega)).trans (h.gr.block k hk)⟩, (ho bp (Ne.symm h2)).trans h.box, (ho rx (Ne.symm h3)).trans h.res, hlo⟩
  obtain ⟨b, off, ea, hq, hz⟩ := h.rd.bytes hl
  have hbl := bytes_low h0 b off ea hl
  refine ⟨b, off, ea, ⟨by rw [hs]; exact hq.1, hq.2⟩, fun i hi => ?_⟩
  obtain ⟨z, hz, h5⟩ := hz i hi
  exact ⟨z, (World.cell?_of_block (a := ⟨b, off + i, none⟩) (ho b (by omega))).trans hz, h5⟩

theorem Sp.set {d : Dr} {W X : World} {q p0 : Nat} {ve v1 : Value} {bp rx g L cap : Nat} {ns : List Nd} (h : Sp d W X q ve v1 bp rx (.slice (some ⟨g, 0, none⟩) L cap) ns) (h0 : Rdr d W p0) (nb j : Nat) (u : Value) (h1 : W.heap.size ≤ nb) (h2 : nb ≠ bp) (h3 : nb ≠ rx) (h4 : nb ≠ g) : Sp d W (X.setCell ⟨nb, j, none⟩ u) q ve v1 bp rx (.slice (some ⟨g, 0, none⟩) L cap) ns :=
  h.other (nb := nb) (fun k hk => Below.heap_setCell X ⟨nb, j, none⟩ u k hk) (by simp [World.setCell]) ⟨rfl, rfl, rfl⟩ h1 h2 h3 (by simp [Value.ownBlock]; exact Ne.symm h4) (fun b off ea hl e => by have := bytes_low h0 b off ea hl; omega)

/-- The boxes are written last: nodes that lie elsewhere stay. -/
theorem last_store {d : Dr} {W X : World} {q p0 : Nat} {ve v1 : Value} {bp rx : Nat} {ms : List Nd} {v : Value} (h : Bx d W X q ve v1 bp rx) (h0 : Rdr d W p0) (hve : ∃ a n c, ve = .slice a n c) (hn : NodesD d X v ms) (j : Nat) (u u0 u1 : Value) :
    NodesD d (((X.setCell ⟨bp, j, none⟩ u).setCell ⟨rx, 0, none⟩ u0).setCell ⟨rx, 1, none⟩ u1) v ms ∧ Rdr d (((X.setCell ⟨bp, j, none⟩ u).setCell ⟨rx, 0, none⟩ u0).setCell ⟨rx, 1, none⟩ u1) q ∧ Grew d W (((X.setCell ⟨bp, j, none⟩ u).setCell ⟨rx, 0, none⟩ u0).setCell ⟨rx, 1, none⟩ u1) := by
  have ho : ∀ k, k ≠ bp → k ≠ rx → (((X.setCell ⟨bp, j, none⟩ u).setCell ⟨rx, 0, none⟩ u0).setCell ⟨rx, 1, none⟩ u1).heap[k]? = X.heap[k]? := fun k h1 h2 => ((Below.heap_setCell _ ⟨rx, 1, none⟩ _ k h2).trans (Below.heap_setCell _ ⟨rx, 0, none⟩ _ k h2)).trans (Below.heap_setCell X ⟨bp, j, none⟩ _ k h1)
  have hs : (((X.setCell ⟨bp, j, none⟩ u).setCell ⟨rx, 0, none⟩ u0).setCell ⟨rx, 1, none⟩ u1).heap.size = X.heap.size := by simp [World.setCell]
  have hlo := h.lo
  obtain ⟨a, n, c, rfl⟩ := hve
  refine ⟨⟨?_, hn.2⟩, ⟨(ho _ (by omega) (by omega)).trans h.rd.blk, fun hl => ?_⟩, ⟨h.gr.os, h.gr.tape, h.gr.output, by rw [hs]; exact h.gr.size, fun k hk => (ho k (by have := hk.1; omega) (by have := hk.1; omega)).trans (h.gr.block k hk)⟩⟩
  · rcases hn.1 with hx | ⟨b, off, cap, h1, h2, rfl, h4, h5⟩
    · exact Or.inl hx
    · refine Or.inr ⟨b, 0, cap, h1, h2, rfl, ⟨by rw [hs]; exact h4.1, h4.2⟩, fun i hi => ?_⟩
      have e1 := h5 0 (by omega)
      have hb1 : b ≠ bp := fun e => by
        subst e
        rw [Nat.zero_add, cell_of_heap h.box 0] at e1
        simp at e1
        cases e1
      have hb2 : b ≠ rx := fun e => by
        subst e
        rw [Nat.zero_add, cell_of_heap h.res 0] at e1
        simp at e1
        cases e1
      exact (World.cell?_of_block (a := ⟨b, 0 + i, none⟩) (ho b hb1 hb2)).trans (h5 i hi)
  · obtain ⟨b, off, ea, hq, hz⟩ := h.rd.bytes hl
    have hbl := bytes_low h0 b off ea hl
    refine ⟨b, off, ea, ⟨by rw [hs]; exact hq.1, hq.2⟩, fun i hi => ?_⟩
    obtain ⟨z, hz, h5⟩ := hz i hi
    exact ⟨z, (World.cell?_of_block (a := ⟨b, off + i, none⟩) (ho b (by omega) (by omega))).trans hz, h5⟩

/-- A node of the copy is written anew. -/
def six (X : World) (g k : Nat) (m : Nd) : World := (((((X.setCell ⟨g, k * 6, none⟩ (.int .i64 m.kind)).setCell ⟨g, k * 6 + 1, none⟩ (.int .i64 m.num)).setCell ⟨g, k * 6 + 2, none⟩ (.string m.a)).setCell ⟨g, k * 6 + 3, none⟩ (.string m.b)).setCell ⟨g, k * 6 + 4, none⟩ (.string m.c)).setCell ⟨g, k * 6 + 5, none⟩ (.int .i64 m.kids)

theorem six_other (X : World) (g k : Nat) (m : Nd) : (∀ j, j ≠ g → (six X g k m).heap[j]? = X.heap[j]?) ∧ (six X g k m).heap.size = X.heap.size := by
  refine ⟨fun j hj => ?_, by simp [six, World.setCell]⟩
  unfold six
  rw [Below.heap_setCell _ ⟨g, k * 6 + 5, none⟩ _ j hj, Below.heap_setCell _ ⟨g, k * 6 + 4, none⟩ _ j hj, Below.heap_setCell _ ⟨g, k * 6 + 3, none⟩ _ j hj, Below.heap_setCell _ ⟨g, k * 6 + 2, none⟩ _ j hj, Below.heap_setCell _ ⟨g, k * 6 + 1, none⟩ _ j hj, Below.heap_setCell _ ⟨g, k * 6, none⟩ _ j hj]

theorem six_os (X : World) (g k : Nat) (m : Nd) : (six X g k m).os = X.os ∧ (six X g k m).tape = X.tape ∧ (six X g k m).output = X.output := by
  simp [six, World.setCell]

theorem six_row {X : World} {B g cap k : Nat} {ns : List Nd} (h : X.ownsRow B 29 6 (.slice (some ⟨g, 0, none⟩) ns.length cap) ns.length (rowZ Nd.cell 6 ns)) (hk : k < ns.length) (m : Nd) (d : Dr) (hf : d.free (six X g k m) g) (hc : ns.length ≤ cap) (hb : ∀ n ∈ ns, Brief n.a ∧ Brief n.b ∧ Brief n.c) (hm : Brief m.a ∧ Brief m.b ∧ Brief m.c) :
    NodesD d (six X g k m) (.slice (some ⟨g, 0, none⟩) ns.length cap) (ns.set k m) := by
  refine ⟨?_, fun n hn => ?_⟩
  · rw [List.length_set]
    refine Or.inr ⟨g, 0, cap, rfl, hc, rfl, hf, fun i hi => ?_⟩
    have hci := h.cellAt i hi
    rw [rowZ_get Nd.cell 6 (by decide) ns i hi] at hci
    obtain ⟨-, ⟨h1, -⟩ | ⟨g', cap', cur, e, -, hg, -, -, hsz, -⟩⟩ := h
    · cases h1
    cases e
    have hrw : Rw X g 29 cur.size (fun j => cur.getD j undef) 0 := ⟨cur, (0, 0), hg, rfl, fun j hj => by simp [hj], Or.inl rfl⟩
    have hcur : cur.getD i undef = (ns.getD (i / 6) default).cell (i % 6) := by
      rw [cell_of_heap hg i] at hci
      simp [Array.getD_eq_getD_getElem?, hci]
    have hlt : i < cur.size := by
      rw [cell_of_heap hg i] at hci
      exact (Array.getElem?_eq_some_iff.1 hci).1
    have hx := (((((hrw.set (k * 6) (.int .i64 m.kind)).set (k * 6 + 1) (.int .i64 m.num)).set (k * 6 + 2) (.string m.a)).set (k * 6 + 3) (.string m.b)).set (k * 6 + 4) (.string m.c)).set (k * 6 + 5) (.int .i64 m.kids)
    have hy := hx.cell hlt
    rw [Nat.zero_add]
    refine hy.trans (congrArg some ?_)
    show _ = ((ns.set k m).getD (i / 6) default).cell (i % 6)
    by_cases hik : i / 6 = k
    · have hm6 : i = k * 6 + i % 6 := by omega
      have hgd : (ns.set k m).getD (i / 6) default = m := by rw [hik]; simp [List.getD, hk]
      rw [hgd]
      have hr : i % 6 = 0 ∨ i % 6 = 1 ∨ i % 6 = 2 ∨ i % 6 = 3 ∨ i % 6 = 4 ∨ i % 6 = 5 := by omega
      rcases hr with hr | hr | hr | hr | hr | hr
      · rw [if_neg (by omega), if_neg (by omega), if_neg (by omega), if_neg (by omega), if_neg (by omega), if_pos (by omega), hr]; rfl
      · rw [if_neg (by omega), if_neg (by omega), if_neg (by omega), if_neg (by omega), if_pos (by omega), hr]; rfl
      · rw [if_neg (by omega), if_neg (by omega), if_neg (by omega), if_pos (by omega), hr]; rfl
      · rw [if_neg (by omega), if_neg (by omega), if_pos (by omega), hr]; rfl
      · rw [if_neg (by omega), if_pos (by omega), hr]; rfl
      · rw [if_pos (by omega), hr]; rfl
    · rw [if_neg (by omega), if_neg (by omega), if_neg (by omega), if_neg (by omega), if_neg (by omega), if_neg (by omega), hcur]
      have hgd : (ns.set k m).getD (i / 6) default = ns.getD (i / 6) default := by simp [List.getD, List.getElem?_set_ne (Ne.symm hik)]
      rw [hgd]
  · rcases List.mem_or_eq_of_mem_set hn with h1 | h1
    · exact hb n h1
    · rw [h1]; exact hm
end Go.Proofs.YtfmeldjkofoelaaGreatDoor
