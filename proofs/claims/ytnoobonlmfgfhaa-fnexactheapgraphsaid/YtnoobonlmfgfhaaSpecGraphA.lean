/- The specification's HeapGraph: what telling keeps. -/
import Derived.Test.YtnoobonlmfgfhaaSpecGraph
import Derived.Test.YtnoobonlmfgfhaaImplGraphC
import Derived.Deep.CutRange
namespace Go.Proofs.Ytnoobonlmfgfhaa
open Go.RowKit

/-- Places of addresses, and the addresses that were met. -/
structure SGr (B bp N : Nat) (met : List Nat) (vm : Value) (W : World) : Prop where
  places : CellRow 3 W bp N (fun a => .int .i64 (placeZ met a))
  row : W.ownsRow B 3 1 vm met.length (metCells met)
  n2 : vm.ownBlock ≠ some bp
  b2 : B ≤ bp

theorem SGr.keep {B bp N : Nat} {vm : Value} {met : List Nat} {W W' : World} (g : SGr B bp N met vm W) (hb : Below W.heap.size W W') : SGr B bp N met vm W' :=
  ⟨g.places.of_block (hb.block _ g.places.lt), kept_owns g.row hb, g.n2, g.b2⟩

theorem SGr.own_lt {B bp N : Nat} {vm : Value} {met : List Nat} {W : World} (g : SGr B bp N met vm W) {k : Nat} (e : vm.ownBlock = some k) : B ≤ k ∧ k < W.heap.size := (owns_at g.row).1 k e

/-- Blocks beside are kept. -/
theorem SGr.beside {B bp N : Nat} {vm : Value} {met : List Nat} {W W' : World} (g : SGr B bp N met vm W) (he : ∀ q, q < W.heap.size → (q = bp ∨ vm.ownBlock = some q) → W'.heap[q]? = W.heap[q]?) : SGr B bp N met vm W' :=
  ⟨g.places.of_block (he _ g.places.lt (Or.inl rfl)), owns_of_block g.row (fun q e => he q (g.own_lt e).2 (Or.inr e)), g.n2, g.b2⟩

/-- The cells of words. -/
def wordCells (ys : List Int) : List Value := ys.map (fun y => Value.int .i64 y)

/-- What telling one word behind the other keeps. -/
structure STl (W0 : World) (B bp N : Nat) (v0 : Value) (met : List Nat) (vm : Value) (ys : List Int) (vt : Value) (W : World) : Prop where
  gr : SGr B bp N met vm W
  row : W.ownsRow B 3 1 vt ys.length (wordCells ys)
  o2 : ∀ q, vt.ownBlock = some q → W0.heap.size ≤ q
  ap : ∀ q, vt.ownBlock = some q → vm.ownBlock ≠ some q
  lp : bp < W0.heap.size
  mv : MovedTo W0 v0 vm
  frm : FrmG W0 bp bp v0 W

theorem STl.tell {W0 : World} {B bp N : Nat} {v0 : Value} {met met' : List Nat} {vm vm' : Value} {ys : List Int} {vt : Value} {W W' : World} (s : STl W0 B bp N v0 met vm ys vt W) (g : SGr B bp N met' vm' W') (hf : FrmG W bp bp vm W') (hm : MovedTo W vm vm') : STl W0 B bp N v0 met' vm' ys vt W' := by
  have hlo := (owns_at s.row).1
  have lp := s.lp
  refine ⟨g, owns_of_block s.row (fun q e => hf.block q (hlo q e).2 (by have := s.o2 q e; omega) (by have := s.o2 q e; omega) (s.ap q e)), s.o2, fun q e e' => ?_, s.lp, MovedTo.trans s.frm.size s.mv hm, s.frm.trans s.mv hf⟩
  rcases hm with h | ⟨g, h, hl⟩
  · exact s.ap q e (h.symm.trans e')
  · rw [e'] at h
    cases h
    have := (hlo q e).2
    omega

theorem STl.below {W0 : World} {B bp N : Nat} {v0 : Value} {met : List Nat} {vm : Value} {ys : List Int} {vt : Value} {W W' : World} (s : STl W0 B bp N v0 met vm ys vt W) (hb : Below W.heap.size W W') : STl W0 B bp N v0 met vm ys vt W' := s.tell (s.gr.keep hb) (FrmG.of_below hb bp bp vm) (Or.inl rfl)

theorem STl.push {W0 : World} {B bp N : Nat} {v0 : Value} {met : List Nat} {vm : Value} {ys : List Int} {vt vt' : Value} {W W' : World} (s : STl W0 B bp N v0 met vm ys vt W) (y : Int) (hown : W'.ownsRow B 3 1 vt' (ys.length + 1) (wordCells ys ++ [.int .i64 y])) (hgr : W.grownBy W' vt.ownBlock) (hat : vt'.ownBlock = vt.ownBlock ∨ ∃ q, vt'.ownBlock = some q ∧ W.heap.size ≤ q) : STl W0 B bp N v0 met vm (ys ++ [y]) vt' W' := by
  obtain ⟨gos, gtape, gout, gsz, gblk⟩ := hgr
  have kb : ∀ q, q < W.heap.size → vt.ownBlock ≠ some q → W'.heap[q]? = W.heap[q]? := fun q hq hn => gblk q hq hn.symm
  have hlo := (owns_at s.row).1
  have lp := s.lp
  have hfs := s.frm.size
  refine ⟨s.gr.beside (fun q hq hor => kb q hq (fun e => ?_)), ?_, fun q e => ?_, fun q e => ?_, s.lp, s.mv, ⟨gos.trans s.frm.os, gtape.trans s.frm.tape, gout.trans s.frm.output, by omega, fun q hq h1 h2 h3 => (kb q (by omega) (fun e => by have := s.o2 q e; omega)).trans (s.frm.block q hq h1 h2 h3)⟩⟩
  · rcases hor with h | h
    · have := s.o2 q e
      omega
    · exact s.ap q e h
  · rw [List.length_append, List.length_singleton]
    unfold wordCells at hown ⊢
    rw [List.map_append]
    exact hown
  · rcases hat with h | ⟨g, h, hl⟩
    · exact s.o2 q (h.symm.trans e)
    · rw [e] at h
      cases h
      omega
  · rcases hat with h | ⟨g, h, hl⟩
    · exact s.ap q (h.symm.trans e)
    · rw [e] at h
      cases h
      intro e'
      have := (s.gr.own_lt e').2
      omega

/-- A store into another block. -/
theorem STl.set {W0 : World} {B bp N : Nat} {v0 : Value} {met : List Nat} {vm : Value} {ys : List Int} {vt : Value} {W : World} (s : STl W0 B bp N v0 met vm ys vt W) {g : Nat} (h0 : W0.heap.size ≤ g) (h1 : vm.ownBlock ≠ some g) (h2 : vt.ownBlock ≠ some g) (i : Nat) (x : Value) : STl W0 B bp N v0 met vm ys vt (W.setCell ⟨g, i, none⟩ x) := by
  have e : ∀ j, j ≠ g → (W.setCell ⟨g, i, none⟩ x).heap[j]? = W.heap[j]? := fun j hj => Below.heap_setCell W ⟨g, i, none⟩ x j hj
  have hsz : (W.setCell ⟨g, i, none⟩ x).heap.size = W.heap.size := by simp [World.setCell]
  have lp := s.lp
  refine ⟨s.gr.beside (fun q hq hor => e q (fun eq => ?_)), owns_of_block s.row (fun q hq => e q (fun eq => h2 (eq ▸ hq))), s.o2, s.ap, s.lp, s.mv, ⟨s.frm.os, s.frm.tape, s.frm.output, by rw [hsz]; exact s.frm.size, fun q hq h3 h4 h5 => (e q (by omega)).trans (s.frm.block q hq h3 h4 h5)⟩⟩
  rcases hor with h | h
  · omega
  · exact h1 (eq ▸ h)

/-- The cells of objects: kinds, and whatever holds their fields. -/
def sobjCells (os : List (Int × List Int)) (vs : Nat → Value) : List Value := (List.range os.length).flatMap (fun i => [.int .i64 (os.getD i (0, [])).1, vs i])

theorem sobjCells_snoc (os : List (Int × List Int)) (x : Int × List Int) (vs vs' : Nat → Value) (v : Value) (hv : ∀ i, i < os.length → vs' i = vs i) (h : vs' os.length = v) : sobjCells (os ++ [x]) vs' = sobjCells os vs ++ [.int .i64 x.1, v] := by
  unfold sobjCells
  rw [List.length_append, List.length_singleton, List.range_succ, List.flatMap_append]
  congr 1
  · have e : ∀ i ∈ List.range os.length, [Value.int .i64 ((os ++ [x]).getD i (0, [])).1, vs' i] = [Value.int .i64 (os.getD i (0, [])).1, vs i] := fun i hi => by
      have hi' := List.mem_range.1 hi
      rw [hv i hi']
      simp [List.getD, List.getElem?_append_left hi']
    rw [List.flatMap_def, List.flatMap_def, List.map_congr_left e]
  · simp [h, List.getD]

/-- What telling objects keeps. -/
structure SG3 (W0 : World) (B bp N : Nat) (v0 : Value) (met : List Nat) (vm : Value) (os : List (Int × List Int)) (vs : Nat → Value) (vo : Value) (W : World) : Prop where
  gr : SGr B bp N met vm W
  row : W.ownsRow B 81 2 vo os.length (sobjCells os vs)
  fld : ∀ i, i < os.length → W.ownsRow B 3 1 (vs i) (os.getD i (0, [])).2.length (wordCells (os.getD i (0, [])).2)
  ofl : ∀ i, i < os.length → ∀ q, (vs i).ownBlock = some q → W0.heap.size ≤ q ∧ vm.ownBlock ≠ some q ∧ vo.ownBlock ≠ some q
  o1 : ∀ q, vo.ownBlock = some q → W0.heap.size ≤ q
  a1 : ∀ q, vo.ownBlock = some q → vm.ownBlock ≠ some q
  lp : bp < W0.heap.size
  mv : MovedTo W0 v0 vm
  frm : FrmG W0 bp bp v0 W

theorem SG3.tells {W0 : World} {B bp N : Nat} {v0 : Value} {met met' : List Nat} {vm vm' : Value} {os : List (Int × List Int)} {vs : Nat → Value} {vo : Value} {W W' : World} (s : SG3 W0 B bp N v0 met vm os vs vo W) (hg : SGr B bp N met' vm' W') (hf : FrmG W bp bp vm W') (hm : MovedTo W vm vm') : SG3 W0 B bp N v0 met' vm' os vs vo W' := by
  have hap : ∀ q, q < W.heap.size → vm.ownBlock ≠ some q → vm'.ownBlock ≠ some q := fun q hq h1 e => by
    rcases hm with h | ⟨g, h, hl⟩
    · exact h1 (h.symm.trans e)
    · rw [e] at h
      cases h
      omega
  have hlo := (owns_at' s.row).1
  have lp := s.lp
  refine ⟨hg, owns_of_block' s.row (fun g e => hf.block g (hlo g e).2 (by have := s.o1 g e; omega) (by have := s.o1 g e; omega) (s.a1 g e)), fun i hi => owns_of_block (s.fld i hi) (fun q e => hf.block q ((owns_at (s.fld i hi)).1 q e).2 (by have := (s.ofl i hi q e).1; omega) (by have := (s.ofl i hi q e).1; omega) (s.ofl i hi q e).2.1), fun i hi q e => ⟨(s.ofl i hi q e).1, hap q ((owns_at (s.fld i hi)).1 q e).2 (s.ofl i hi q e).2.1, (s.ofl i hi q e).2.2⟩, s.o1, fun q e => hap q (hlo q e).2 (s.a1 q e), s.lp, MovedTo.trans s.frm.size s.mv hm, s.frm.trans s.mv hf⟩

theorem SG3.below {W0 : World} {B bp N : Nat} {v0 : Value} {met : List Nat} {vm : Value} {os : List (Int × List Int)} {vs : Nat → Value} {vo : Value} {W W' : World} (s : SG3 W0 B bp N v0 met vm os vs vo W) (hb : Below W.heap.size W W') : SG3 W0 B bp N v0 met vm os vs vo W' := s.tells (s.gr.keep hb) (FrmG.of_below hb bp bp vm) (Or.inl rfl)

theorem SG3.push {W0 : World} {B bp N : Nat} {v0 : Value} {met : List Nat} {vm : Value} {os : List (Int × List Int)} {vs : Nat → Value} {vo vo' : Value} {W W' : World} (s : SG3 W0 B bp N v0 met vm os vs vo W) (x : Int × List Int) (v : Value) (hr : W.ownsRow B 3 1 v x.2.length (wordCells x.2)) (hv : ∀ q, v.ownBlock = some q → W0.heap.size ≤ q ∧ vm.ownBlock ≠ some q ∧ vo.ownBlock ≠ some q)
    (hown : W'.ownsRow B 81 2 vo' (os.length + 1) (sobjCells os vs ++ [.int .i64 x.1, v])) (hgr : W.grownBy W' vo.ownBlock) (hat : vo'.ownBlock = vo.ownBlock ∨ ∃ q, vo'.ownBlock = some q ∧ W.heap.size ≤ q) :
    SG3 W0 B bp N v0 met vm (os ++ [x]) (fun i => if i = os.length then v else vs i) vo' W' := by
  obtain ⟨gos, gtape, gout, gsz, gblk⟩ := hgr
  have kb : ∀ q, q < W.heap.size → vo.ownBlock ≠ some q → W'.heap[q]? = W.heap[q]? := fun q hq hn => gblk q hq hn.symm
  have hlo := (owns_at' s.row).1
  have lp := s.lp
  have hfs := s.frm.size
  have nb : ∀ q, q < W0.heap.size → vo.ownBlock ≠ some q := fun q hq e => by have := s.o1 q e; omega
  have na : ∀ q, q < W.heap.size → vo.ownBlock ≠ some q → vo'.ownBlock ≠ some q := fun q hq h1 e => by
    rcases hat with h | ⟨g, h, hl⟩
    · exact h1 (h.symm.trans e)
    · rw [e] at h
      cases h
      omega
  have G : ∀ i, i < os.length → ((os ++ [x]).getD i (0, [])) = os.getD i (0, []) := fun i hi => by simp [List.getD, List.getElem?_append_left hi]
  have Gl : ((os ++ [x]).getD os.length (0, [])) = x := by simp [List.getD]
  refine ⟨s.gr.beside (fun q hq hor => kb q hq (fun e => ?_)), ?_, ?_, ?_, ?_, ?_, lp, s.mv, ⟨gos.trans s.frm.os, gtape.trans s.frm.tape, gout.trans s.frm.output, by omega, fun q hq h1 h2 h3 => (kb q (by omega) (nb q hq)).trans (s.frm.block q hq h1 h2 h3)⟩⟩
  · rcases hor with h | h
    · have := s.o1 q e
      omega
    · exact s.a1 q e h
  · rw [sobjCells_snoc os x vs (fun i => if i = os.length then v else vs i) v (fun i hi => if_neg (by omega)) (if_pos rfl), List.length_append, List.length_singleton]
    exact hown
  · intro i hi
    rw [List.length_append, List.length_singleton] at hi
    by_cases hl : i = os.length
    · subst hl
      rw [Gl, if_pos rfl]
      exact owns_of_block hr (fun q e => kb q ((owns_at hr).1 q e).2 (hv q e).2.2)
    · rw [G i (by omega), if_neg hl]
      have hi' : i < os.length := by omega
      exact owns_of_block (s.fld i hi') (fun q e => kb q ((owns_at (s.fld i hi')).1 q e).2 (s.ofl i hi' q e).2.2)
  · intro i hi q e
    rw [List.length_append, List.length_singleton] at hi
    by_cases hl : i = os.length
    · rw [if_pos hl] at e
      exact ⟨(hv q e).1, (hv q e).2.1, na q ((owns_at hr).1 q e).2 (hv q e).2.2⟩
    · rw [if_neg hl] at e
      have hi' : i < os.length := by omega
      exact ⟨(s.ofl i hi' q e).1, (s.ofl i hi' q e).2.1, na q ((owns_at (s.fld i hi')).1 q e).2 (s.ofl i hi' q e).2.2⟩
  · intro q e
    rcases hat with h | ⟨g, h, hl⟩
    · exact s.o1 q (h.symm.trans e)
    · rw [e] at h
      cases h
      omega
  · intro q e
    rcases hat with h | ⟨g, h, hl⟩
    · exact s.a1 q (h.symm.trans e)
    · rw [e] at h
      cases h
      intro e'
      have := (s.gr.own_lt e').2
      omega

end Go.Proofs.Ytnoobonlmfgfhaa
