/- The program's HeapGraph: heaps and roots that are not fit; what the loop keeps. -/
import Derived.Test.YtnoobonlmfgfhaaImplGraph
import Derived.Test.YtnoobonlmfgfhaaImplRoots
import Derived.Deep.Cut
namespace Go.Proofs.Ytnoobonlmfgfhaa
open Go.RowKit

theorem info_obj : (Try.prog.info? 81).map (fun i => (i.zero, i.size, i.bytes)) = some (some (.agg #[.int .i64 0, .slice none 0 0]), 2, 32) := by kernel_rfl

/-- The block of a function that has a heap. -/
theorem one_new (w : World) (v : Value) (h : HpN) : ∃ W0, w.alloc (.cells #[v, .int .i64 h.size, .int .i64 h.to, .int .i64 h.bottom, .int .i64 h.top, .int .i64 h.scan, .int .i64 h.fb, .int .i64 h.ft, .int .i64 h.flips, .int .i64 h.touched] 27) = W0 ∧ HeapBlk W0 w.heap.size v h ∧ Below w.heap.size w W0 :=
  ⟨_, rfl, (MapKept.heap_alloc w _).1, (Below.refl _ _).alloc (Nat.le_refl _) _⟩

set_option maxHeartbeats 2000000 in
set_option maxRecDepth 100000 in
theorem iGraph_notOk (b off cap N : Nat) (h : HpN) (rg n rc : Nat) (w : World)
    (HLy : Hid (∀ X, Below w.heap.size w X → Calls Try.prog 40 #[heapV (.slice (some ⟨b, off, none⟩) N cap) h] X fun e w' => e = .returned (.tuple #[noLay, .bool false]) ∧ Below X.heap.size X w')) :
    Calls Try.prog 29 #[heapV (.slice (some ⟨b, off, none⟩) N cap) h, .slice (some ⟨rg, 0, none⟩) n rc] w fun e w' => e = .returned (.tuple #[.slice none 0 0, .slice none 0 0, .bool false]) ∧ Below w.heap.size w w' := by
  obtain ⟨g1, g2, g3, g4, g5, g6, g7, g8, g9⟩ := h
  unfold heapV at *
  dsimp only at *
  obtain ⟨W0, hW0, hA, k2⟩ := one_new w (.slice (some ⟨b, off, none⟩) N cap) ⟨g1, g2, g3, g4, g5, g6, g7, g8, g9⟩
  dsimp only at hW0
  have HW0 := hid hW0
  have HK2 := hid k2
  clear hW0 hA k2
  go_enter Try.func29, Try.ntmps29
  go_wp2_with fail
  rw [HW0.out]
  refine (HLy.out _ HK2.out).mono ?_
  rintro e W1 ⟨rfl, hb1⟩
  unfold noLay layV
  dsimp only
  have k1 := HK2.out.trans (hb1.mono HK2.out.size)
  have HB6 := hid (k1.alloc k1.size (.cells #[.slice none 0 0, .int .i64 0, .int .i64 0, .int .i64 0, .int .i64 0, .int .i64 0, .int .i64 0, .int .i64 0, .int .i64 0, .int .i64 0, .slice none 0 0] 59))
  clear k1 hb1 HW0 HK2 HLy
  go_wp2_with fail
  exact bodyPost_ret (v := .tuple #[.slice none 0 0, .slice none 0 0, .bool false]) (by simp [results, Try.results29, go_sem]) rfl ⟨rfl, HB6.out⟩

set_option maxHeartbeats 2000000 in
set_option maxRecDepth 100000 in
theorem iGraph_noRoot (b off cap N : Nat) (h : HpN) (rg n rc : Nat) (w : World)
    (ws S : List Int)
    (HLy : Hid (∀ X, Below w.heap.size w X → Calls Try.prog 40 #[heapV (.slice (some ⟨b, off, none⟩) N cap) h] X fun e w' => ∃ gb, e = .returned (.tuple #[layV (.slice (some ⟨b, off, none⟩) N cap) h (.slice (some ⟨gb, 0, none⟩) N N), .bool true]) ∧ Hid (ISt b off gb N ws S w') ∧ Below X.heap.size X w'))
    (HRt : Hid (∀ (X : World) (gb : Nat), Below w.heap.size w X → ISt b off gb N ws S X → Calls Try.prog 46 #[layV (.slice (some ⟨b, off, none⟩) N cap) h (.slice (some ⟨gb, 0, none⟩) N N), .slice (some ⟨rg, 0, none⟩) n rc] X fun e w' => e = .returned (.bool false) ∧ Below X.heap.size X w')) :
    Calls Try.prog 29 #[heapV (.slice (some ⟨b, off, none⟩) N cap) h, .slice (some ⟨rg, 0, none⟩) n rc] w fun e w' => e = .returned (.tuple #[.slice none 0 0, .slice none 0 0, .bool false]) ∧ Below w.heap.size w w' := by
  obtain ⟨g1, g2, g3, g4, g5, g6, g7, g8, g9⟩ := h
  unfold heapV at *
  dsimp only at *
  obtain ⟨W0, hW0, hA, k2⟩ := one_new w (.slice (some ⟨b, off, none⟩) N cap) ⟨g1, g2, g3, g4, g5, g6, g7, g8, g9⟩
  dsimp only at hW0
  have HW0 := hid hW0
  have HK2 := hid k2
  clear hW0 hA k2
  go_enter Try.func29, Try.ntmps29
  go_wp2_with fail
  rw [HW0.out]
  refine (HLy.out _ HK2.out).mono ?_
  rintro e W1 ⟨gb, rfl, HI, hb1⟩
  unfold layV at *
  dsimp only at *
  have k1 := HK2.out.trans (hb1.mono HK2.out.size)
  have HB2 := hid (k1.alloc k1.size (.cells #[.slice (some ⟨b, off, none⟩) N cap, .int .i64 g1, .int .i64 g2, .int .i64 g3, .int .i64 g4, .int .i64 g5, .int .i64 g6, .int .i64 g7, .int .i64 g8, .int .i64 g9, .slice (some ⟨gb, 0, none⟩) N N] 59))
  have HI2 := hid (HI.out.kept ((Below.refl _ W1).alloc (Nat.le_refl _) (.cells #[.slice (some ⟨b, off, none⟩) N cap, .int .i64 g1, .int .i64 g2, .int .i64 g3, .int .i64 g4, .int .i64 g5, .int .i64 g6, .int .i64 g7, .int .i64 g8, .int .i64 g9, .slice (some ⟨gb, 0, none⟩) N N] 59)))
  clear k1 hb1 HW0 HK2 HLy HI
  go_wp2_with fail
  generalize W1.alloc (.cells #[.slice (some ⟨b, off, none⟩) N cap, .int .i64 g1, .int .i64 g2, .int .i64 g3, .int .i64 g4, .int .i64 g5, .int .i64 g6, .int .i64 g7, .int .i64 g8, .int .i64 g9, .slice (some ⟨gb, 0, none⟩) N N] 59) = W2 at *
  refine (HRt.out _ _ HB2.out HI2.out).mono ?_
  rintro e W6 ⟨rfl, hb6⟩
  have HB6 := hid (HB2.out.trans (hb6.mono HB2.out.size))
  clear hb6 HB2 HI2
  go_wp2_with fail
  exact bodyPost_ret (v := .tuple #[.slice none 0 0, .slice none 0 0, .bool false]) (by simp [results, Try.results29, go_sem]) rfl ⟨rfl, HB6.out⟩

/-- The cells of objects: kinds, and slices of their fields. -/
def objCells (os : List (Int × List Int)) (gs : Nat → Nat) : List Value := (List.range os.length).flatMap (fun i => [.int .i64 (os.getD i (0, [])).1, .slice (some ⟨gs i, 0, none⟩) (os.getD i (0, [])).2.length (os.getD i (0, [])).2.length])

theorem objCells_snoc (os : List (Int × List Int)) (x : Int × List Int) (gs gs' : Nat → Nat) (g : Nat) (hv : ∀ i, i < os.length → gs' i = gs i) (h : gs' os.length = g) : objCells (os ++ [x]) gs' = objCells os gs ++ [.int .i64 x.1, .slice (some ⟨g, 0, none⟩) x.2.length x.2.length] := by
  unfold objCells
  rw [List.length_append, List.length_singleton, List.range_succ, List.flatMap_append]
  congr 1
  · have e : ∀ i ∈ List.range os.length, [Value.int .i64 ((os ++ [x]).getD i (0, [])).1, Value.slice (some ⟨gs' i, 0, none⟩) ((os ++ [x]).getD i (0, [])).2.length ((os ++ [x]).getD i (0, [])).2.length] = [Value.int .i64 (os.getD i (0, [])).1, Value.slice (some ⟨gs i, 0, none⟩) (os.getD i (0, [])).2.length (os.getD i (0, [])).2.length] := fun i hi => by
      have hi' := List.mem_range.1 hi
      rw [hv i hi']
      simp [List.getD, List.getElem?_append_left hi']
    rw [List.flatMap_def, List.flatMap_def, List.map_congr_left e]
  · simp [h, List.getD]

/-- What the loop keeps: one who tells, the objects told, and all that lay there ahead of it. -/
structure GSt (W0 : World) (B bg bp N : Nat) (vw : Value) (h : HpN) (v0 : Value) (met : List Nat) (vm : Value) (os : List (Int × List Int)) (gs : Nat → Nat) (vo : Value) (W : World) : Prop where
  gph : Gph B bg bp N vw h met vm W
  row : W.ownsRow B 81 2 vo os.length (objCells os gs)
  fld : ∀ i, i < os.length → CellRow 3 W (gs i) (os.getD i (0, [])).2.length (intCells (os.getD i (0, [])).2)
  new : ∀ i, i < os.length → W0.heap.size ≤ gs i
  o1 : ∀ q, vo.ownBlock = some q → W0.heap.size ≤ q
  a1 : ∀ q, vo.ownBlock = some q → vm.ownBlock ≠ some q
  a2 : ∀ i, i < os.length → vm.ownBlock ≠ some (gs i) ∧ vo.ownBlock ≠ some (gs i)
  inj : ∀ i j, i < j → j < os.length → gs i ≠ gs j
  lg : bg < W0.heap.size
  lp : bp < W0.heap.size
  mv : MovedTo W0 v0 vm
  frm : FrmG W0 bg bp v0 W

theorem owns_of_block' {B : Nat} {e : TypeId} {sz : Nat} {W W' : World} {vm : Value} {n : Nat} {xs : List Value} (h : W.ownsRow B e sz vm n xs) (he : ∀ g, vm.ownBlock = some g → W'.heap[g]? = W.heap[g]?) : W'.ownsRow B e sz vm n xs := by
  obtain ⟨h0, ⟨rfl, h1⟩ | ⟨g, cap, cur, rfl, hB, hc, hr⟩⟩ := h
  · exact ⟨h0, Or.inl ⟨rfl, h1⟩⟩
  · exact ⟨h0, Or.inr ⟨g, cap, cur, rfl, hB, (he g (by simp [Value.ownBlock])).trans hc, hr⟩⟩

theorem owns_at' {B : Nat} {e : TypeId} {sz : Nat} {W : World} {vm : Value} {n : Nat} {xs : List Value} (h : W.ownsRow B e sz vm n xs) : (∀ g, vm.ownBlock = some g → B ≤ g ∧ g < W.heap.size) ∧ ∃ ad c, vm = .slice ad n c := by
  obtain ⟨-, ⟨rfl, h0⟩ | ⟨g, cap, cur, rfl, hB, hc, -⟩⟩ := h
  · exact ⟨fun g e => by simp [Value.ownBlock] at e, none, 0, by rw [h0]⟩
  · refine ⟨fun g' e => ?_, _, cap, rfl⟩
    simp [Value.ownBlock] at e
    subst e
    exact ⟨hB, heap_lt hc⟩

/-- New memory alone. -/
theorem GSt.below {W0 : World} {B bg bp N : Nat} {vw : Value} {h : HpN} {v0 : Value} {met : List Nat} {vm : Value} {os : List (Int × List Int)} {gs : Nat → Nat} {vo : Value} {W W' : World} (s : GSt W0 B bg bp N vw h v0 met vm os gs vo W) (hb : Below W.heap.size W W') : GSt W0 B bg bp N vw h v0 met vm os gs vo W' where
  gph := s.gph.keep hb
  row := owns_of_block' s.row (fun g e => hb.block g ((owns_at' s.row).1 g e).2)
  fld := fun i hi => (s.fld i hi).of_block (hb.block _ (s.fld i hi).lt)
  new := s.new
  o1 := s.o1
  a1 := s.a1
  a2 := s.a2
  inj := s.inj
  lg := s.lg
  lp := s.lp
  mv := s.mv
  frm := s.frm.trans s.mv (FrmG.of_below hb bg bp vm)

/-- A list is told. -/
theorem GSt.tells {W0 : World} {B bg bp N : Nat} {vw : Value} {h : HpN} {v0 : Value} {met met' : List Nat} {vm vm' : Value} {os : List (Int × List Int)} {gs : Nat → Nat} {vo : Value} {W W' : World} (s : GSt W0 B bg bp N vw h v0 met vm os gs vo W) (hg : Gph B bg bp N vw h met' vm' W') (hf : FrmG W bg bp vm W') (hm : MovedTo W vm vm') : GSt W0 B bg bp N vw h v0 met' vm' os gs vo W' := by
  have hap : ∀ q, q < W.heap.size → vm.ownBlock ≠ some q → vm'.ownBlock ≠ some q := fun q hq h1 e => by
    rcases hm with h | ⟨g, h, hl⟩
    · exact h1 (h.symm.trans e)
    · rw [e] at h
      cases h
      omega
  have hlo := (owns_at' s.row).1
  have lg := s.lg
  have lp := s.lp
  refine ⟨hg, owns_of_block' s.row (fun g e => hf.block g (hlo g e).2 ?_ ?_ (s.a1 g e)), fun i hi => (s.fld i hi).of_block (hf.block _ (s.fld i hi).lt ?_ ?_ (s.a2 i hi).1), s.new, s.o1, fun q e => hap q (hlo q e).2 (s.a1 q e), fun i hi => ⟨hap _ (s.fld i hi).lt (s.a2 i hi).1, (s.a2 i hi).2⟩, s.inj, s.lg, s.lp, MovedTo.trans s.frm.size s.mv hm, s.frm.trans s.mv hf⟩
  · have := s.o1 g e; omega
  · have := s.o1 g e; omega
  · have := s.new i hi; omega
  · have := s.new i hi; omega

/-- An object is put behind those that were told. -/
theorem GSt.push {W0 : World} {B bg bp N : Nat} {vw : Value} {h : HpN} {v0 : Value} {met : List Nat} {vm : Value} {os : List (Int × List Int)} {gs : Nat → Nat} {vo vo' : Value} {W W' : World} (s : GSt W0 B bg bp N vw h v0 met vm os gs vo W) (x : Int × List Int) (g : Nat) (hr : CellRow 3 W g x.2.length (intCells x.2)) (h0 : W0.heap.size ≤ g) (hgm : vm.ownBlock ≠ some g) (hgo : vo.ownBlock ≠ some g) (hgi : ∀ i, i < os.length → gs i ≠ g)
    (hown : W'.ownsRow B 81 2 vo' (os.length + 1) (objCells os gs ++ [.int .i64 x.1, .slice (some ⟨g, 0, none⟩) x.2.length x.2.length])) (hgr : W.grownBy W' vo.ownBlock) (hat : vo'.ownBlock = vo.ownBlock ∨ ∃ q, vo'.ownBlock = some q ∧ W.heap.size ≤ q) :
    GSt W0 B bg bp N vw h v0 met vm (os ++ [x]) (fun i => if i = os.length then g else gs i) vo' W' := by
  obtain ⟨gos, gtape, gout, gsz, gblk⟩ := hgr
  have kb : ∀ q, q < W.heap.size → vo.ownBlock ≠ some q → W'.heap[q]? = W.heap[q]? := fun q hq hn => gblk q hq hn.symm
  have hlo := (owns_at' s.row).1
  have lg := s.lg
  have lp := s.lp
  have hfs := s.frm.size
  have nb : ∀ q, q < W0.heap.size → vo.ownBlock ≠ some q := fun q hq e => by have := s.o1 q e; omega
  have na : ∀ q, q < W.heap.size → vo.ownBlock ≠ some q → vo'.ownBlock ≠ some q := fun q hq h1 e => by
    rcases hat with h | ⟨g, h, hl⟩
    · exact h1 (h.symm.trans e)
    · rw [e] at h
      cases h
      omega
  have nm : ∀ q, vm.ownBlock = some q → vo.ownBlock ≠ some q := fun q e e' => s.a1 q e' e
  have G : ∀ i, i < os.length → ((os ++ [x]).getD i (0, [])) = os.getD i (0, []) := fun i hi => by simp [List.getD, List.getElem?_append_left hi]
  have Gl : ((os ++ [x]).getD os.length (0, [])) = x := by simp [List.getD]
  refine ⟨⟨(kb bg (by omega) (nb bg lg)).trans s.gph.blk, s.gph.places.of_block (kb bp (by omega) (nb bp lp)), owns_of_block s.gph.row (fun q e => kb q (s.gph.own_lt e).2 (nm q e)), s.gph.ne, s.gph.n1, s.gph.n2, s.gph.b1, s.gph.b2⟩, ?_, ?_, ?_, ?_, ?_, ?_, ?_, lg, lp, s.mv, ⟨gos.trans s.frm.os, gtape.trans s.frm.tape, gout.trans s.frm.output, by omega, fun q hq h1 h2 h3 => (kb q (by omega) (nb q hq)).trans (s.frm.block q hq h1 h2 h3)⟩⟩
  · rw [objCells_snoc os x gs (fun i => if i = os.length then g else gs i) g (fun i hi => if_neg (by omega)) (if_pos rfl), List.length_append, List.length_singleton]
    exact hown
  · intro i hi
    rw [List.length_append, List.length_singleton] at hi
    by_cases hl : i = os.length
    · subst hl
      rw [Gl]
      rw [if_pos rfl]
      exact hr.of_block (kb g hr.lt hgo)
    · rw [G i (by omega)]
      rw [if_neg hl]
      have hi' : i < os.length := by omega
      exact (s.fld i hi').of_block (kb _ (s.fld i hi').lt (s.a2 i hi').2)
  · intro i hi
    rw [List.length_append, List.length_singleton] at hi
    split
    · exact h0
    · exact s.new i (by omega)
  · intro q e
    rcases hat with h | ⟨g, h, hl⟩
    · exact s.o1 q (h.symm.trans e)
    · rw [e] at h
      cases h
      omega
  · intro q e
    rcases hat with h | ⟨g, h, hl⟩
    · exact s.a1 q (h.symm.trans e)
    · rw [e] at h
      cases h
      intro e'
      have := (s.gph.own_lt e').2
      omega
  · intro i hi
    rw [List.length_append, List.length_singleton] at hi
    split
    · exact ⟨hgm, na g hr.lt hgo⟩
    · have hi' : i < os.length := by omega
      exact ⟨(s.a2 i hi').1, na _ (s.fld i hi').lt (s.a2 i hi').2⟩
  · intro i j hij hj
    rw [List.length_append, List.length_singleton] at hj
    rw [if_neg (show ¬ i = os.length by omega)]
    split
    · exact hgi i (by omega)
    · exact s.inj i j hij (by omega)
end Go.Proofs.Ytnoobonlmfgfhaa
