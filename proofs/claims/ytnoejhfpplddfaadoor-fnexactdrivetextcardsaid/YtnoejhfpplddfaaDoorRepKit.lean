/- Reports in memory: how many letters and numbers one holds, copies, comparisons of two that hold the same. -/
import Derived.Test.YtnoejhfpplddfaaDoorDecFull
namespace Go.Proofs.YtnoejhfpplddfaaDoor
open Go.RowKit

theorem sets2 {W : World} {b : Nat} {c : Array Value} {t : TypeId} (e : W.heap[b]? = some (.cells c t)) (i0 i1 : Nat) (x0 x1 : Value) :
    ∃ W' : World, ((W.setCell ⟨b, i0, none⟩ x0).setCell ⟨b, i1, none⟩ x1) = W' ∧ W'.heap[b]? = some (.cells ((c.setIfInBounds i0 x0).setIfInBounds i1 x1) t) ∧ (∀ B, B ≤ b → Below B W W') ∧ W.heap.size = W'.heap.size ∧ (∀ g, g ≠ b → W'.heap[g]? = W.heap[g]?) := by
  refine ⟨_, rfl, (set_cells (set_cells e i0 x0) i1 x1), (fun B hB => (((Below.refl B W).setCell hB _).setCell hB _)), (by simp [World.setCell]), (fun g hg => ?_)⟩
  have hh : ∀ (X : World) (i : Nat) (x : Value), (X.setCell ⟨b, i, none⟩ x).heap[g]? = X.heap[g]? := fun X i x => Below.heap_setCell X ⟨b, i, none⟩ x g hg
  simp only [hh]

theorem sets3 {W : World} {b : Nat} {c : Array Value} {t : TypeId} (e : W.heap[b]? = some (.cells c t)) (i0 i1 i2 : Nat) (x0 x1 x2 : Value) :
    ∃ W' : World, (((W.setCell ⟨b, i0, none⟩ x0).setCell ⟨b, i1, none⟩ x1).setCell ⟨b, i2, none⟩ x2) = W' ∧ W'.heap[b]? = some (.cells (((c.setIfInBounds i0 x0).setIfInBounds i1 x1).setIfInBounds i2 x2) t) ∧ (∀ B, B ≤ b → Below B W W') ∧ W.heap.size = W'.heap.size ∧ (∀ g, g ≠ b → W'.heap[g]? = W.heap[g]?) := by
  refine ⟨_, rfl, (set_cells (set_cells (set_cells e i0 x0) i1 x1) i2 x2), (fun B hB => ((((Below.refl B W).setCell hB _).setCell hB _).setCell hB _)), (by simp [World.setCell]), (fun g hg => ?_)⟩
  have hh : ∀ (X : World) (i : Nat) (x : Value), (X.setCell ⟨b, i, none⟩ x).heap[g]? = X.heap[g]? := fun X i x => Below.heap_setCell X ⟨b, i, none⟩ x g hg
  simp only [hh]

theorem sets4 {W : World} {b : Nat} {c : Array Value} {t : TypeId} (e : W.heap[b]? = some (.cells c t)) (i0 i1 i2 i3 : Nat) (x0 x1 x2 x3 : Value) :
    ∃ W' : World, ((((W.setCell ⟨b, i0, none⟩ x0).setCell ⟨b, i1, none⟩ x1).setCell ⟨b, i2, none⟩ x2).setCell ⟨b, i3, none⟩ x3) = W' ∧ W'.heap[b]? = some (.cells ((((c.setIfInBounds i0 x0).setIfInBounds i1 x1).setIfInBounds i2 x2).setIfInBounds i3 x3) t) ∧ (∀ B, B ≤ b → Below B W W') ∧ W.heap.size = W'.heap.size ∧ (∀ g, g ≠ b → W'.heap[g]? = W.heap[g]?) := by
  refine ⟨_, rfl, (set_cells (set_cells (set_cells (set_cells e i0 x0) i1 x1) i2 x2) i3 x3), (fun B hB => (((((Below.refl B W).setCell hB _).setCell hB _).setCell hB _).setCell hB _)), (by simp [World.setCell]), (fun g hg => ?_)⟩
  have hh : ∀ (X : World) (i : Nat) (x : Value), (X.setCell ⟨b, i, none⟩ x).heap[g]? = X.heap[g]? := fun X i x => Below.heap_setCell X ⟨b, i, none⟩ x g hg
  simp only [hh]

theorem sets5 {W : World} {b : Nat} {c : Array Value} {t : TypeId} (e : W.heap[b]? = some (.cells c t)) (i0 i1 i2 i3 i4 : Nat) (x0 x1 x2 x3 x4 : Value) :
    ∃ W' : World, (((((W.setCell ⟨b, i0, none⟩ x0).setCell ⟨b, i1, none⟩ x1).setCell ⟨b, i2, none⟩ x2).setCell ⟨b, i3, none⟩ x3).setCell ⟨b, i4, none⟩ x4) = W' ∧ W'.heap[b]? = some (.cells (((((c.setIfInBounds i0 x0).setIfInBounds i1 x1).setIfInBounds i2 x2).setIfInBounds i3 x3).setIfInBounds i4 x4) t) ∧ (∀ B, B ≤ b → Below B W W') ∧ W.heap.size = W'.heap.size ∧ (∀ g, g ≠ b → W'.heap[g]? = W.heap[g]?) := by
  refine ⟨_, rfl, (set_cells (set_cells (set_cells (set_cells (set_cells e i0 x0) i1 x1) i2 x2) i3 x3) i4 x4), (fun B hB => ((((((Below.refl B W).setCell hB _).setCell hB _).setCell hB _).setCell hB _).setCell hB _)), (by simp [World.setCell]), (fun g hg => ?_)⟩
  have hh : ∀ (X : World) (i : Nat) (x : Value), (X.setCell ⟨b, i, none⟩ x).heap[g]? = X.heap[g]? := fun X i x => Below.heap_setCell X ⟨b, i, none⟩ x g hg
  simp only [hh]

theorem sets11 {W : World} {b : Nat} {c : Array Value} {t : TypeId} (e : W.heap[b]? = some (.cells c t)) (i0 i1 i2 i3 i4 i5 i6 i7 i8 i9 i10 : Nat) (x0 x1 x2 x3 x4 x5 x6 x7 x8 x9 x10 : Value) :
    ∃ W' : World, (((((((((((W.setCell ⟨b, i0, none⟩ x0).setCell ⟨b, i1, none⟩ x1).setCell ⟨b, i2, none⟩ x2).setCell ⟨b, i3, none⟩ x3).setCell ⟨b, i4, none⟩ x4).setCell ⟨b, i5, none⟩ x5).setCell ⟨b, i6, none⟩ x6).setCell ⟨b, i7, none⟩ x7).setCell ⟨b, i8, none⟩ x8).setCell ⟨b, i9, none⟩ x9).setCell ⟨b, i10, none⟩ x10) = W' ∧ W'.heap[b]? = some (.cells (((((((((((c.setIfInBounds i0 x0).setIfInBounds i1 x1).setIfInBounds i2 x2).setIfInBounds i3 x3).setIfInBounds i4 x4).setIfInBounds i5 x5).setIfInBounds i6 x6).setIfInBounds i7 x7).setIfInBounds i8 x8).setIfInBounds i9 x9).setIfInBounds i10 x10) t) ∧ (∀ B, B ≤ b → Below B W W') ∧ W.heap.size = W'.heap.size ∧ (∀ g, g ≠ b → W'.heap[g]? = W.heap[g]?) := by
  refine ⟨_, rfl, (set_cells (set_cells (set_cells (set_cells (set_cells (set_cells (set_cells (set_cells (set_cells (set_cells (set_cells e i0 x0) i1 x1) i2 x2) i3 x3) i4 x4) i5 x5) i6 x6) i7 x7) i8 x8) i9 x9) i10 x10), (fun B hB => ((((((((((((Below.refl B W).setCell hB _).setCell hB _).setCell hB _).setCell hB _).setCell hB _).setCell hB _).setCell hB _).setCell hB _).setCell hB _).setCell hB _).setCell hB _)), (by simp [World.setCell]), (fun g hg => ?_)⟩
  have hh : ∀ (X : World) (i : Nat) (x : Value), (X.setCell ⟨b, i, none⟩ x).heap[g]? = X.heap[g]? := fun X i x => Below.heap_setCell X ⟨b, i, none⟩ x g hg
  simp only [hh]

theorem SliceR.at_block {t : TypeId} {sz B g n c : Nat} {W W' : World} {F : Nat → Value} (h : SliceR t sz B W (.slice (some ⟨g, 0, none⟩) n c) n F) (e : W'.heap[g]? = W.heap[g]?) : SliceR t sz B W' (.slice (some ⟨g, 0, none⟩) n c) n F := by
  obtain ⟨ad, cap, e1, hh⟩ := h
  refine ⟨ad, cap, e1, hh.imp id ?_⟩
  rintro ⟨g', rfl, hB, hr⟩
  cases e1
  exact ⟨_, rfl, hB, hr.of_block e⟩

theorem two_kept {w w2 : World} {o o' : Obj} (h : Below ((w.alloc o).alloc o').heap.size ((w.alloc o).alloc o') w2) : w2.heap[w.heap.size]? = some o ∧ w2.heap[w.heap.size + 1]? = some o' ∧ Below w.heap.size w w2 := by
  have k1 : ∀ (x : World) (o : Obj), (x.alloc o).heap.size = x.heap.size + 1 := fun x o => by simp
  have e2 := (MapKept.heap_alloc (w.alloc o) o').1
  have e1 := (MapKept.heap_alloc w o).1
  rw [k1] at e2
  have b2 := (Below.refl (w.alloc o).heap.size (w.alloc o)).alloc (Nat.le_refl _) o'
  refine ⟨(h.block w.heap.size (by simp [k1]; omega)).trans ?_, (h.block (w.heap.size + 1) (by simp [k1])).trans e2, (((Below.refl w.heap.size w).alloc (Nat.le_refl _) o).alloc (by simp) o').trans (h.mono (by simp [k1]; omega))⟩
  rw [b2.block _ (by simp [k1])]
  exact e1

theorem alloc_size (w : World) (o : Obj) : (w.alloc o).heap.size = w.heap.size + 1 := by simp

theorem below3 (w : World) (o o' o'' : Obj) : Below w.heap.size w (((w.alloc o).alloc o').alloc o'') := (((Below.refl w.heap.size w).alloc (Nat.le_refl _) _).alloc (by simp) _).alloc (by simp; omega) _

theorem three_kept {w w2 : World} {o o' o'' : Obj} (h : Below (((w.alloc o).alloc o').alloc o'').heap.size (((w.alloc o).alloc o').alloc o'') w2) : w2.heap[w.heap.size]? = some o ∧ w2.heap[w.heap.size + 1]? = some o' ∧ w2.heap[w.heap.size + 1 + 1]? = some o'' ∧ Below w.heap.size w w2 := by
  have k1 : ∀ (x : World) (o : Obj), (x.alloc o).heap.size = x.heap.size + 1 := fun x o => by simp
  have h1 := h.block w.heap.size (by simp [k1]; omega)
  have h2 := h.block (w.heap.size + 1) (by simp [k1])
  have h3 := h.block (w.heap.size + 1 + 1) (by simp [k1])
  have e3 := (MapKept.heap_alloc ((w.alloc o).alloc o') o'').1
  have e2 := (MapKept.heap_alloc (w.alloc o) o').1
  have e1 := (MapKept.heap_alloc w o).1
  rw [k1, k1] at e3
  rw [k1] at e2
  have b3 := (Below.refl ((w.alloc o).alloc o').heap.size ((w.alloc o).alloc o')).alloc (Nat.le_refl _) o''
  have b2 := (Below.refl (w.alloc o).heap.size (w.alloc o)).alloc (Nat.le_refl _) o'
  refine ⟨h1.trans ?_, h2.trans ?_, h3.trans e3, ?_⟩
  · rw [b3.block _ (by simp [k1]; omega), b2.block _ (by simp [k1])]
    exact e1
  · rw [b3.block _ (by simp [k1])]
    exact e2
  · exact ((((Below.refl w.heap.size w).alloc (Nat.le_refl _) o).alloc (by simp) o').alloc (by simp; omega) o'').trans (h.mono (by simp [k1]; omega))

/-- What a report holds beside its numbers printed. -/
structure RpN where
  fc : Int
  fa : Int
  ty : ByteArray
  cd : Int
  ins : Int
  en : Int
  va : ByteArray
  st : Int
  fl : Int
  to : Int

def repV (v : Value) (r : RpN) : Value := .agg #[.int .i64 r.fc, .int .i64 r.fa, .string r.ty, .int .i64 r.cd, .int .i64 r.ins, .int .i64 r.en, v, .string r.va, .int .i64 r.st, .int .i64 r.fl, .int .i64 r.to]

set_option maxRecDepth 100000 in
theorem toFault_calls (x y : Int) (w : World) : Calls Tryd.prog 11 #[.agg #[.int .i64 x, .int .i64 y]] w fun e w' => e = .returned (.agg #[.int .i64 x, .int .i64 y]) ∧ Below w.heap.size w w' := by
  go_enter Tryd.func11, Tryd.ntmps11
  go_wp2_with fail
  refine bodyPost_ret (v := .agg #[.int .i64 x, .int .i64 y]) (by simp [results, Tryd.results11, go_sem]) rfl ⟨rfl, ?_⟩
  exact below3 w _ _ _

set_option maxRecDepth 100000 in
theorem eqFault_calls (x y : Int) (w : World) : Calls Tryd.prog 17 #[.agg #[.int .i64 x, .int .i64 y], .agg #[.int .i64 x, .int .i64 y]] w fun e w' => e = .returned (.bool true) ∧ Below w.heap.size w w' := by
  go_enter Tryd.func17, Tryd.ntmps17
  go_wp2_with fail
  go_ret
  exact ⟨rfl, ((Below.refl _ _).alloc (Nat.le_refl _) _).alloc (by simp) _⟩

set_option maxRecDepth 100000 in
theorem toStats_calls (x y : Int) (w : World) : Calls Tryd.prog 13 #[.agg #[.int .i64 x, .int .i64 y]] w fun e w' => e = .returned (.agg #[.int .i64 x, .int .i64 y]) ∧ Below w.heap.size w w' := by
  go_enter Tryd.func13, Tryd.ntmps13
  go_wp2_with fail
  refine bodyPost_ret (v := .agg #[.int .i64 x, .int .i64 y]) (by simp [results, Tryd.results13, go_sem]) rfl ⟨rfl, ?_⟩
  exact below3 w _ _ _

set_option maxRecDepth 100000 in
theorem eqStats_calls (x y : Int) (w : World) : Calls Tryd.prog 19 #[.agg #[.int .i64 x, .int .i64 y], .agg #[.int .i64 x, .int .i64 y]] w fun e w' => e = .returned (.bool true) ∧ Below w.heap.size w w' := by
  go_enter Tryd.func19, Tryd.ntmps19
  go_wp2_with fail
  go_ret
  exact ⟨rfl, ((Below.refl _ _).alloc (Nat.le_refl _) _).alloc (by simp) _⟩

set_option maxHeartbeats 1000000 in
set_option maxRecDepth 100000 in
theorem toResult_calls {v : Value} {bs : List Int} (en st : Int) (va : ByteArray) (w : World) (hv : IntSlice w v bs) (hm : bs.length ≤ 1048576) :
    Calls Tryd.prog 12 #[.agg #[.int .i64 en, v, .string va, .int .i64 st]] w fun e w' => (∃ g, e = .returned (.agg #[.int .i64 en, .slice (some ⟨g, 0, none⟩) bs.length bs.length, .string va, .int .i64 st]) ∧ SliceR 3 1 w.heap.size w' (.slice (some ⟨g, 0, none⟩) bs.length bs.length) bs.length (intCells bs)) ∧ Below w.heap.size w w' := by
  have HV := hid hv
  have HM := hid hm
  clear hm
  obtain ⟨ad, cap, rfl, _⟩ := hv
  go_enter Tryd.func12, Tryd.ntmps12
  go_wp2_with fail
  refine (toIntS_any _ (HV.out.below (below3 w _ _ _)) HM.out).mono ?_
  rintro e W1 ⟨⟨rfl, hsl⟩, hb1⟩
  obtain ⟨eA, eR, eO, hbw⟩ := three_kept hb1
  have HSl := hid (hsl.mono (below3 w _ _ _).size)
  have HB := hid hbw
  have HeR := hid eR
  have HeO := hid eO
  obtain ⟨gn, hgn⟩ : ∃ gn, w.heap.size + 1 + 1 + 1 = gn := ⟨_, rfl⟩
  simp only [alloc_size, hgn] at HSl ⊢
  have a0 := cell_of_heap eA 0
  have a1 := cell_of_heap eA 1
  have a2 := cell_of_heap eA 2
  have a3 := cell_of_heap eA 3
  simp at a0 a1 a2 a3
  have o0 := cell_of_heap eO 0
  have o1 := cell_of_heap eO 1
  have o2 := cell_of_heap eO 2
  have o3 := cell_of_heap eO 3
  have fo0 := frozen_of_heap eO 0
  have fo1 := frozen_of_heap eO 1
  have fo2 := frozen_of_heap eO 2
  have fo3 := frozen_of_heap eO 3
  simp at o0 o1 o2 o3
  have r0 := cell_of_heap eR 0
  have r1 := cell_of_heap eR 1
  have r2 := cell_of_heap eR 2
  have r3 := cell_of_heap eR 3
  have fr0 := frozen_of_heap eR 0
  have fr1 := frozen_of_heap eR 1
  have fr2 := frozen_of_heap eR 2
  have fr3 := frozen_of_heap eR 3
  simp at r0 r1 r2 r3
  have hgl : w.heap.size + 1 + 1 < gn := by omega
  clear eA eR eO hbw hb1 hsl HV hgn
  go_wp2_with fail
  obtain ⟨W2, hW2, -, hb2, -, ho2⟩ := sets3 HeO.out 1 2 3 (.slice (some ⟨gn, 0, none⟩) bs.length bs.length) (.string va) (.int .i64 st)
  rw [hW2]
  obtain ⟨W3, hW3, eF, hb3, -, ho3⟩ := sets4 ((ho2 (w.heap.size + 1) (by omega)).trans HeR.out) 0 1 2 3 (.int .i64 en) (.slice (some ⟨gn, 0, none⟩) bs.length bs.length) (.string va) (.int .i64 st)
  rw [hW3]
  have d0 := cell_of_heap eF 0
  have d1 := cell_of_heap eF 1
  have d2 := cell_of_heap eF 2
  have d3 := cell_of_heap eF 3
  simp at d0 d1 d2 d3
  refine bodyPost_ret (v := .agg #[.int .i64 en, .slice (some ⟨gn, 0, none⟩) bs.length bs.length, .string va, .int .i64 st]) (by simp [results, Tryd.results12, go_sem, d0, d1, d2, d3]) rfl ⟨⟨gn, rfl, ?_⟩, ?_⟩
  · exact HSl.out.at_block ((ho3 gn (by omega)).trans (ho2 gn (by omega)))
  · exact (HB.out.trans (hb2 _ (by omega))).trans (hb3 _ (by omega))

set_option maxHeartbeats 1000000 in
set_option maxRecDepth 100000 in
theorem eqResult_calls {v v' : Value} {bs : List Int} (en st : Int) (va : ByteArray) (w : World) (hm : bs.length ≤ 1048576) (h : IntSlice w v bs) (h' : IntSlice w v' bs) :
    Calls Tryd.prog 18 #[.agg #[.int .i64 en, v, .string va, .int .i64 st], .agg #[.int .i64 en, v', .string va, .int .i64 st]] w fun e w' => e = .returned (.bool true) ∧ Below w.heap.size w w' := by
  have HE := hid (fun (X : World) (hX : Below w.heap.size w X) => eqIntS_any X hm (h.below hX) (h'.below hX))
  obtain ⟨ad, cap, rfl, _⟩ := h
  obtain ⟨ad', cap', rfl, _⟩ := h'
  clear hm
  have b2 := ((Below.refl w.heap.size w).alloc (Nat.le_refl _) (.cells #[.int .i64 en, .slice ad bs.length cap, .string va, .int .i64 st] 34)).alloc (by simp) (.cells #[.int .i64 en, .slice ad' bs.length cap', .string va, .int .i64 st] 34)
  have HB := hid b2
  clear b2
  go_enter Tryd.func18, Tryd.ntmps18
  go_wp2_with fail
  refine (HE.out _ HB.out).mono ?_
  rintro e W1 ⟨rfl, hb1⟩
  obtain ⟨eA, eB, hbw⟩ := two_kept hb1
  have a0 := cell_of_heap eA 0
  have a1 := cell_of_heap eA 1
  have a2 := cell_of_heap eA 2
  have a3 := cell_of_heap eA 3
  simp at a0 a1 a2 a3
  have b0 := cell_of_heap eB 0
  have b1 := cell_of_heap eB 1
  have b2 := cell_of_heap eB 2
  have b3 := cell_of_heap eB 3
  simp at b0 b1 b2 b3
  have HBw := hid hbw
  clear eA eB hbw hb1 HB HE
  go_wp2_with fail
  go_ret
  exact ⟨rfl, HBw.out⟩

set_option maxHeartbeats 2000000 in
set_option maxRecDepth 100000 in
theorem toReport_calls {v : Value} {bs : List Int} (r : RpN) (w : World) (hv : IntSlice w v bs) (hm : bs.length ≤ 1048576) :
    Calls Tryd.prog 6 #[repV v r] w fun e w' => (∃ g, e = .returned (repV (.slice (some ⟨g, 0, none⟩) bs.length bs.length) r) ∧ SliceR 3 1 w.heap.size w' (.slice (some ⟨g, 0, none⟩) bs.length bs.length) bs.length (intCells bs)) ∧ Below w.heap.size w w' := by
  have HV := hid hv
  have HM := hid hm
  clear hm
  obtain ⟨ad, cap, rfl, _⟩ := hv
  obtain ⟨fc, fa, ty, cd, ins, en, va, st, fl, to⟩ := r
  unfold repV
  dsimp only
  go_enter Tryd.func6, Tryd.ntmps6
  go_wp2_with fail
  refine (toFault_calls fc fa _).mono ?_
  rintro e W1 ⟨rfl, hb1⟩
  obtain ⟨eA, eR, eO, hbw⟩ := three_kept hb1
  have HB1 := hid hbw
  have HA1 := hid eA
  have HR1 := hid eR
  have HO1 := hid eO
  have a0 := cell_of_heap eA 0
  have a1 := cell_of_heap eA 1
  have a2 := cell_of_heap eA 2
  have a3 := cell_of_heap eA 3
  have a4 := cell_of_heap eA 4
  have a5 := cell_of_heap eA 5
  have a6 := cell_of_heap eA 6
  have a7 := cell_of_heap eA 7
  have a8 := cell_of_heap eA 8
  have a9 := cell_of_heap eA 9
  have a10 := cell_of_heap eA 10
  simp at a0 a1 a2 a3 a4 a5 a6 a7 a8 a9 a10
  have o0 := cell_of_heap eO 0
  have o1 := cell_of_heap eO 1
  have o2 := cell_of_heap eO 2
  have o3 := cell_of_heap eO 3
  have o4 := cell_of_heap eO 4
  have o5 := cell_of_heap eO 5
  have o6 := cell_of_heap eO 6
  have o7 := cell_of_heap eO 7
  have o8 := cell_of_heap eO 8
  have o9 := cell_of_heap eO 9
  have o10 := cell_of_heap eO 10
  have fo0 := frozen_of_heap eO 0
  have fo1 := frozen_of_heap eO 1
  have fo2 := frozen_of_heap eO 2
  have fo3 := frozen_of_heap eO 3
  have fo4 := frozen_of_heap eO 4
  have fo5 := frozen_of_heap eO 5
  have fo6 := frozen_of_heap eO 6
  have fo7 := frozen_of_heap eO 7
  have fo8 := frozen_of_heap eO 8
  have fo9 := frozen_of_heap eO 9
  have fo10 := frozen_of_heap eO 10
  simp at o0 o1 o2 o3 o4 o5 o6 o7 o8 o9 o10
  have hs1 : w.heap.size + 1 + 1 < W1.heap.size := heap_lt eO
  clear eA eR eO hbw hb1
  go_wp2_with fail
  obtain ⟨W2, hW2, eO2, hb2, hs2, ho2⟩ := sets5 HO1.out 0 1 2 3 4 (.int .i64 fc) (.int .i64 fa) (.string ty) (.int .i64 cd) (.int .i64 ins)
  rw [hW2]
  replace eO2 : W2.heap[w.heap.size + 1 + 1]? = some (.cells #[.int .i64 fc, .int .i64 fa, .string ty, .int .i64 cd, .int .i64 ins, .int .i64 0, .slice none 0 0, .string ⟨#[]⟩, .int .i64 0, .int .i64 0, .int .i64 0] 37) := by simpa using eO2
  have HB2 := hid (HB1.out.trans (hb2 _ (by omega)))
  have HA2 := hid ((ho2 w.heap.size (by omega)).trans HA1.out)
  have HR2 := hid ((ho2 (w.heap.size + 1) (by omega)).trans HR1.out)
  have HO2 := hid eO2
  clear hW2 eO2 hb2 ho2 HB1 HA1 HR1 HO1 a0 o0 fo0 a1 o1 fo1 a2 o2 fo2 a3 o3 fo3 a4 o4 fo4 a5 o5 fo5 a6 o6 fo6 a7 o7 fo7 a8 o8 fo8 a9 o9 fo9 a10 o10 fo10
  refine (toResult_calls en st va W2 (HV.out.below HB2.out) HM.out).mono ?_
  rintro e W3 ⟨⟨g, rfl, hsl⟩, hb3⟩
  have eA := (hb3.block _ (heap_lt HA2.out)).trans HA2.out
  have eO := (hb3.block _ (heap_lt HO2.out)).trans HO2.out
  have HB3 := hid (HB2.out.trans (hb3.mono HB2.out.size))
  have HA3 := hid eA
  have HO3 := hid eO
  have HR3 := hid ((hb3.block _ (heap_lt HR2.out)).trans HR2.out)
  have hg3 : w.heap.size + 1 + 1 < g ∨ bs.length = 0 := by
    by_cases h0 : bs.length = 0
    · exact Or.inr h0
    · obtain ⟨g', e, hB, -⟩ := hsl.block h0
      have e' : g = g' := by simpa [Value.ownBlock] using e
      subst e'
      exact Or.inl (by have := heap_lt HO2.out; omega)
  have HSl := hid (hsl.mono HB2.out.size)
  have a0 := cell_of_heap eA 0
  have a1 := cell_of_heap eA 1
  have a2 := cell_of_heap eA 2
  have a3 := cell_of_heap eA 3
  have a4 := cell_of_heap eA 4
  have a5 := cell_of_heap eA 5
  have a6 := cell_of_heap eA 6
  have a7 := cell_of_heap eA 7
  have a8 := cell_of_heap eA 8
  have a9 := cell_of_heap eA 9
  have a10 := cell_of_heap eA 10
  simp at a0 a1 a2 a3 a4 a5 a6 a7 a8 a9 a10
  have o0 := cell_of_heap eO 0
  have o1 := cell_of_heap eO 1
  have o2 := cell_of_heap eO 2
  have o3 := cell_of_heap eO 3
  have o4 := cell_of_heap eO 4
  have o5 := cell_of_heap eO 5
  have o6 := cell_of_heap eO 6
  have o7 := cell_of_heap eO 7
  have o8 := cell_of_heap eO 8
  have o9 := cell_of_heap eO 9
  have o10 := cell_of_heap eO 10
  have fo0 := frozen_of_heap eO 0
  have fo1 := frozen_of_heap eO 1
  have fo2 := frozen_of_heap eO 2
  have fo3 := frozen_of_heap eO 3
  have fo4 := frozen_of_heap eO 4
  have fo5 := frozen_of_heap eO 5
  have fo6 := frozen_of_heap eO 6
  have fo7 := frozen_of_heap eO 7
  have fo8 := frozen_of_heap eO 8
  have fo9 := frozen_of_heap eO 9
  have fo10 := frozen_of_heap eO 10
  simp at o0 o1 o2 o3 o4 o5 o6 o7 o8 o9 o10
  clear eA eO hb3 hsl HB2 HA2 HO2 HR2 HV
  go_wp2_with fail
  obtain ⟨W4, hW4, eO4, hb4, hs4, ho4⟩ := sets4 HO3.out 5 6 7 8 (.int .i64 en) (.slice (some ⟨g, 0, none⟩) bs.length bs.length) (.string va) (.int .i64 st)
  rw [hW4]
  replace eO4 : W4.heap[w.heap.size + 1 + 1]? = some (.cells #[.int .i64 fc, .int .i64 fa, .string ty, .int .i64 cd, .int .i64 ins, .int .i64 en, (.slice (some ⟨g, 0, none⟩) bs.length bs.length), .string va, .int .i64 st, .int .i64 0, .int .i64 0] 37) := by simpa using eO4
  have HB4 := hid (HB3.out.trans (hb4 _ (by omega)))
  have HA4 := hid ((ho4 w.heap.size (by omega)).trans HA3.out)
  have HR4 := hid ((ho4 (w.heap.size + 1) (by omega)).trans HR3.out)
  have HO4 := hid eO4
  have HSl4 : Hid (SliceR 3 1 w.heap.size W4 (.slice (some ⟨g, 0, none⟩) bs.length bs.length) bs.length (intCells bs)) := by
    rcases hg3 with h | h
    · exact HSl.out.at_block (ho4 g (by omega))
    · exact ⟨_, _, rfl, Or.inl h⟩
  clear hW4 eO4 hb4 ho4 HB3 HA3 HR3 HO3 HSl a0 o0 fo0 a1 o1 fo1 a2 o2 fo2 a3 o3 fo3 a4 o4 fo4 a5 o5 fo5 a6 o6 fo6 a7 o7 fo7 a8 o8 fo8 a9 o9 fo9 a10 o10 fo10
  refine (toStats_calls fl to W4).mono ?_
  rintro e W5 ⟨rfl, hb5⟩
  have eO := (hb5.block _ (heap_lt HO4.out)).trans HO4.out
  have eR := (hb5.block _ (heap_lt HR4.out)).trans HR4.out
  have HB5 := hid (HB4.out.trans (hb5.mono HB4.out.size))
  have HO5 := hid eO
  have HR5 := hid eR
  have HSl5 := hid (HSl4.out.below hb5)
  have o0 := cell_of_heap eO 0
  have o1 := cell_of_heap eO 1
  have o2 := cell_of_heap eO 2
  have o3 := cell_of_heap eO 3
  have o4 := cell_of_heap eO 4
  have o5 := cell_of_heap eO 5
  have o6 := cell_of_heap eO 6
  have o7 := cell_of_heap eO 7
  have o8 := cell_of_heap eO 8
  have o9 := cell_of_heap eO 9
  have o10 := cell_of_heap eO 10
  have fo0 := frozen_of_heap eO 0
  have fo1 := frozen_of_heap eO 1
  have fo2 := frozen_of_heap eO 2
  have fo3 := frozen_of_heap eO 3
  have fo4 := frozen_of_heap eO 4
  have fo5 := frozen_of_heap eO 5
  have fo6 := frozen_of_heap eO 6
  have fo7 := frozen_of_heap eO 7
  have fo8 := frozen_of_heap eO 8
  have fo9 := frozen_of_heap eO 9
  have fo10 := frozen_of_heap eO 10
  simp at o0 o1 o2 o3 o4 o5 o6 o7 o8 o9 o10
  have r0 := cell_of_heap eR 0
  have r1 := cell_of_heap eR 1
  have r2 := cell_of_heap eR 2
  have r3 := cell_of_heap eR 3
  have r4 := cell_of_heap eR 4
  have r5 := cell_of_heap eR 5
  have r6 := cell_of_heap eR 6
  have r7 := cell_of_heap eR 7
  have r8 := cell_of_heap eR 8
  have r9 := cell_of_heap eR 9
  have r10 := cell_of_heap eR 10
  have fr0 := frozen_of_heap eR 0
  have fr1 := frozen_of_heap eR 1
  have fr2 := frozen_of_heap eR 2
  have fr3 := frozen_of_heap eR 3
  have fr4 := frozen_of_heap eR 4
  have fr5 := frozen_of_heap eR 5
  have fr6 := frozen_of_heap eR 6
  have fr7 := frozen_of_heap eR 7
  have fr8 := frozen_of_heap eR 8
  have fr9 := frozen_of_heap eR 9
  have fr10 := frozen_of_heap eR 10
  simp at r0 r1 r2 r3 r4 r5 r6 r7 r8 r9 r10
  clear eO eR hb5 HB4 HA4 HO4 HR4 HSl4
  go_wp2_with fail
  obtain ⟨W6, hW6, -, hb6, -, ho6⟩ := sets2 HO5.out 9 10 (.int .i64 fl) (.int .i64 to)
  rw [hW6]
  obtain ⟨W7, hW7, eF, hb7, -, ho7⟩ := sets11 ((ho6 (w.heap.size + 1) (by omega)).trans HR5.out) 0 1 2 3 4 5 6 7 8 9 10 (.int .i64 fc) (.int .i64 fa) (.string ty) (.int .i64 cd) (.int .i64 ins) (.int .i64 en) (.slice (some ⟨g, 0, none⟩) bs.length bs.length) (.string va) (.int .i64 st) (.int .i64 fl) (.int .i64 to)
  rw [hW7]
  have d0 := cell_of_heap eF 0
  have d1 := cell_of_heap eF 1
  have d2 := cell_of_heap eF 2
  have d3 := cell_of_heap eF 3
  have d4 := cell_of_heap eF 4
  have d5 := cell_of_heap eF 5
  have d6 := cell_of_heap eF 6
  have d7 := cell_of_heap eF 7
  have d8 := cell_of_heap eF 8
  have d9 := cell_of_heap eF 9
  have d10 := cell_of_heap eF 10
  simp at d0 d1 d2 d3 d4 d5 d6 d7 d8 d9 d10
  refine bodyPost_ret (v := .agg #[.int .i64 fc, .int .i64 fa, .string ty, .int .i64 cd, .int .i64 ins, .int .i64 en, (.slice (some ⟨g, 0, none⟩) bs.length bs.length), .string va, .int .i64 st, .int .i64 fl, .int .i64 to]) (by simp [results, Tryd.results6, go_sem, d0, d1, d2, d3, d4, d5, d6, d7, d8, d9, d10]) rfl ⟨⟨g, rfl, ?_⟩, ?_⟩
  · rcases hg3 with h | h
    · exact HSl5.out.at_block ((ho7 g (by omega)).trans (ho6 g (by omega)))
    · exact ⟨_, _, rfl, Or.inl h⟩
  · exact (HB5.out.trans (hb6 _ (by omega))).trans (hb7 _ (by omega))

set_option maxHeartbeats 1000000 in
set_option maxRecDepth 100000 in
theorem eqReport_calls {v v' : Value} {bs : List Int} (r : RpN) (w : World) (hm : bs.length ≤ 1048576) (h : IntSlice w v bs) (h' : IntSlice w v' bs) :
    Calls Tryd.prog 8 #[repV v r, repV v' r] w fun e w' => e = .returned (.bool true) ∧ Below w.heap.size w w' := by
  have HE := hid (fun (X : World) (hX : Below w.heap.size w X) (en st : Int) (va : ByteArray) => eqResult_calls en st va X hm (h.below hX) (h'.below hX))
  obtain ⟨ad, cap, rfl, _⟩ := h
  obtain ⟨ad', cap', rfl, _⟩ := h'
  obtain ⟨fc, fa, ty, cd, ins, en, va, st, fl, to⟩ := r
  unfold repV
  dsimp only
  clear hm
  go_enter Tryd.func8, Tryd.ntmps8
  go_wp2_with fail
  refine (eqFault_calls fc fa _).mono ?_
  rintro e W1 ⟨rfl, hb1⟩
  obtain ⟨eA, eB, hbw⟩ := two_kept hb1
  have HA := hid eA
  have HB := hid eB
  have a0 := cell_of_heap eA 0
  have a1 := cell_of_heap eA 1
  have a2 := cell_of_heap eA 2
  have a3 := cell_of_heap eA 3
  have a4 := cell_of_heap eA 4
  have a5 := cell_of_heap eA 5
  have a6 := cell_of_heap eA 6
  have a7 := cell_of_heap eA 7
  have a8 := cell_of_heap eA 8
  have a9 := cell_of_heap eA 9
  have a10 := cell_of_heap eA 10
  simp at a0 a1 a2 a3 a4 a5 a6 a7 a8 a9 a10
  have b0 := cell_of_heap eB 0
  have b1 := cell_of_heap eB 1
  have b2 := cell_of_heap eB 2
  have b3 := cell_of_heap eB 3
  have b4 := cell_of_heap eB 4
  have b5 := cell_of_heap eB 5
  have b6 := cell_of_heap eB 6
  have b7 := cell_of_heap eB 7
  have b8 := cell_of_heap eB 8
  have b9 := cell_of_heap eB 9
  have b10 := cell_of_heap eB 10
  simp at b0 b1 b2 b3 b4 b5 b6 b7 b8 b9 b10
  have HBw := hid hbw
  clear eA eB hbw hb1
  go_wp2_with fail
  refine (HE.out _ HBw.out en st va).mono ?_
  rintro e W2 ⟨rfl, hb2⟩
  have eA := (hb2.block _ (heap_lt HA.out)).trans HA.out
  have eB := (hb2.block _ (heap_lt HB.out)).trans HB.out
  have HB2 := hid (HBw.out.trans (hb2.mono HBw.out.size))
  clear a0 b0 a1 b1 a2 b2 a3 b3 a4 b4 a5 b5 a6 b6 a7 b7 a8 b8 a9 b9 a10 b10 hb2 HBw HA HB
  have a0 := cell_of_heap eA 0
  have a1 := cell_of_heap eA 1
  have a2 := cell_of_heap eA 2
  have a3 := cell_of_heap eA 3
  have a4 := cell_of_heap eA 4
  have a5 := cell_of_heap eA 5
  have a6 := cell_of_heap eA 6
  have a7 := cell_of_heap eA 7
  have a8 := cell_of_heap eA 8
  have a9 := cell_of_heap eA 9
  have a10 := cell_of_heap eA 10
  simp at a0 a1 a2 a3 a4 a5 a6 a7 a8 a9 a10
  have b0 := cell_of_heap eB 0
  have b1 := cell_of_heap eB 1
  have b2 := cell_of_heap eB 2
  have b3 := cell_of_heap eB 3
  have b4 := cell_of_heap eB 4
  have b5 := cell_of_heap eB 5
  have b6 := cell_of_heap eB 6
  have b7 := cell_of_heap eB 7
  have b8 := cell_of_heap eB 8
  have b9 := cell_of_heap eB 9
  have b10 := cell_of_heap eB 10
  simp at b0 b1 b2 b3 b4 b5 b6 b7 b8 b9 b10
  clear eA eB
  go_wp2_with fail
  refine (eqStats_calls fl to _).mono ?_
  rintro e W3 ⟨rfl, hb3⟩
  have HB3 := hid (HB2.out.trans (hb3.mono HB2.out.size))
  clear hb3 HB2
  go_wp2_with fail
  go_ret
  exact ⟨rfl, HB3.out⟩

set_option maxRecDepth 100000 in
theorem szIntS_calls (ad : Option Addr) (n cap : Nat) (l : Int) (w : World) (hm : n ≤ maxLen) (hl0 : 0 ≤ l) (hl1 : l ≤ 1048576) :
    Calls Tryd.prog 20 #[.slice ad n cap, .int .i64 l] w fun e w' => (∃ r : Int, e = .returned (.int .i64 r) ∧ (r < 0 ∨ (0 ≤ r ∧ r + n = l))) ∧ w = w' := by
  have h2 : wrap64 (l - (n : Int)) = l - (n : Int) := by unfold maxLen at hm; unfold wrap64; omega
  have H2 := hid h2
  clear h2 hm
  have HL := hid hl0
  have HL1 := hid hl1
  clear hl0 hl1
  go_enter Tryd.func20, Tryd.ntmps20
  go_wp2_with fail
  · go_ret
    exact ⟨⟨-1, rfl, Or.inl (by decide)⟩, rfl⟩
  · rename_i hr
    go_ret
    refine ⟨⟨_, rfl, Or.inr ⟨hr, ?_⟩⟩, rfl⟩
    rw [H2.out]
    omega

set_option maxRecDepth 100000 in
theorem szResult_calls (ad : Option Addr) (n cap : Nat) (en st : Int) (va : ByteArray) (l : Int) (w : World) (hm : n ≤ maxLen) (hl0 : 0 ≤ l) (hl1 : l ≤ 1048576) (hva : (va.size : Int) ≤ 9223372036854775807) :
    Calls Tryd.prog 9 #[.agg #[.int .i64 en, .slice ad n cap, .string va, .int .i64 st], .int .i64 l] w fun e w' => (∃ r : Int, e = .returned (.int .i64 r) ∧ (r < 0 ∨ (0 ≤ r ∧ r + n + va.size = l))) ∧ Below w.heap.size w w' := by
  have HS := hid (fun w => szIntS_calls ad n cap l w hm hl0 hl1)
  have HL1 := hid hl1
  have HVa := hid hva
  clear hm hl0 hl1 hva
  go_enter Tryd.func9, Tryd.ntmps9
  go_wp2_with fail
  refine (HS.out _).mono ?_
  rintro e w1 ⟨⟨r, rfl, hr⟩, rfl⟩
  have HR := hid hr
  clear hr HS
  by_cases hn : r < 0
  · go_wp2_with fail
    go_ret
    exact ⟨⟨-1, rfl, Or.inl (by decide)⟩, (Below.refl _ _).alloc (Nat.le_refl _) _⟩
  obtain ⟨r2, hr2⟩ : ∃ r2, wrap64 (r - (va.size : Int)) = r2 := ⟨_, rfl⟩
  have HR2 : Hid (r2 = r - va.size) := by
    have := HR.out
    have := HL1.out
    have := HVa.out
    show _ = _
    rw [← hr2]
    unfold wrap64
    omega
  by_cases hn2 : r2 < 0
  · go_wp2_with fail
    go_ret
    exact ⟨⟨-1, rfl, Or.inl (by decide)⟩, (Below.refl _ _).alloc (Nat.le_refl _) _⟩
  · go_wp2_with fail
    go_ret
    refine ⟨⟨r2, by rw [← hr2]; rfl, Or.inr ⟨by omega, ?_⟩⟩, (Below.refl _ _).alloc (Nat.le_refl _) _⟩
    have := HR.out
    have := HR2.out
    omega

set_option maxRecDepth 100000 in
theorem szReport_calls {v : Value} {bs : List Int} (r : RpN) (w : World) (hv : IntSlice w v bs) (hm : bs.length ≤ maxLen) (hty : (r.ty.size : Int) ≤ 9223372036854775807) (hva : (r.va.size : Int) ≤ 9223372036854775807) :
    Calls Tryd.prog 4 #[repV v r, .int .i64 1048576] w fun e w' => (∃ q : Int, e = .returned (.int .i64 q) ∧ (q < 0 ∨ (0 ≤ q ∧ bs.length + r.ty.size + r.va.size ≤ 1048576))) ∧ Below w.heap.size w w' := by
  obtain ⟨ad, cap, rfl, _⟩ := hv
  obtain ⟨fc, fa, ty, cd, ins, en, va, st, fl, to⟩ := r
  unfold repV
  dsimp only at *
  have HS := hid (fun (l : Int) (h0 : 0 ≤ l) (h1 : l ≤ 1048576) (w : World) => szResult_calls ad bs.length cap en st va l w hm h0 h1 hva)
  obtain ⟨l, hl⟩ : ∃ l, wrap64 (1048576 - (ty.size : Int)) = l := ⟨_, rfl⟩
  have HL : Hid (l = 1048576 - ty.size) := by show _ = _; rw [← hl]; unfold wrap64; omega
  clear hm hty hva
  go_enter Tryd.func4, Tryd.ntmps4
  by_cases hn : l < 0
  · go_wp2_with fail
    go_ret
    exact ⟨⟨-1, rfl, Or.inl (by decide)⟩, (Below.refl _ _).alloc (Nat.le_refl _) _⟩
  go_wp2_with fail
  refine (HS.out l (by omega) (by have := HL.out; omega) _).mono ?_
  rintro e w1 ⟨⟨q, rfl, hq⟩, hb1⟩
  have HR := hid hq
  have HB := hid (((Below.refl w.heap.size w).alloc (Nat.le_refl _) _).trans (hb1.mono (by simp)))
  clear hq HS hb1
  by_cases hn2 : q < 0
  · go_wp2_with fail
    go_ret
    exact ⟨⟨-1, rfl, Or.inl (by decide)⟩, HB.out⟩
  · go_wp2_with fail
    go_ret
    refine ⟨⟨q, rfl, Or.inr ⟨by omega, ?_⟩⟩, HB.out⟩
    have := HR.out
    have := HL.out
    omega

end Go.Proofs.YtnoejhfpplddfaaDoor
