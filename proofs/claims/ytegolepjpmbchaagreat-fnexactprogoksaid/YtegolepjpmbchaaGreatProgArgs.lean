/- A program that is handed in: its operations and its tree, read as plain values; what the laws' helpers do to it. -/
import Derived.Test.YtegolepjpmbchaaGreatEffWalks
import Derived.Test.YtegolepjpmbchaaGreatKept
namespace Go.Proofs.YtegolepjpmbchaaGreat
open Go.RowKit Go.Deep Go.ChangeShapes Go.WideShapes

def EffSlice (w : World) (v : Value) (ns : List Ef) : Prop :=
  ∃ a cap, v = .slice a ns.length cap ∧ (ns = [] ∨ ∃ b off, a = some ⟨b, off, none⟩ ∧ b < w.heap.size ∧ EffsAt w b off ns)

theorem EffSlice.below {w w' : World} {v : Value} {ns : List Ef} (h : EffSlice w v ns) (hb : Below w.heap.size w w') : EffSlice w' v ns := by
  obtain ⟨a, cap, rfl, h⟩ := h
  refine ⟨a, cap, rfl, h.imp id ?_⟩
  rintro ⟨b, off, rfl, hlt, hn⟩
  exact ⟨b, off, rfl, Nat.lt_of_lt_of_le hlt hb.size, hn.below hb hlt⟩

theorem Tryz.cellsOfEff : Tryz.prog.cellsOf 51 = 3 := by kernel_rfl
theorem Tryz.cellsOfEffs : Tryz.prog.cellsOf 22 = 1 := by kernel_rfl
theorem Tryz.cellsOfNodes : Tryz.prog.cellsOf 23 = 1 := by kernel_rfl
theorem Tryz.cellsOfProg : Tryz.prog.cellsOf 25 = 2 := by kernel_rfl

section
variable {H : Type} {enc : TypeId × Value → H} {W : World} {sp : Nat → Bool} {held : Bool}

set_option maxRecDepth 100000 in
theorem open_eff {fuel : Nat} {cs : List Value} {x : DataW H × List MemPlace} (h : DataW.trod enc Tryz.prog W 0 sp held fuel 51 cs = some x) :
    ∃ n : Ef, cs = [n.cell 0, n.cell 1, n.cell 2] ∧ n.name.size ≤ maxLen := by
  obtain ⟨xs, k, hk, hxy, hcl, hxl, hf⟩ := DataW.trod_struct Tryz.underlying51 h
  rw [Tryz.cellsOfEff] at hcl
  match xs, hxl, cs, hcl with
  | [y0, y1, y2], _, [v0, v1, v2], _ =>
    have g0 := hf 0 _ rfl
    have g1 := hf 1 _ rfl
    have g2 := hf 2 _ rfl
    simp [Tryz.cellsOfInt, Tryz.cellsOfString] at g0 g1 g2
    obtain ⟨s0, e0, _, l0⟩ := DataW.trod_string Tryz.underlying9 g0
    obtain ⟨i1, e1, _⟩ := DataW.trod_int Tryz.underlying3 g1
    obtain ⟨i2, e2, _⟩ := DataW.trod_int Tryz.underlying3 g2
    simp at e0 e1 e2
    subst e0 e1 e2
    exact ⟨⟨s0, i1, i2⟩, rfl, l0⟩

set_option maxRecDepth 100000 in
theorem open_effs {fuel : Nat} {v : Value} {x : DataW H × List MemPlace} (h : DataW.trod enc Tryz.prog W 0 sp held fuel 22 [v] = some x) :
    ∃ ns, EffSlice W v ns ∧ EfShort ns ∧ ns.length ≤ maxLen := by
  rcases open_slice Tryz.underlying22 h with ⟨hc, _⟩ | ⟨a, len, cap, m, k, D, Pl, hc, _, hl, hm, hmm, _, hall⟩
  · simp at hc
    subst hc
    exact ⟨[], ⟨_, _, rfl, Or.inl rfl⟩, fun n hn => by simp at hn, by simp⟩
  · simp at hc
    subst hc
    have hlm : len ≤ m := by rw [hmm]; split <;> omega
    obtain ⟨f, hf⟩ := choose_lt (α := Ef) (n := len) (p := fun i n => (∀ c, c < 3 → W.cell? (a.add (i * 3 + c)) = some (n.cell c)) ∧ n.name.size ≤ maxLen) (fun i hi => by
      obtain ⟨cs', h1, h2⟩ := hall i (by omega)
      rw [Tryz.cellsOfEff] at h1
      obtain ⟨_, _, hcell⟩ := World.cells?_some h1
      obtain ⟨n, rfl, l2⟩ := open_eff h2
      refine ⟨n, fun c hc => ?_, l2⟩
      have := hcell c hc
      rw [add_add] at this
      rw [this]
      match c, hc with
      | 0, _ => rfl
      | 1, _ => rfl
      | 2, _ => rfl)
    refine ⟨(List.range len).map f, ⟨some a, cap, by simp, ?_⟩, fun n hn => ?_, by simp; omega⟩
    · by_cases h0 : len = 0
      · left
        simp [h0]
      · right
        obtain ⟨b, off, spot⟩ := a
        have hspot : spot = none := by simpa [Addr.add] using World.cell?_spot ((hf 0 (by omega)).1 0 (by omega))
        subst hspot
        have hlt : b < W.heap.size := by
          have := (hf 0 (by omega)).1 0 (by omega)
          exact block_lt_of_cell this
        refine ⟨b, off, rfl, hlt, fun j hj c hc => ?_⟩
        simp at hj
        have := (hf j hj).1 c hc
        rw [add_plain] at this
        rw [Nat.add_assoc, this]
        simp [List.getD, hj]
    · simp at hn
      obtain ⟨i, hi, rfl⟩ := hn
      exact (hf i hi).2

set_option maxRecDepth 100000 in
/-- A program, out of its two cells. -/
theorem open_prog {fuel : Nat} {cs : List Value} {x : DataW H × List MemPlace} (h : DataW.trod enc Tryz.prog W 0 sp held fuel 25 cs = some x) :
    ∃ v0 v1 es ns, cs = [v0, v1] ∧ EffSlice W v0 es ∧ EfShort es ∧ es.length ≤ maxLen ∧ NodeSlice W v1 ns ∧ Short ns ∧ ns.length ≤ maxLen := by
  obtain ⟨xs, k, hk, hxy, hcl, hxl, hf⟩ := DataW.trod_struct Tryz.underlying25 h
  rw [Tryz.cellsOfProg] at hcl
  match xs, hxl, cs, hcl with
  | [y0, y1], _, [v0, v1], _ =>
    have g0 := hf 0 _ rfl
    have g1 := hf 1 _ rfl
    simp [Tryz.cellsOfEffs, Tryz.cellsOfNodes] at g0 g1
    obtain ⟨es, h1, h2, h3⟩ := open_effs g0
    obtain ⟨ns, h4, h5, h6⟩ := open_nodes g1
    exact ⟨v0, v1, es, ns, rfl, h1, h2, h3, h4, h5, h6⟩
end

set_option maxRecDepth 100000 in
theorem szEffS_none (a : Option Addr) (cap : Nat) (left : Int) (w : World) (h0 : 0 ≤ left) (h1 : left ≤ 1048576) :
    Calls Tryz.prog 9 #[.slice a 0 cap, .int .i64 left] w fun e w' => (∃ r : Int, e = .returned (.int .i64 r) ∧ r ≤ left) ∧ Below w.heap.size w w' := by
  go_enter Tryz.func9, Tryz.ntmps9
  go_wp2
  refine wp_loop_rounds 1 ?_
  rw [rounds_succ]
  go_wp2
  go_ret
  exact ⟨⟨_, rfl, by omega⟩, Below.refl _ _⟩

theorem szEffS_any {v : Value} {ns : List Ef} (left : Int) (w : World) (hv : EffSlice w v ns) (hs : EfShort ns) (hm : ns.length ≤ maxLen) (h0 : 0 ≤ left) (h1 : left ≤ 1048576) :
    Calls Tryz.prog 9 #[v, .int .i64 left] w fun e w' => (∃ r : Int, e = .returned (.int .i64 r) ∧ r ≤ left ∧ (r < 0 ∨ ns.length ≤ 1048576)) ∧ Below w.heap.size w w' := by
  obtain ⟨a, cap, rfl, h⟩ := hv
  by_cases he : ns = []
  · subst he
    refine (szEffS_none a cap left w h0 h1).mono ?_
    rintro e w' ⟨⟨r, rfl, hr⟩, hb⟩
    exact ⟨⟨r, rfl, hr, Or.inr (by simp)⟩, hb⟩
  · obtain ⟨b, off, rfl, hb, hn⟩ := h.resolve_left he
    exact szEffS_calls b off ns.length cap ns left w hb hn hs (Nat.le_refl _) hm h0 h1

set_option maxRecDepth 100000 in
theorem toEffS_none (a : Option Addr) (cap : Nat) (w : World) :
    Calls Tryz.prog 14 #[.slice a 0 cap] w fun e w' => e = .returned (.slice (some ⟨w.heap.size, 0, none⟩) 0 0) ∧ w.heap.size < w'.heap.size ∧ Below w.heap.size w w' := by
  obtain ⟨c, hcs, hmk⟩ := made_effs 0 (by omega) w
  simp only [Int.cast_ofNat_Int] at hmk
  go_enter Tryz.func14, Tryz.ntmps14
  go_wp2
  refine wp_loop_rounds 1 ?_
  rw [rounds_succ]
  go_wp2
  go_ret
  exact ⟨rfl, by simp, (Below.refl _ _).alloc (Nat.le_refl _) _⟩

theorem toEffS_any {v : Value} {ns : List Ef} (w : World) (hv : EffSlice w v ns) (hm : ns.length ≤ 1048576) :
    Calls Tryz.prog 14 #[v] w fun e w' => e = .returned (.slice (some ⟨w.heap.size, 0, none⟩) ns.length ns.length) ∧ EffsAt w' w.heap.size 0 ns ∧ w.heap.size < w'.heap.size ∧ Below w.heap.size w w' := by
  obtain ⟨a, cap, rfl, h⟩ := hv
  by_cases he : ns = []
  · subst he
    refine (toEffS_none a cap w).mono ?_
    rintro e w' ⟨rfl, h1, h2⟩
    exact ⟨rfl, fun k hk => by simp at hk, h1, h2⟩
  · obtain ⟨b, off, rfl, hb, hn⟩ := h.resolve_left he
    refine (toEffS_calls b off ns.length cap ns w hb hn (Nat.le_refl _) hm).mono ?_
    rintro e w' ⟨rfl, h1, h2, h3⟩
    rw [List.take_length] at h1
    exact ⟨rfl, h1, h2, h3⟩

set_option maxRecDepth 100000 in
theorem szProg_calls {v0 v1 : Value} {es : List Ef} {ns : List Nd} (left : Int) (w : World) (h0 : EffSlice w v0 es) (s0 : EfShort es) (m0 : es.length ≤ maxLen) (h1 : NodeSlice w v1 ns) (s1 : Short ns) (m1 : ns.length ≤ maxLen) (hl0 : 0 ≤ left) (hl1 : left ≤ 1048576) :
    Calls Tryz.prog 4 #[.agg #[v0, v1], .int .i64 left] w fun e w' => (∃ r : Int, e = .returned (.int .i64 r) ∧ (r < 0 ∨ (es.length ≤ 1048576 ∧ ns.length ≤ 1048576))) ∧ Below w.heap.size w w' := by
  have hv0 := h0
  have hv1 := h1
  obtain ⟨a0, cap0, rfl, _⟩ := h0
  obtain ⟨a1, cap1, rfl, _⟩ := h1
  have HB : Hid (Below w.heap.size w (w.alloc (.cells #[.slice a0 es.length cap0, .slice a1 ns.length cap1] 25))) := (Below.refl _ _).alloc (Nat.le_refl _) _
  have HX : Hid (Calls _ _ _ _ _) := szEffS_any left _ (hv0.below HB.out) s0 m0 hl0 hl1
  have HV : Hid (NodeSlice w (.slice a1 ns.length cap1) ns ∧ Short ns ∧ ns.length ≤ maxLen) := ⟨hv1, s1, m1⟩
  clear hv0 hv1 s0 m0 s1 m1
  go_enter Tryz.func4, Tryz.ntmps4
  go_wp2_with fail
  refine HX.out.mono ?_
  rintro e w1 ⟨⟨r, rfl, hr1, hr2⟩, hb1⟩
  have hb2 := HB.out.trans (hb1.mono HB.out.size)
  have p1 : w1.cell? ⟨w.heap.size, 1, none⟩ = some (.slice a1 ns.length cap1) := (hb1.cell (p := ⟨w.heap.size, 1, none⟩) (by simp)).trans (by simp [go_sem])
  by_cases hneg : r < 0
  · clear HX HV hb1
    go_wp2_with fail
    go_ret
    exact ⟨⟨_, rfl, Or.inl (by decide)⟩, hb2⟩
  · have hes : Hid (es.length ≤ 1048576) := hr2.resolve_left hneg
    have HY : Hid (Calls _ _ _ _ _) := szNodeS_any r w1 (HV.out.1.below hb2) HV.out.2.1 HV.out.2.2 (by omega) (by omega)
    clear HX HV hb1 hr2
    go_wp2_with fail
    refine HY.out.mono ?_
    rintro e w2 ⟨⟨r2, rfl, hq1, hq2⟩, hb3⟩
    have hb4 := hb2.trans (hb3.mono hb2.size)
    clear hb3 HY p1
    by_cases hneg2 : r2 < 0
    · clear hq2
      go_wp2_with fail
      go_ret
      exact ⟨⟨_, rfl, Or.inl (by decide)⟩, hb4⟩
    · have hns : Hid (ns.length ≤ 1048576) := hq2.resolve_left hneg2
      clear hq2
      go_wp2_with fail
      go_ret
      exact ⟨⟨_, rfl, Or.inr ⟨hes.out, hns.out⟩⟩, hb4⟩

set_option maxRecDepth 100000 in
theorem toProg_calls {v0 v1 : Value} {es : List Ef} {ns : List Nd} (w : World) (h0 : EffSlice w v0 es) (m0 : es.length ≤ 1048576) (h1 : NodeSlice w v1 ns) (m1 : ns.length ≤ 1048576) :
    Calls Tryz.prog 6 #[.agg #[v0, v1]] w fun e w' => ∃ be bt, e = .returned (.agg #[.slice (some ⟨be, 0, none⟩) es.length es.length, .slice (some ⟨bt, 0, none⟩) ns.length ns.length]) ∧ be < w'.heap.size ∧ EffsAt w' be 0 es ∧ bt < w'.heap.size ∧ NodesAt w' bt 0 ns ∧ Below w.heap.size w w' := by
  have hv0 := h0
  have hv1 := h1
  obtain ⟨a0, cap0, rfl, _⟩ := h0
  obtain ⟨a1, cap1, rfl, _⟩ := h1
  have HV : Hid (EffSlice w (.slice a0 es.length cap0) es ∧ NodeSlice w (.slice a1 ns.length cap1) ns ∧ es.length ≤ 1048576 ∧ ns.length ≤ 1048576) := ⟨hv0, hv1, m0, m1⟩
  clear hv0 hv1 m0 m1
  have hb1 : Below w.heap.size w (w.alloc (.cells #[.slice a0 es.length cap0, .slice a1 ns.length cap1] 25)) := (Below.refl _ _).alloc (Nat.le_refl _) _
  have hb2 := hb1.alloc (by simp) (.cells #[.slice none 0 0, .slice none 0 0] 31)
  have hb3 := hb2.alloc (by simp; omega) (.cells #[.slice none 0 0, .slice none 0 0] 31)
  obtain ⟨W3, hW3⟩ : ∃ W3, (((w.alloc (.cells #[.slice a0 es.length cap0, .slice a1 ns.length cap1] 25)).alloc (.cells #[.slice none 0 0, .slice none 0 0] 31)).alloc (.cells #[.slice none 0 0, .slice none 0 0] 31)) = W3 := ⟨_, rfl⟩
  have hsz : W3.heap.size = w.heap.size + 3 := by rw [← hW3]; simp
  have k0 : W3.heap[w.heap.size]? = some (.cells #[.slice a0 es.length cap0, .slice a1 ns.length cap1] 25) := by
    rw [← hW3, Below.heap_alloc _ _ _ (by simp; omega), Below.heap_alloc _ _ _ (by simp)]
    exact (MapKept.heap_alloc w _).1
  have k1 : W3.heap[w.heap.size + 1]? = some (.cells #[.slice none 0 0, .slice none 0 0] 31) := by
    rw [← hW3, Below.heap_alloc _ _ _ (by simp)]
    have := (MapKept.heap_alloc (w.alloc (.cells #[.slice a0 es.length cap0, .slice a1 ns.length cap1] 25)) (.cells #[.slice none 0 0, .slice none 0 0] 31)).1
    simpa using this
  have k2 : W3.heap[w.heap.size + 1 + 1]? = some (.cells #[.slice none 0 0, .slice none 0 0] 31) := by
    rw [← hW3]
    have := (MapKept.heap_alloc ((w.alloc (.cells #[.slice a0 es.length cap0, .slice a1 ns.length cap1] 25)).alloc (.cells #[.slice none 0 0, .slice none 0 0] 31)) (.cells #[.slice none 0 0, .slice none 0 0] 31)).1
    simpa using this
  rw [hW3] at hb3
  have HW : Hid (_ = W3) := hW3
  have HB3 : Hid (Below w.heap.size w W3) := hb3
  have HX : Hid (Calls _ _ _ _ _) := toEffS_any W3 (HV.out.1.below hb3) HV.out.2.2.1
  have HS : Hid (W3.heap.size = w.heap.size + 3) := hsz
  have HK : Hid (W3.heap[w.heap.size]? = some (.cells #[.slice a0 es.length cap0, .slice a1 ns.length cap1] 25) ∧ W3.heap[w.heap.size + 1]? = some (.cells #[.slice none 0 0, .slice none 0 0] 31) ∧ W3.heap[w.heap.size + 1 + 1]? = some (.cells #[.slice none 0 0, .slice none 0 0] 31)) := ⟨k0, k1, k2⟩
  clear hb1 hb2 hb3 hW3 hsz k0 k1 k2
  go_enter Tryz.func6, Tryz.ntmps6
  go_wp2_with fail
  rw [HW.out]
  refine HX.out.mono ?_
  rintro e w4 ⟨rfl, hE4, hlt4, hb4⟩
  have hs3 := HS.out
  have k0 := (hb4.block w.heap.size (by omega)).trans HK.out.1
  have k1 := (hb4.block (w.heap.size + 1) (by omega)).trans HK.out.2.1
  have k2 := (hb4.block (w.heap.size + 1 + 1) (by omega)).trans HK.out.2.2
  have q01 := cell_of_heap k0 1
  have q10 := cell_of_heap k1 0
  have q11 := cell_of_heap k1 1
  have z10 := frozen_of_heap k1 0
  have z11 := frozen_of_heap k1 1
  have q20 := cell_of_heap k2 0
  have q21 := cell_of_heap k2 1
  have z20 := frozen_of_heap k2 0
  have z21 := frozen_of_heap k2 1
  simp at q01 q10 q11 q20 q21
  have HE : Hid (EffsAt w4 W3.heap.size 0 es ∧ W3.heap.size < w4.heap.size ∧ Below W3.heap.size W3 w4) := ⟨hE4, hlt4, hb4⟩
  have hlt5 : w.heap.size + 3 < w4.heap.size := by omega
  clear hE4 hlt4 hb4 HX HK HW hs3 k0 k1 k2
  rw [HS.out]
  go_wp2_with fail
  have hb4 : Below w.heap.size w w4 := HB3.out.trans (HE.out.2.2.mono HB3.out.size)
  have hb5 := hb4.setCell (p := ⟨w.heap.size + 1 + 1, 0, none⟩) (by show w.heap.size ≤ w.heap.size + 1 + 1; omega) (.slice (some ⟨w.heap.size + 3, 0, none⟩) es.length es.length)
  have hsz5 : w4.heap.size ≤ (w4.setCell ⟨w.heap.size + 1 + 1, 0, none⟩ (.slice (some ⟨w.heap.size + 3, 0, none⟩) es.length es.length)).heap.size := ((Below.refl 0 w4).setCell (Nat.zero_le _) _).size
  have hE5 : EffsAt (w4.setCell ⟨w.heap.size + 1 + 1, 0, none⟩ (.slice (some ⟨w.heap.size + 3, 0, none⟩) es.length es.length)) (w.heap.size + 3) 0 es := fun k hk c hc => by
    have := HE.out.1 k hk c hc
    rw [HS.out] at this
    rw [← this]
    exact World.cell?_of_block (w := w4) (Below.heap_setCell w4 _ _ _ (by show w.heap.size + 3 ≠ w.heap.size + 1 + 1; omega))
  have r20 : (w4.setCell ⟨w.heap.size + 1 + 1, 0, none⟩ (.slice (some ⟨w.heap.size + 3, 0, none⟩) es.length es.length)).cell? ⟨w.heap.size + 1 + 1, 0, none⟩ = some (.slice (some ⟨w.heap.size + 3, 0, none⟩) es.length es.length) := World.cell?_setCell_same' _ _ _ (by rw [q20]; rfl)
  have r21 : (w4.setCell ⟨w.heap.size + 1 + 1, 0, none⟩ (.slice (some ⟨w.heap.size + 3, 0, none⟩) es.length es.length)).cell? ⟨w.heap.size + 1 + 1, 1, none⟩ = some (.slice none 0 0) := by rw [← q21]; simp [go_sem]
  have r10 : (w4.setCell ⟨w.heap.size + 1 + 1, 0, none⟩ (.slice (some ⟨w.heap.size + 3, 0, none⟩) es.length es.length)).cell? ⟨w.heap.size + 1, 0, none⟩ = some (.slice none 0 0) := by rw [← q10]; exact World.cell?_of_block (w := w4) (Below.heap_setCell w4 _ _ _ (by show w.heap.size + 1 ≠ w.heap.size + 1 + 1; omega))
  have r11 : (w4.setCell ⟨w.heap.size + 1 + 1, 0, none⟩ (.slice (some ⟨w.heap.size + 3, 0, none⟩) es.length es.length)).cell? ⟨w.heap.size + 1, 1, none⟩ = some (.slice none 0 0) := by rw [← q11]; exact World.cell?_of_block (w := w4) (Below.heap_setCell w4 _ _ _ (by show w.heap.size + 1 ≠ w.heap.size + 1 + 1; omega))
  have x10 : (w4.setCell ⟨w.heap.size + 1 + 1, 0, none⟩ (.slice (some ⟨w.heap.size + 3, 0, none⟩) es.length es.length)).frozen? ⟨w.heap.size + 1, 0, none⟩ = false := by simp [z10]
  have x11 : (w4.setCell ⟨w.heap.size + 1 + 1, 0, none⟩ (.slice (some ⟨w.heap.size + 3, 0, none⟩) es.length es.length)).frozen? ⟨w.heap.size + 1, 1, none⟩ = false := by simp [z11]
  have x21 : (w4.setCell ⟨w.heap.size + 1 + 1, 0, none⟩ (.slice (some ⟨w.heap.size + 3, 0, none⟩) es.length es.length)).frozen? ⟨w.heap.size + 1 + 1, 1, none⟩ = false := by simp [z21]
  clear q01 q10 q11 q20 q21 z10 z11 z20 z21 HE HB3 hb4 HS
  generalize (w4.setCell ⟨w.heap.size + 1 + 1, 0, none⟩ (.slice (some ⟨w.heap.size + 3, 0, none⟩) es.length es.length)) = W5 at *
  have hlt6 : w.heap.size + 3 < W5.heap.size := by omega
  refine (toNodeS_any W5 (HV.out.2.1.below hb5) HV.out.2.2.2).mono ?_
  rintro e w6 ⟨rfl, hN6, hlt7, hb6⟩
  have t20 := (hb6.cell (p := ⟨w.heap.size + 1 + 1, 0, none⟩) (by show w.heap.size + 1 + 1 < W5.heap.size; omega)).trans r20
  have t21 := (hb6.cell (p := ⟨w.heap.size + 1 + 1, 1, none⟩) (by show w.heap.size + 1 + 1 < W5.heap.size; omega)).trans r21
  have t10 := (hb6.cell (p := ⟨w.heap.size + 1, 0, none⟩) (by show w.heap.size + 1 < W5.heap.size; omega)).trans r10
  have t11 := (hb6.cell (p := ⟨w.heap.size + 1, 1, none⟩) (by show w.heap.size + 1 < W5.heap.size; omega)).trans r11
  have y10 := (hb6.frozen (p := ⟨w.heap.size + 1, 0, none⟩) (by show w.heap.size + 1 < W5.heap.size; omega)).trans x10
  have y11 := (hb6.frozen (p := ⟨w.heap.size + 1, 1, none⟩) (by show w.heap.size + 1 < W5.heap.size; omega)).trans x11
  have y21 := (hb6.frozen (p := ⟨w.heap.size + 1 + 1, 1, none⟩) (by show w.heap.size + 1 + 1 < W5.heap.size; omega)).trans x21
  have hb7 := hb5.trans (hb6.mono hb5.size)
  have HE6 : Hid (EffsAt w6 (w.heap.size + 3) 0 es ∧ NodesAt w6 W5.heap.size 0 ns) := ⟨hE5.below hb6 hlt6, hN6⟩
  clear hE5 hN6 hb6 hb5 r20 r21 r10 r11 x10 x11 x21 HV hsz5
  go_wp2_with fail
  have hfar : ∀ b k, b ≠ w.heap.size + 1 → b ≠ w.heap.size + 1 + 1 → (((w6.setCell ⟨w.heap.size + 1 + 1, 1, none⟩ (.slice (some ⟨W5.heap.size, 0, none⟩) ns.length ns.length)).setCell ⟨w.heap.size + 1, 0, none⟩ (.slice (some ⟨w.heap.size + 3, 0, none⟩) es.length es.length)).setCell ⟨w.heap.size + 1, 1, none⟩ (.slice (some ⟨W5.heap.size, 0, none⟩) ns.length ns.length)).cell? ⟨b, k, none⟩ = w6.cell? ⟨b, k, none⟩ := fun b k h1 h2 => by
    refine World.cell?_of_block ?_
    rw [Below.heap_setCell _ _ _ _ h1, Below.heap_setCell _ _ _ _ h1, Below.heap_setCell _ _ _ _ h2]
  have hb8 := ((hb7.setCell (p := ⟨w.heap.size + 1 + 1, 1, none⟩) (by show w.heap.size ≤ w.heap.size + 1 + 1; omega) (.slice (some ⟨W5.heap.size, 0, none⟩) ns.length ns.length)).setCell (p := ⟨w.heap.size + 1, 0, none⟩) (by show w.heap.size ≤ w.heap.size + 1; omega) (.slice (some ⟨w.heap.size + 3, 0, none⟩) es.length es.length)).setCell (p := ⟨w.heap.size + 1, 1, none⟩) (by show w.heap.size ≤ w.heap.size + 1; omega) (.slice (some ⟨W5.heap.size, 0, none⟩) ns.length ns.length)
  have hsz := ((((Below.refl 0 w6).setCell (p := ⟨w.heap.size + 1 + 1, 1, none⟩) (Nat.zero_le _) (.slice (some ⟨W5.heap.size, 0, none⟩) ns.length ns.length)).setCell (p := ⟨w.heap.size + 1, 0, none⟩) (Nat.zero_le _) (.slice (some ⟨w.heap.size + 3, 0, none⟩) es.length es.length)).setCell (p := ⟨w.heap.size + 1, 1, none⟩) (Nat.zero_le _) (.slice (some ⟨W5.heap.size, 0, none⟩) ns.length ns.length)).size
  have i1 : ((w6.setCell ⟨w.heap.size + 1 + 1, 1, none⟩ (.slice (some ⟨W5.heap.size, 0, none⟩) ns.length ns.length)).cell? ⟨w.heap.size + 1, 0, none⟩) = some (.slice none 0 0) := by rw [← t10]; exact World.cell?_of_block (Below.heap_setCell w6 _ _ _ (by show w.heap.size + 1 ≠ w.heap.size + 1 + 1; omega))
  have i2 : ((w6.setCell ⟨w.heap.size + 1 + 1, 1, none⟩ (.slice (some ⟨W5.heap.size, 0, none⟩) ns.length ns.length)).cell? ⟨w.heap.size + 1, 1, none⟩) = some (.slice none 0 0) := by rw [← t11]; exact World.cell?_of_block (Below.heap_setCell w6 _ _ _ (by show w.heap.size + 1 ≠ w.heap.size + 1 + 1; omega))
  generalize hW7 : w6.setCell ⟨w.heap.size + 1 + 1, 1, none⟩ (.slice (some ⟨W5.heap.size, 0, none⟩) ns.length ns.length) = W7 at *
  have a0' : ((W7.setCell ⟨w.heap.size + 1, 0, none⟩ (.slice (some ⟨w.heap.size + 3, 0, none⟩) es.length es.length)).setCell ⟨w.heap.size + 1, 1, none⟩ (.slice (some ⟨W5.heap.size, 0, none⟩) ns.length ns.length)).cell? ⟨w.heap.size + 1, 0, none⟩ = some (.slice (some ⟨w.heap.size + 3, 0, none⟩) es.length es.length) := by
    have e1 := World.cell?_setCell_same' W7 ⟨w.heap.size + 1, 0, none⟩ (.slice (some ⟨w.heap.size + 3, 0, none⟩) es.length es.length) (by rw [i1]; rfl)
    rw [← e1]
    simp [go_sem]
  have a1' : ((W7.setCell ⟨w.heap.size + 1, 0, none⟩ (.slice (some ⟨w.heap.size + 3, 0, none⟩) es.length es.length)).setCell ⟨w.heap.size + 1, 1, none⟩ (.slice (some ⟨W5.heap.size, 0, none⟩) ns.length ns.length)).cell? ⟨w.heap.size + 1, 1, none⟩ = some (.slice (some ⟨W5.heap.size, 0, none⟩) ns.length ns.length) :=
    World.cell?_setCell_same' _ _ _ (by
      have : (W7.setCell ⟨w.heap.size + 1, 0, none⟩ (.slice (some ⟨w.heap.size + 3, 0, none⟩) es.length es.length)).cell? ⟨w.heap.size + 1, 1, none⟩ = W7.cell? ⟨w.heap.size + 1, 1, none⟩ := by simp [go_sem]
      rw [this, i2]; rfl)
  refine bodyPost_ret (v := .agg #[.slice (some ⟨w.heap.size + 3, 0, none⟩) es.length es.length, .slice (some ⟨W5.heap.size, 0, none⟩) ns.length ns.length]) (by simp [results, Tryz.results6, go_sem, a0', a1']) rfl ⟨_, _, rfl, by omega, ?_, by omega, ?_, hb8⟩
  · intro k hk c hc
    rw [hfar _ _ (by omega) (by omega)]
    exact HE6.out.1 k hk c hc
  · intro k hk c hc
    rw [hfar _ _ (by omega) (by omega)]
    exact HE6.out.2 k hk c hc

set_option maxRecDepth 100000 in
theorem eqProg_calls (be bt be' bt' : Nat) (es : List Ef) (ns : List Nd) (w : World) (h1 : be < w.heap.size) (h2 : bt < w.heap.size) (h3 : be' < w.heap.size) (h4 : bt' < w.heap.size) (e1 : EffsAt w be 0 es) (e2 : NodesAt w bt 0 ns) (e3 : EffsAt w be' 0 es) (e4 : NodesAt w bt' 0 ns) (m0 : es.length ≤ 1048576) (m1 : ns.length ≤ 1048576) :
    Calls Tryz.prog 8 #[.agg #[.slice (some ⟨be, 0, none⟩) es.length es.length, .slice (some ⟨bt, 0, none⟩) ns.length ns.length], .agg #[.slice (some ⟨be', 0, none⟩) es.length es.length, .slice (some ⟨bt', 0, none⟩) ns.length ns.length]] w fun e w' => e = .returned (.bool true) ∧ Below w.heap.size w w' := by
  have hb2 : Below w.heap.size w ((w.alloc (.cells #[.slice (some ⟨be, 0, none⟩) es.length es.length, .slice (some ⟨bt, 0, none⟩) ns.length ns.length] 31)).alloc (.cells #[.slice (some ⟨be', 0, none⟩) es.length es.length, .slice (some ⟨bt', 0, none⟩) ns.length ns.length] 31)) := ((Below.refl _ _).alloc (Nat.le_refl _) _).alloc (by simp) _
  have HB : Hid (Below w.heap.size w _) := hb2
  have HX : Hid (Calls _ _ _ _ _) := eqEffS_calls be 0 be' 0 es.length es.length es.length es _ (Nat.lt_of_lt_of_le h1 hb2.size) (Nat.lt_of_lt_of_le h3 hb2.size) (e1.below hb2 h1) (e3.below hb2 h3) (Nat.le_refl _) m0
  have HN : Hid (NodesAt w bt 0 ns ∧ NodesAt w bt' 0 ns ∧ ns.length ≤ 1048576) := ⟨e2, e4, m1⟩
  clear e1 e2 e3 e4 m0 m1 hb2 h1 h3
  go_enter Tryz.func8, Tryz.ntmps8
  go_wp2_with fail
  refine HX.out.mono ?_
  rintro e w2 ⟨rfl, hb⟩
  have hb3 := HB.out.trans (hb.mono HB.out.size)
  have q1 : w2.cell? ⟨w.heap.size, 1, none⟩ = some (.slice (some ⟨bt, 0, none⟩) ns.length ns.length) := (hb.cell (p := ⟨w.heap.size, 1, none⟩) (by simp; omega)).trans (by simp [go_sem])
  have q2 : w2.cell? ⟨w.heap.size + 1, 1, none⟩ = some (.slice (some ⟨bt', 0, none⟩) ns.length ns.length) := (hb.cell (p := ⟨w.heap.size + 1, 1, none⟩) (by simp)).trans (by simp [go_sem])
  have HY : Hid (Calls _ _ _ _ _) := eqNodeS_calls bt 0 bt' 0 ns.length ns.length ns.length ns w2 (Nat.lt_of_lt_of_le h2 hb3.size) (Nat.lt_of_lt_of_le h4 hb3.size) (HN.out.1.below hb3 h2) (HN.out.2.1.below hb3 h4) (Nat.le_refl _) HN.out.2.2
  clear HX HB hb
  go_wp2_with fail
  refine HY.out.mono ?_
  rintro e w3 ⟨rfl, hb4⟩
  have hb5 := hb3.trans (hb4.mono hb3.size)
  clear HY hb4 q1 q2
  go_wp2_with fail
  go_ret
  exact ⟨rfl, hb5⟩
end Go.Proofs.YtegolepjpmbchaaGreat
