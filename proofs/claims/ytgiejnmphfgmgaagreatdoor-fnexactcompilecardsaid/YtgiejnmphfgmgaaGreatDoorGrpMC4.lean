/- A program that is handed in: its operations and its tree, read as plain values; what the laws' helpers do to it. -/
import Derived.Test.YtgiejnmphfgmgaaGreatDoorEffWalks
import Derived.Test.YtgiejnmphfgmgaaGreatDoorKept
import Derived.Test.YtgiejnmphfgmgaaGreatDoorGrpMC3
import Derived.Test.YtgiejnmphfgmgaaGreatDoorInsRows
import Derived.Test.YtgiejnmphfgmgaaGreatDoorRows
import Derived.ProofKit
import Derived.LaidMore
import Derived.OpenShut
import Derived.Lib.LaidTab
import Derived.Test.YtgiejnmphfgmgaaGreatDoorCards
import Derived.Test.YtgiejnmphfgmgaaGreatDoorTie
import Derived.Deep.DeepHandedRow
import Derived.JoinedCond
import Derived.ChangeVars
namespace Go.Proofs.YtgiejnmphfgmgaaGreatDoor
open Go.RowKit Go.Deep Go.ChangeShapes Go.WideShapes

def EffSlice (w : World) (v : Value) (ns : List Ef) : Prop :=
  ∃ a cap, v = .slice a ns.length cap ∧ (ns = [] ∨ ∃ b off, a = some ⟨b, off, none⟩ ∧ b < w.heap.size ∧ EffsAt w b off ns)

theorem EffSlice.below {w w' : World} {v : Value} {ns : List Ef} (h : EffSlice w v ns) (hb : Below w.heap.size w w') : EffSlice w' v ns := by
  obtain ⟨a, cap, rfl, h⟩ := h
  refine ⟨a, cap, rfl, h.imp id ?_⟩
  rintro ⟨b, off, rfl, hlt, hn⟩
  exact ⟨b, off, rfl, Nat.lt_of_lt_of_le hlt hb.size, hn.below hb hlt⟩

theorem Tryz.cellsOfEff : Tryz.prog.cellsOf 73 = 3 := by kernel_rfl
theorem Tryz.cellsOfEffs : Tryz.prog.cellsOf 22 = 1 := by kernel_rfl
theorem Tryz.cellsOfNodes : Tryz.prog.cellsOf 23 = 1 := by kernel_rfl
theorem Tryz.cellsOfProg : Tryz.prog.cellsOf 25 = 2 := by kernel_rfl

section
variable {H : Type} {enc : TypeId × Value → H} {W : World} {sp : Nat → Bool} {held : Bool}

set_option maxRecDepth 100000 in
theorem open_eff {fuel : Nat} {cs : List Value} {x : DataW H × List MemPlace} (h : DataW.trod enc Tryz.prog W 0 sp held fuel 73 cs = some x) :
    ∃ n : Ef, cs = [n.cell 0, n.cell 1, n.cell 2] ∧ n.name.size ≤ maxLen := by
  obtain ⟨xs, k, hk, hxy, hcl, hxl, hf⟩ := DataW.trod_struct Tryz.underlying73 h
  rw [Tryz.cellsOfEff] at hcl
  match xs, hxl, cs, hcl with
  | [y0, y1, y2], _, [v0, v1, v2], _ =>
    have g0 := hf 0 _ rfl
    have g1 := hf 1 _ rfl
    have g2 := hf 2 _ rfl
    simp [Tryz.cellsOfInt, Tryz.cellsOfString] at g0 g1 g2
    obtain ⟨s0, e0, _, l0⟩ := DataW.trod_string Tryz.underlying9 g0
    obtain ⟨i1, e1, _⟩ := DataW.trod_int Tryz.underlying3 g1
    obtain ⟨i2, e2, _⟩ := DataW.trod_int Tryz.underlying3 g2
    simp at e0 e1 e2
    subst e0 e1 e2
    exact ⟨⟨s0, i1, i2⟩, rfl, l0⟩

set_option maxRecDepth 100000 in
theorem open_effs {fuel : Nat} {v : Value} {x : DataW H × List MemPlace} (h : DataW.trod enc Tryz.prog W 0 sp held fuel 22 [v] = some x) :
    ∃ ns, EffSlice W v ns ∧ EfShort ns ∧ ns.length ≤ maxLen := by
  rcases open_slice Tryz.underlying22 h with ⟨hc, _⟩ | ⟨a, len, cap, m, k, D, Pl, hc, _, hl, hm, hmm, _, hall⟩
  · simp at hc
    subst hc
    exact ⟨[], ⟨_, _, rfl, Or.inl rfl⟩, fun n hn => by simp at hn, by simp⟩
  · simp at hc
    subst hc
    have hlm : len ≤ m := by rw [hmm]; split <;> omega
    obtain ⟨f, hf⟩ := choose_lt (α := Ef) (n := len) (p := fun i n => (∀ c, c < 3 → W.cell? (a.add (i * 3 + c)) = some (n.cell c)) ∧ n.name.size ≤ maxLen) (fun i hi => by
      obtain ⟨cs', h1, h2⟩ := hall i (by omega)
      rw [Tryz.cellsOfEff] at h1
      obtain ⟨_, _, hcell⟩ := World.cells?_some h1
      obtain ⟨n, rfl, l2⟩ := open_eff h2
      refine ⟨n, fun c hc => ?_, l2⟩
      have := hcell c hc
      rw [add_add] at this
      rw [this]
      match c, hc with
      | 0, _ => rfl
      | 1, _ => rfl
      | 2, _ => rfl)
    refine ⟨(List.range len).map f, ⟨some a, cap, by simp, ?_⟩, fun n hn => ?_, by simp; omega⟩
    · by_cases h0 : len = 0
      · left
        simp [h0]
      · right
        obtain ⟨b, off, spot⟩ := a
        have hspot : spot = none := by simpa [Addr.add] using World.cell?_spot ((hf 0 (by omega)).1 0 (by omega))
        subst hspot
        have hlt : b < W.heap.size := by
          have := (hf 0 (by omega)).1 0 (by omega)
          exact block_lt_of_cell this
        refine ⟨b, off, rfl, hlt, fun j hj c hc => ?_⟩
        simp at hj
        have := (hf j hj).1 c hc
        rw [add_plain] at this
        rw [Nat.add_assoc, this]
        simp [List.getD, hj]
    · simp at hn
      obtain ⟨i, hi, rfl⟩ := hn
      exact (hf i hi).2

set_option maxRecDepth 100000 in
/-- A program, out of its two cells. -/
theorem open_prog {fuel : Nat} {cs : List Value} {x : DataW H × List MemPlace} (h : DataW.trod enc Tryz.prog W 0 sp held fuel 25 cs = some x) :
    ∃ v0 v1 es ns, cs = [v0, v1] ∧ EffSlice W v0 es ∧ EfShort es ∧ es.length ≤ maxLen ∧ NodeSlice W v1 ns ∧ Short ns ∧ ns.length ≤ maxLen := by
  obtain ⟨xs, k, hk, hxy, hcl, hxl, hf⟩ := DataW.trod_struct Tryz.underlying25 h
  rw [Tryz.cellsOfProg] at hcl
  match xs, hxl, cs, hcl with
  | [y0, y1], _, [v0, v1], _ =>
    have g0 := hf 0 _ rfl
    have g1 := hf 1 _ rfl
    simp [Tryz.cellsOfEffs, Tryz.cellsOfNodes] at g0 g1
    obtain ⟨es, h1, h2, h3⟩ := open_effs g0
    obtain ⟨ns, h4, h5, h6⟩ := open_nodes g1
    exact ⟨v0, v1, es, ns, rfl, h1, h2, h3, h4, h5, h6⟩
end

set_option maxRecDepth 100000 in
theorem szEffS_none (a : Option Addr) (cap : Nat) (left : Int) (w : World) (h0 : 0 ≤ left) (h1 : left ≤ 1048576) :
    Calls Tryz.prog 13 #[.slice a 0 cap, .int .i64 left] w fun e w' => (∃ r : Int, e = .returned (.int .i64 r) ∧ r ≤ left) ∧ Below w.heap.size w w' := by
  go_enter Tryz.func13, Tryz.ntmps13
  go_wp2
  refine wp_loop_rounds 1 ?_
  rw [rounds_succ]
  go_wp2
  go_ret
  exact ⟨⟨_, rfl, by omega⟩, Below.refl _ _⟩

theorem szEffS_any {v : Value} {ns : List Ef} (left : Int) (w : World) (hv : EffSlice w v ns) (hs : EfShort ns) (hm : ns.length ≤ maxLen) (h0 : 0 ≤ left) (h1 : left ≤ 1048576) :
    Calls Tryz.prog 13 #[v, .int .i64 left] w fun e w' => (∃ r : Int, e = .returned (.int .i64 r) ∧ r ≤ left ∧ (r < 0 ∨ ns.length ≤ 1048576)) ∧ Below w.heap.size w w' := by
  obtain ⟨a, cap, rfl, h⟩ := hv
  by_cases he : ns = []
  · subst he
    refine (szEffS_none a cap left w h0 h1).mono ?_
    rintro e w' ⟨⟨r, rfl, hr⟩, hb⟩
    exact ⟨⟨r, rfl, hr, Or.inr (by simp)⟩, hb⟩
  · obtain ⟨b, off, rfl, hb, hn⟩ := h.resolve_left he
    exact szEffS_calls b off ns.length cap ns left w hb hn hs (Nat.le_refl _) hm h0 h1

set_option maxRecDepth 100000 in
theorem toEffS_none (a : Option Addr) (cap : Nat) (w : World) :
    Calls Tryz.prog 20 #[.slice a 0 cap] w fun e w' => e = .returned (.slice (some ⟨w.heap.size, 0, none⟩) 0 0) ∧ w.heap.size < w'.heap.size ∧ Below w.heap.size w w' := by
  obtain ⟨c, hcs, hmk⟩ := made_effs 0 (by omega) w
  simp only [Int.cast_ofNat_Int] at hmk
  go_enter Tryz.func20, Tryz.ntmps20
  go_wp2
  refine wp_loop_rounds 1 ?_
  rw [rounds_succ]
  go_wp2
  go_ret
  exact ⟨rfl, by simp, (Below.refl _ _).alloc (Nat.le_refl _) _⟩

theorem toEffS_any {v : Value} {ns : List Ef} (w : World) (hv : EffSlice w v ns) (hm : ns.length ≤ 1048576) :
    Calls Tryz.prog 20 #[v] w fun e w' => e = .returned (.slice (some ⟨w.heap.size, 0, none⟩) ns.length ns.length) ∧ EffsAt w' w.heap.size 0 ns ∧ w.heap.size < w'.heap.size ∧ Below w.heap.size w w' := by
  obtain ⟨a, cap, rfl, h⟩ := hv
  by_cases he : ns = []
  · subst he
    refine (toEffS_none a cap w).mono ?_
    rintro e w' ⟨rfl, h1, h2⟩
    exact ⟨rfl, fun k hk => by simp at hk, h1, h2⟩
  · obtain ⟨b, off, rfl, hb, hn⟩ := h.resolve_left he
    refine (toEffS_calls b off ns.length cap ns w hb hn (Nat.le_refl _) hm).mono ?_
    rintro e w' ⟨rfl, h1, h2, h3⟩
    rw [List.take_length] at h1
    exact ⟨rfl, h1, h2, h3⟩

set_option maxRecDepth 100000 in
theorem szProg_calls {v0 v1 : Value} {es : List Ef} {ns : List Nd} (left : Int) (w : World) (h0 : EffSlice w v0 es) (s0 : EfShort es) (m0 : es.length ≤ maxLen) (h1 : NodeSlice w v1 ns) (s1 : Short ns) (m1 : ns.length ≤ maxLen) (hl0 : 0 ≤ left) (hl1 : left ≤ 1048576) :
    Calls Tryz.prog 4 #[.agg #[v0, v1], .int .i64 left] w fun e w' => (∃ r : Int, e = .returned (.int .i64 r) ∧ (r < 0 ∨ (es.length ≤ 1048576 ∧ ns.length ≤ 1048576))) ∧ Below w.heap.size w w' := by
  have hv0 := h0
  have hv1 := h1
  obtain ⟨a0, cap0, rfl, _⟩ := h0
  obtain ⟨a1, cap1, rfl, _⟩ := h1
  have HB : Hid (Below w.heap.size w (w.alloc (.cells #[.slice a0 es.length cap0, .slice a1 ns.length cap1] 25))) := (Below.refl _ _).alloc (Nat.le_refl _) _
  have HX : Hid (Calls _ _ _ _ _) := szEffS_any left _ (hv0.below HB.out) s0 m0 hl0 hl1
  have HV : Hid (NodeSlice w (.slice a1 ns.length cap1) ns ∧ Short ns ∧ ns.length ≤ maxLen) := ⟨hv1, s1, m1⟩
  clear hv0 hv1 s0 m0 s1 m1
  go_enter Tryz.func4, Tryz.ntmps4
  go_wp2_with fail
  refine HX.out.mono ?_
  rintro e w1 ⟨⟨r, rfl, hr1, hr2⟩, hb1⟩
  have hb2 := HB.out.trans (hb1.mono HB.out.size)
  have p1 : w1.cell? ⟨w.heap.size, 1, none⟩ = some (.slice a1 ns.length cap1) := (hb1.cell (p := ⟨w.heap.size, 1, none⟩) (by simp)).trans (by simp [go_sem])
  by_cases hneg : r < 0
  · clear HX HV hb1
    go_wp2_with fail
    go_ret
    exact ⟨⟨_, rfl, Or.inl (by decide)⟩, hb2⟩
  · have hes : Hid (es.length ≤ 1048576) := hr2.resolve_left hneg
    have HY : Hid (Calls _ _ _ _ _) := szNodeS_any r w1 (HV.out.1.below hb2) HV.out.2.1 HV.out.2.2 (by omega) (by omega)
    clear HX HV hb1 hr2
    go_wp2_with fail
    refine HY.out.mono ?_
    rintro e w2 ⟨⟨r2, rfl, hq1, hq2⟩, hb3⟩
    have hb4 := hb2.trans (hb3.mono hb2.size)
    clear hb3 HY p1
    by_cases hneg2 : r2 < 0
    · clear hq2
      go_wp2_with fail
      go_ret
      exact ⟨⟨_, rfl, Or.inl (by decide)⟩, hb4⟩
    · have hns : Hid (ns.length ≤ 1048576) := hq2.resolve_left hneg2
      clear hq2
      go_wp2_with fail
      go_ret
      exact ⟨⟨_, rfl, Or.inr ⟨hes.out, hns.out⟩⟩, hb4⟩

set_option maxRecDepth 100000 in
theorem toProg_calls {v0 v1 : Value} {es : List Ef} {ns : List Nd} (w : World) (h0 : EffSlice w v0 es) (m0 : es.length ≤ 1048576) (h1 : NodeSlice w v1 ns) (m1 : ns.length ≤ 1048576) :
    Calls Tryz.prog 6 #[.agg #[v0, v1]] w fun e w' => ∃ be bt, e = .returned (.agg #[.slice (some ⟨be, 0, none⟩) es.length es.length, .slice (some ⟨bt, 0, none⟩) ns.length ns.length]) ∧ be < w'.heap.size ∧ EffsAt w' be 0 es ∧ bt < w'.heap.size ∧ NodesAt w' bt 0 ns ∧ Below w.heap.size w w' := by
  have hv0 := h0
  have hv1 := h1
  obtain ⟨a0, cap0, rfl, _⟩ := h0
  obtain ⟨a1, cap1, rfl, _⟩ := h1
  have HV : Hid (EffSlice w (.slice a0 es.length cap0) es ∧ NodeSlice w (.slice a1 ns.length cap1) ns ∧ es.length ≤ 1048576 ∧ ns.length ≤ 1048576) := ⟨hv0, hv1, m0, m1⟩
  clear hv0 hv1 m0 m1
  have hb1 : Below w.heap.size w (w.alloc (.cells #[.slice a0 es.length cap0, .slice a1 ns.length cap1] 25)) := (Below.refl _ _).alloc (Nat.le_refl _) _
  have hb2 := hb1.alloc (by simp) (.cells #[.slice none 0 0, .slice none 0 0] 33)
  have hb3 := hb2.alloc (by simp; omega) (.cells #[.slice none 0 0, .slice none 0 0] 33)
  obtain ⟨W3, hW3⟩ : ∃ W3, (((w.alloc (.cells #[.slice a0 es.length cap0, .slice a1 ns.length cap1] 25)).alloc (.cells #[.slice none 0 0, .slice none 0 0] 33)).alloc (.cells #[.slice none 0 0, .slice none 0 0] 33)) = W3 := ⟨_, rfl⟩
  have hsz : W3.heap.size = w.heap.size + 3 := by rw [← hW3]; simp
  have k0 : W3.heap[w.heap.size]? = some (.cells #[.slice a0 es.length cap0, .slice a1 ns.length cap1] 25) := by
    rw [← hW3, Below.heap_alloc _ _ _ (by simp; omega), Below.heap_alloc _ _ _ (by simp)]
    exact (MapKept.heap_alloc w _).1
  have k1 : W3.heap[w.heap.size + 1]? = some (.cells #[.slice none 0 0, .slice none 0 0] 33) := by
    rw [← hW3, Below.heap_alloc _ _ _ (by simp)]
    have := (MapKept.heap_alloc (w.alloc (.cells #[.slice a0 es.length cap0, .slice a1 ns.length cap1] 25)) (.cells #[.slice none 0 0, .slice none 0 0] 33)).1
    simpa using this
  have k2 : W3.heap[w.heap.size + 1 + 1]? = some (.cells #[.slice none 0 0, .slice none 0 0] 33) := by
    rw [← hW3]
    have := (MapKept.heap_alloc ((w.alloc (.cells #[.slice a0 es.length cap0, .slice a1 ns.length cap1] 25)).alloc (.cells #[.slice none 0 0, .slice none 0 0] 33)) (.cells #[.slice none 0 0, .slice none 0 0] 33)).1
    simpa using this
  rw [hW3] at hb3
  have HW : Hid (_ = W3) := hW3
  have HB3 : Hid (Below w.heap.size w W3) := hb3
  have HX : Hid (Calls _ _ _ _ _) := toEffS_any W3 (HV.out.1.below hb3) HV.out.2.2.1
  have HS : Hid (W3.heap.size = w.heap.size + 3) := hsz
  have HK : Hid (W3.heap[w.heap.size]? = some (.cells #[.slice a0 es.length cap0, .slice a1 ns.length cap1] 25) ∧ W3.heap[w.heap.size + 1]? = some (.cells #[.slice none 0 0, .slice none 0 0] 33) ∧ W3.heap[w.heap.size + 1 + 1]? = some (.cells #[.slice none 0 0, .slice none 0 0] 33)) := ⟨k0, k1, k2⟩
  clear hb1 hb2 hb3 hW3 hsz k0 k1 k2
  go_enter Tryz.func6, Tryz.ntmps6
  go_wp2_with fail
  rw [HW.out]
  refine HX.out.mono ?_
  rintro e w4 ⟨rfl, hE4, hlt4, hb4⟩
  have hs3 := HS.out
  have k0 := (hb4.block w.heap.size (by omega)).trans HK.out.1
  have k1 := (hb4.block (w.heap.size + 1) (by omega)).trans HK.out.2.1
  have k2 := (hb4.block (w.heap.size + 1 + 1) (by omega)).trans HK.out.2.2
  have q01 := cell_of_heap k0 1
  have q10 := cell_of_heap k1 0
  have q11 := cell_of_heap k1 1
  have z10 := frozen_of_heap k1 0
  have z11 := frozen_of_heap k1 1
  have q20 := cell_of_heap k2 0
  have q21 := cell_of_heap k2 1
  have z20 := frozen_of_heap k2 0
  have z21 := frozen_of_heap k2 1
  simp at q01 q10 q11 q20 q21
  have HE : Hid (EffsAt w4 W3.heap.size 0 es ∧ W3.heap.size < w4.heap.size ∧ Below W3.heap.size W3 w4) := ⟨hE4, hlt4, hb4⟩
  have hlt5 : w.heap.size + 3 < w4.heap.size := by omega
  clear hE4 hlt4 hb4 HX HK HW hs3 k0 k1 k2
  rw [HS.out]
  go_wp2_with fail
  have hb4 : Below w.heap.size w w4 := HB3.out.trans (HE.out.2.2.mono HB3.out.size)
  have hb5 := hb4.setCell (p := ⟨w.heap.size + 1 + 1, 0, none⟩) (by show w.heap.size ≤ w.heap.size + 1 + 1; omega) (.slice (some ⟨w.heap.size + 3, 0, none⟩) es.length es.length)
  have hsz5 : w4.heap.size ≤ (w4.setCell ⟨w.heap.size + 1 + 1, 0, none⟩ (.slice (some ⟨w.heap.size + 3, 0, none⟩) es.length es.length)).heap.size := ((Below.refl 0 w4).setCell (Nat.zero_le _) _).size
  have hE5 : EffsAt (w4.setCell ⟨w.heap.size + 1 + 1, 0, none⟩ (.slice (some ⟨w.heap.size + 3, 0, none⟩) es.length es.length)) (w.heap.size + 3) 0 es := fun k hk c hc => by
    have := HE.out.1 k hk c hc
    rw [HS.out] at this
    rw [← this]
    exact World.cell?_of_block (w := w4) (Below.heap_setCell w4 _ _ _ (by show w.heap.size + 3 ≠ w.heap.size + 1 + 1; omega))
  have r20 : (w4.setCell ⟨w.heap.size + 1 + 1, 0, none⟩ (.slice (some ⟨w.heap.size + 3, 0, none⟩) es.length es.length)).cell? ⟨w.heap.size + 1 + 1, 0, none⟩ = some (.slice (some ⟨w.heap.size + 3, 0, none⟩) es.length es.length) := World.cell?_setCell_same' _ _ _ (by rw [q20]; rfl)
  have r21 : (w4.setCell ⟨w.heap.size + 1 + 1, 0, none⟩ (.slice (some ⟨w.heap.size + 3, 0, none⟩) es.length es.length)).cell? ⟨w.heap.size + 1 + 1, 1, none⟩ = some (.slice none 0 0) := by rw [← q21]; simp [go_sem]
  have r10 : (w4.setCell ⟨w.heap.size + 1 + 1, 0, none⟩ (.slice (some ⟨w.heap.size + 3, 0, none⟩) es.length es.length)).cell? ⟨w.heap.size + 1, 0, none⟩ = some (.slice none 0 0) := by rw [← q10]; exact World.cell?_of_block (w := w4) (Below.heap_setCell w4 _ _ _ (by show w.heap.size + 1 ≠ w.heap.size + 1 + 1; omega))
  have r11 : (w4.setCell ⟨w.heap.size + 1 + 1, 0, none⟩ (.slice (some ⟨w.heap.size + 3, 0, none⟩) es.length es.length)).cell? ⟨w.heap.size + 1, 1, none⟩ = some (.slice none 0 0) := by rw [← q11]; exact World.cell?_of_block (w := w4) (Below.heap_setCell w4 _ _ _ (by show w.heap.size + 1 ≠ w.heap.size + 1 + 1; omega))
  have x10 : (w4.setCell ⟨w.heap.size + 1 + 1, 0, none⟩ (.slice (some ⟨w.heap.size + 3, 0, none⟩) es.length es.length)).frozen? ⟨w.heap.size + 1, 0, none⟩ = false := by simp [z10]
  have x11 : (w4.setCell ⟨w.heap.size + 1 + 1, 0, none⟩ (.slice (some ⟨w.heap.size + 3, 0, none⟩) es.length es.length)).frozen? ⟨w.heap.size + 1, 1, none⟩ = false := by simp [z11]
  have x21 : (w4.setCell ⟨w.heap.size + 1 + 1, 0, none⟩ (.slice (some ⟨w.heap.size + 3, 0, none⟩) es.length es.length)).frozen? ⟨w.heap.size + 1 + 1, 1, none⟩ = false := by simp [z21]
  clear q01 q10 q11 q20 q21 z10 z11 z20 z21 HE HB3 hb4 HS
  generalize (w4.setCell ⟨w.heap.size + 1 + 1, 0, none⟩ (.slice (some ⟨w.heap.size + 3, 0, none⟩) es.length es.length)) = W5 at *
  have hlt6 : w.heap.size + 3 < W5.heap.size := by omega
  refine (toNodeS_any W5 (HV.out.2.1.below hb5) HV.out.2.2.2).mono ?_
  rintro e w6 ⟨rfl, hN6, hlt7, hb6⟩
  have t20 := (hb6.cell (p := ⟨w.heap.size + 1 + 1, 0, none⟩) (by show w.heap.size + 1 + 1 < W5.heap.size; omega)).trans r20
  have t21 := (hb6.cell (p := ⟨w.heap.size + 1 + 1, 1, none⟩) (by show w.heap.size + 1 + 1 < W5.heap.size; omega)).trans r21
  have t10 := (hb6.cell (p := ⟨w.heap.size + 1, 0, none⟩) (by show w.heap.size + 1 < W5.heap.size; omega)).trans r10
  have t11 := (hb6.cell (p := ⟨w.heap.size + 1, 1, none⟩) (by show w.heap.size + 1 < W5.heap.size; omega)).trans r11
  have y10 := (hb6.frozen (p := ⟨w.heap.size + 1, 0, none⟩) (by show w.heap.size + 1 < W5.heap.size; omega)).trans x10
  have y11 := (hb6.frozen (p := ⟨w.heap.size + 1, 1, none⟩) (by show w.heap.size + 1 < W5.heap.size; omega)).trans x11
  have y21 := (hb6.frozen (p := ⟨w.heap.size + 1 + 1, 1, none⟩) (by show w.heap.size + 1 + 1 < W5.heap.size; omega)).trans x21
  have hb7 := hb5.trans (hb6.mono hb5.size)
  have HE6 : Hid (EffsAt w6 (w.heap.size + 3) 0 es ∧ NodesAt w6 W5.heap.size 0 ns) := ⟨hE5.below hb6 hlt6, hN6⟩
  clear hE5 hN6 hb6 hb5 r20 r21 r10 r11 x10 x11 x21 HV hsz5
  go_wp2_with fail
  have hfar : ∀ b k, b ≠ w.heap.size + 1 → b ≠ w.heap.size + 1 + 1 → (((w6.setCell ⟨w.heap.size + 1 + 1, 1, none⟩ (.slice (some ⟨W5.heap.size, 0, none⟩) ns.length ns.length)).setCell ⟨w.heap.size + 1, 0, none⟩ (.slice (some ⟨w.heap.size + 3, 0, none⟩) es.length es.length)).setCell ⟨w.heap.size + 1, 1, none⟩ (.slice (some ⟨W5.heap.size, 0, none⟩) ns.length ns.length)).cell? ⟨b, k, none⟩ = w6.cell? ⟨b, k, none⟩ := fun b k h1 h2 => by
    refine World.cell?_of_block ?_
    rw [Below.heap_setCell _ _ _ _ h1, Below.heap_setCell _ _ _ _ h1, Below.heap_setCell _ _ _ _ h2]
  have hb8 := ((hb7.setCell (p := ⟨w.heap.size + 1 + 1, 1, none⟩) (by show w.heap.size ≤ w.heap.size + 1 + 1; omega) (.slice (some ⟨W5.heap.size, 0, none⟩) ns.length ns.length)).setCell (p := ⟨w.heap.size + 1, 0, none⟩) (by show w.heap.size ≤ w.heap.size + 1; omega) (.slice (some ⟨w.heap.size + 3, 0, none⟩) es.length es.length)).setCell (p := ⟨w.heap.size + 1, 1, none⟩) (by show w.heap.size ≤ w.heap.size + 1; omega) (.slice (some ⟨W5.heap.size, 0, none⟩) ns.length ns.length)
  have hsz := ((((Below.refl 0 w6).setCell (p := ⟨w.heap.size + 1 + 1, 1, none⟩) (Nat.zero_le _) (.slice (some ⟨W5.heap.size, 0, none⟩) ns.length ns.length)).setCell (p := ⟨w.heap.size + 1, 0, none⟩) (Nat.zero_le _) (.slice (some ⟨w.heap.size + 3, 0, none⟩) es.length es.length)).setCell (p := ⟨w.heap.size + 1, 1, none⟩) (Nat.zero_le _) (.slice (some ⟨W5.heap.size, 0, none⟩) ns.length ns.length)).size
  have i1 : ((w6.setCell ⟨w.heap.size + 1 + 1, 1, none⟩ (.slice (some ⟨W5.heap.size, 0, none⟩) ns.length ns.length)).cell? ⟨w.heap.size + 1, 0, none⟩) = some (.slice none 0 0) := by rw [← t10]; exact World.cell?_of_block (Below.heap_setCell w6 _ _ _ (by show w.heap.size + 1 ≠ w.heap.size + 1 + 1; omega))
  have i2 : ((w6.setCell ⟨w.heap.size + 1 + 1, 1, none⟩ (.slice (some ⟨W5.heap.size, 0, none⟩) ns.length ns.length)).cell? ⟨w.heap.size + 1, 1, none⟩) = some (.slice none 0 0) := by rw [← t11]; exact World.cell?_of_block (Below.heap_setCell w6 _ _ _ (by show w.heap.size + 1 ≠ w.heap.size + 1 + 1; omega))
  generalize hW7 : w6.setCell ⟨w.heap.size + 1 + 1, 1, none⟩ (.slice (some ⟨W5.heap.size, 0, none⟩) ns.length ns.length) = W7 at *
  have a0' : ((W7.setCell ⟨w.heap.size + 1, 0, none⟩ (.slice (some ⟨w.heap.size + 3, 0, none⟩) es.length es.length)).setCell ⟨w.heap.size + 1, 1, none⟩ (.slice (some ⟨W5.heap.size, 0, none⟩) ns.length ns.length)).cell? ⟨w.heap.size + 1, 0, none⟩ = some (.slice (some ⟨w.heap.size + 3, 0, none⟩) es.length es.length) := by
    have e1 := World.cell?_setCell_same' W7 ⟨w.heap.size + 1, 0, none⟩ (.slice (some ⟨w.heap.size + 3, 0, none⟩) es.length es.length) (by rw [i1]; rfl)
    rw [← e1]
    simp [go_sem]
  have a1' : ((W7.setCell ⟨w.heap.size + 1, 0, none⟩ (.slice (some ⟨w.heap.size + 3, 0, none⟩) es.length es.length)).setCell ⟨w.heap.size + 1, 1, none⟩ (.slice (some ⟨W5.heap.size, 0, none⟩) ns.length ns.length)).cell? ⟨w.heap.size + 1, 1, none⟩ = some (.slice (some ⟨W5.heap.size, 0, none⟩) ns.length ns.length) :=
    World.cell?_setCell_same' _ _ _ (by
      have : (W7.setCell ⟨w.heap.size + 1, 0, none⟩ (.slice (some ⟨w.heap.size + 3, 0, none⟩) es.length es.length)).cell? ⟨w.heap.size + 1, 1, none⟩ = W7.cell? ⟨w.heap.size + 1, 1, none⟩ := by simp [go_sem]
      rw [this, i2]; rfl)
  refine bodyPost_ret (v := .agg #[.slice (some ⟨w.heap.size + 3, 0, none⟩) es.length es.length, .slice (some ⟨W5.heap.size, 0, none⟩) ns.length ns.length]) (by simp [results, Tryz.results6, go_sem, a0', a1']) rfl ⟨_, _, rfl, by omega, ?_, by omega, ?_, hb8⟩
  · intro k hk c hc
    rw [hfar _ _ (by omega) (by omega)]
    exact HE6.out.1 k hk c hc
  · intro k hk c hc
    rw [hfar _ _ (by omega) (by omega)]
    exact HE6.out.2 k hk c hc

set_option maxRecDepth 100000 in
theorem eqProg_calls (be bt be' bt' : Nat) (es : List Ef) (ns : List Nd) (w : World) (h1 : be < w.heap.size) (h2 : bt < w.heap.size) (h3 : be' < w.heap.size) (h4 : bt' < w.heap.size) (e1 : EffsAt w be 0 es) (e2 : NodesAt w bt 0 ns) (e3 : EffsAt w be' 0 es) (e4 : NodesAt w bt' 0 ns) (m0 : es.length ≤ 1048576) (m1 : ns.length ≤ 1048576) :
    Calls Tryz.prog 9 #[.agg #[.slice (some ⟨be, 0, none⟩) es.length es.length, .slice (some ⟨bt, 0, none⟩) ns.length ns.length], .agg #[.slice (some ⟨be', 0, none⟩) es.length es.length, .slice (some ⟨bt', 0, none⟩) ns.length ns.length]] w fun e w' => e = .returned (.bool true) ∧ Below w.heap.size w w' := by
  have hb2 : Below w.heap.size w ((w.alloc (.cells #[.slice (some ⟨be, 0, none⟩) es.length es.length, .slice (some ⟨bt, 0, none⟩) ns.length ns.length] 33)).alloc (.cells #[.slice (some ⟨be', 0, none⟩) es.length es.length, .slice (some ⟨bt', 0, none⟩) ns.length ns.length] 33)) := ((Below.refl _ _).alloc (Nat.le_refl _) _).alloc (by simp) _
  have HB : Hid (Below w.heap.size w _) := hb2
  have HX : Hid (Calls _ _ _ _ _) := eqEffS_calls be 0 be' 0 es.length es.length es.length es _ (Nat.lt_of_lt_of_le h1 hb2.size) (Nat.lt_of_lt_of_le h3 hb2.size) (e1.below hb2 h1) (e3.below hb2 h3) (Nat.le_refl _) m0
  have HN : Hid (NodesAt w bt 0 ns ∧ NodesAt w bt' 0 ns ∧ ns.length ≤ 1048576) := ⟨e2, e4, m1⟩
  clear e1 e2 e3 e4 m0 m1 hb2 h1 h3
  go_enter Tryz.func9, Tryz.ntmps9
  go_wp2_with fail
  refine HX.out.mono ?_
  rintro e w2 ⟨rfl, hb⟩
  have hb3 := HB.out.trans (hb.mono HB.out.size)
  have q1 : w2.cell? ⟨w.heap.size, 1, none⟩ = some (.slice (some ⟨bt, 0, none⟩) ns.length ns.length) := (hb.cell (p := ⟨w.heap.size, 1, none⟩) (by simp; omega)).trans (by simp [go_sem])
  have q2 : w2.cell? ⟨w.heap.size + 1, 1, none⟩ = some (.slice (some ⟨bt', 0, none⟩) ns.length ns.length) := (hb.cell (p := ⟨w.heap.size + 1, 1, none⟩) (by simp)).trans (by simp [go_sem])
  have HY : Hid (Calls _ _ _ _ _) := eqNodeS_calls bt 0 bt' 0 ns.length ns.length ns.length ns w2 (Nat.lt_of_lt_of_le h2 hb3.size) (Nat.lt_of_lt_of_le h4 hb3.size) (HN.out.1.below hb3 h2) (HN.out.2.1.below hb3 h4) (Nat.le_refl _) HN.out.2.2
  clear HX HB hb
  go_wp2_with fail
  refine HY.out.mono ?_
  rintro e w3 ⟨rfl, hb4⟩
  have hb5 := hb3.trans (hb4.mono hb3.size)
  clear HY hb4 q1 q2
  go_wp2_with fail
  go_ret
  exact ⟨rfl, hb5⟩
end Go.Proofs.YtgiejnmphfgmgaaGreatDoor

/- What a law holds in memory between its calls, told as facts, each of a stretch of blocks of its own. -/
namespace Go.Proofs.YtgiejnmphfgmgaaGreatDoor
open Go.RowKit

/-- Only such blocks are changed. -/
structure Chg (P : Nat → Prop) (w w' : World) : Prop where
  os : w'.os = w.os
  tape : w'.tape = w.tape
  output : w'.output = w.output
  size : w.heap.size ≤ w'.heap.size
  block : ∀ q, q < w.heap.size → ¬ P q → w'.heap[q]? = w.heap[q]?

theorem Chg.refl (P : Nat → Prop) (w : World) : Chg P w w := ⟨rfl, rfl, rfl, Nat.le_refl _, fun _ _ _ => rfl⟩

theorem Chg.trans {P : Nat → Prop} {w w1 w2 : World} (h : Chg P w w1) (h' : Chg P w1 w2) : Chg P w w2 :=
  ⟨h'.os.trans h.os, h'.tape.trans h.tape, h'.output.trans h.output, Nat.le_trans h.size h'.size, fun q hq hp => (h'.block q (Nat.lt_of_lt_of_le hq h.size) hp).trans (h.block q hq hp)⟩

theorem Chg.of_below {P : Nat → Prop} {w w' : World} (h : Below w.heap.size w w') : Chg P w w' := ⟨h.os, h.tape, h.output, h.size, fun q hq _ => h.block q hq⟩

theorem Chg.of_turned {P : Nat → Prop} {w w' : World} {v : Value} {n : Nat} (h : Turned w w' v n) (hp : ∀ q, n ≠ 0 → v.ownBlock = some q → P q) : Chg P w w' := by
  obtain ⟨row, hg, hrow⟩ := h
  refine ⟨hg.os, hg.tape, hg.output, hg.size, fun q hq hnp => hg.block q hq (fun e => ?_)⟩
  rcases hrow with rfl | ⟨hn, rfl⟩
  · cases e
  · exact hnp (hp q hn e.symm)

theorem Chg.set {P : Nat → Prop} {w : World} {g : Nat} (hp : P g) (i : Nat) (v : Value) : Chg P w (w.setCell ⟨g, i, none⟩ v) :=
  ⟨rfl, rfl, rfl, by simp [World.setCell], fun q _ hq => Below.heap_setCell w ⟨g, i, none⟩ v q (fun e => hq (e ▸ hp))⟩

theorem Chg.mono {P Q : Nat → Prop} {w w' : World} (h : Chg P w w') (hpq : ∀ q, P q → Q q) : Chg Q w w' := ⟨h.os, h.tape, h.output, h.size, fun q hq hn => h.block q hq (fun e => hn (hpq q e))⟩

theorem SliceR.chg {t : TypeId} {sz B : Nat} {P : Nat → Prop} {w w' : World} {v : Value} {n : Nat} {F : Nat → Value} (h : SliceR t sz B w v n F) (hc : Chg P w w') (hn : n ≠ 0 → ∀ q, v.ownBlock = some q → ¬ P q) : SliceR t sz B w' v n F := by
  obtain ⟨ad, cap, rfl, h⟩ := h
  refine ⟨ad, cap, rfl, ?_⟩
  by_cases h0 : n = 0
  · exact Or.inl h0
  · obtain ⟨g, rfl, hB, hr⟩ := h.resolve_left h0
    exact Or.inr ⟨g, rfl, hB, hr.of_block (hc.block g hr.lt (hn h0 g rfl))⟩

/-- What is told of a world depends on the blocks from lo to hi alone. -/
def Fact (lo hi : Nat) (T : World → Prop) : Prop := ∀ W W', T W → (∀ q, lo ≤ q → q < hi → W'.heap[q]? = W.heap[q]?) → T W'

theorem Fact.and {lo hi : Nat} {T U : World → Prop} (h : Fact lo hi T) (h' : Fact lo hi U) : Fact lo hi (fun W => T W ∧ U W) := fun W W' ht he => ⟨h W W' ht.1 he, h' W W' ht.2 he⟩

theorem Fact.wide {lo hi lo' hi' : Nat} {T : World → Prop} (h : Fact lo hi T) (h1 : lo' ≤ lo) (h2 : hi ≤ hi') : Fact lo' hi' T := fun W W' ht he => h W W' ht (fun q hq hq' => he q (by omega) (by omega))

theorem fact_slice {t : TypeId} {sz B hi : Nat} {v : Value} {n : Nat} (F : Nat → Value) (h : n ≠ 0 → ∀ q, v.ownBlock = some q → q < hi) : Fact B hi (fun X => SliceR t sz B X v n F) := by
  intro W W' ht he
  obtain ⟨ad, cap, rfl, ht⟩ := ht
  refine ⟨ad, cap, rfl, ?_⟩
  by_cases h0 : n = 0
  · exact Or.inl h0
  · obtain ⟨g, rfl, hB, hr⟩ := ht.resolve_left h0
    exact Or.inr ⟨g, rfl, hB, hr.of_block (he g hB (h h0 g rfl))⟩

/-- One fact: its stretch, what it tells. -/
structure Fc where
  lo : Nat
  hi : Nat
  T : World → Prop

/-- All that the law holds; the newest first. -/
structure Held (w0 : World) (l : List Fc) (W : World) : Prop where
  below : Below w0.heap.size w0 W
  fact : ∀ f ∈ l, Fact f.lo f.hi f.T
  tells : ∀ f ∈ l, f.T W
  lo : ∀ f ∈ l, w0.heap.size ≤ f.lo
  hi : ∀ f ∈ l, f.hi ≤ W.heap.size
  apart : l.Pairwise (fun f g => g.hi ≤ f.lo)

theorem Held.start (w : World) : Held w [] w := ⟨Below.refl _ _, fun _ h => (by cases h), fun _ h => (by cases h), fun _ h => (by cases h), fun _ h => (by cases h), List.Pairwise.nil⟩

theorem Held.keep {w0 W W' : World} {l : List Fc} (h : Held w0 l W) (hb : Below W.heap.size W W') : Held w0 l W' :=
  ⟨h.below.trans (hb.mono h.below.size), h.fact, fun f hf => h.fact f hf W W' (h.tells f hf) (fun q _ hq => hb.block q (Nat.lt_of_lt_of_le hq (h.hi f hf))), h.lo, fun f hf => Nat.le_trans (h.hi f hf) hb.size, h.apart⟩

theorem Held.add {w0 W W' : World} {l : List Fc} (h : Held w0 l W) (hb : Below W.heap.size W W') {T : World → Prop} (hf : Fact W.heap.size W'.heap.size T) (ht : T W') : Held w0 (⟨W.heap.size, W'.heap.size, T⟩ :: l) W' := by
  have k := h.keep hb
  refine ⟨k.below, fun f hf' => ?_, fun f hf' => ?_, fun f hf' => ?_, fun f hf' => ?_, List.Pairwise.cons (fun f hf' => h.hi f hf') h.apart⟩
  · rcases List.mem_cons.1 hf' with rfl | hf'
    · exact hf
    · exact k.fact f hf'
  · rcases List.mem_cons.1 hf' with rfl | hf'
    · exact ht
    · exact k.tells f hf'
  · rcases List.mem_cons.1 hf' with rfl | hf'
    · exact h.below.size
    · exact k.lo f hf'
  · rcases List.mem_cons.1 hf' with rfl | hf'
    · exact Nat.le_refl _
    · exact k.hi f hf'

/-- One fact is changed, within its stretch. -/
theorem Held.chg {w0 W W' : World} (l1 : List Fc) {l2 : List Fc} {lo hi : Nat} {T T' : World → Prop} {P : Nat → Prop} (h : Held w0 (l1 ++ ⟨lo, hi, T⟩ :: l2) W) (hc : Chg P W W') (hp : ∀ q, P q → lo ≤ q ∧ q < hi) (hf : Fact lo hi T') (ht : T' W') : Held w0 (l1 ++ ⟨lo, hi, T'⟩ :: l2) W' := by
  have hm : (⟨lo, hi, T⟩ : Fc) ∈ l1 ++ ⟨lo, hi, T⟩ :: l2 := List.mem_append_right _ List.mem_cons_self
  have hlo := h.lo _ hm
  obtain ⟨p1, p2, p3⟩ := List.pairwise_append.1 h.apart
  obtain ⟨p4, p5⟩ := List.pairwise_cons.1 p2
  have hcase : ∀ f, f ∈ l1 ++ ⟨lo, hi, T'⟩ :: l2 → f = ⟨lo, hi, T'⟩ ∨ (f ∈ l1 ++ ⟨lo, hi, T⟩ :: l2 ∧ (f.hi ≤ lo ∨ hi ≤ f.lo)) := fun f hf => by
    rcases List.mem_append.1 hf with h1 | h1
    · exact Or.inr ⟨List.mem_append_left _ h1, Or.inr (p3 f h1 _ List.mem_cons_self)⟩
    · rcases List.mem_cons.1 h1 with h1 | h1
      · exact Or.inl h1
      · exact Or.inr ⟨List.mem_append_right _ (List.mem_cons_of_mem _ h1), Or.inl (p4 f h1)⟩
  refine ⟨⟨hc.os.trans h.below.os, hc.tape.trans h.below.tape, hc.output.trans h.below.output, Nat.le_trans h.below.size hc.size, fun q hq => ?_⟩, fun f hf' => ?_, fun f hf' => ?_, fun f hf' => ?_, fun f hf' => ?_, ?_⟩
  · exact (hc.block q (Nat.lt_of_lt_of_le hq h.below.size) (fun e => by have := (hp q e).1; have hlo' : w0.heap.size ≤ lo := hlo; omega)).trans (h.below.block q hq)
  · rcases hcase f hf' with rfl | ⟨h1, -⟩
    · exact hf
    · exact h.fact f h1
  · rcases hcase f hf' with rfl | ⟨h1, h2⟩
    · exact ht
    · have hh := h.hi f h1
      exact h.fact f h1 W W' (h.tells f h1) (fun q hq hq' => hc.block q (by omega) (fun e => by have := hp q e; omega))
  · rcases hcase f hf' with rfl | ⟨h1, -⟩
    · exact hlo
    · exact h.lo f h1
  · have hs := hc.size
    rcases hcase f hf' with rfl | ⟨h1, -⟩
    · exact Nat.le_trans (h.hi ⟨lo, hi, T⟩ hm) hs
    · exact Nat.le_trans (h.hi f h1) hs
  · refine List.pairwise_append.2 ⟨p1, List.pairwise_cons.2 ⟨p4, p5⟩, fun a ha b hb => ?_⟩
    rcases List.mem_cons.1 hb with rfl | hb
    · exact p3 a ha ⟨lo, hi, T⟩ List.mem_cons_self
    · exact p3 a ha b (List.mem_cons_of_mem _ hb)

/-- What a new slice tells. -/
theorem Held.slice {w0 W W' : World} {l : List Fc} (h : Held w0 l W) (hb : Below W.heap.size W W') {t : TypeId} {sz : Nat} {v : Value} {n : Nat} {F : Nat → Value} (hs : SliceR t sz W.heap.size W' v n F) : Held w0 (⟨W.heap.size, W'.heap.size, fun X => SliceR t sz W.heap.size X v n F⟩ :: l) W' :=
  h.add hb (fact_slice F (fun h0 q e => by obtain ⟨g, e1, -, h2⟩ := hs.block h0; rw [e1] at e; cases e; exact h2)) hs

/-- A slice is marked. -/
theorem Held.mark {w0 W W1 W' : World} (l1 : List Fc) {l2 : List Fc} {lo hi B : Nat} {t : TypeId} {sz : Nat} {v : Value} {n : Nat} {F G : Nat → Value} (h : Held w0 (l1 ++ ⟨lo, hi, fun X => SliceR t sz lo X v n F⟩ :: l2) W) (hu : n ≠ 0 → ∀ q, v.ownBlock = some q → q < hi) (hk : Below W.heap.size W W1) (ht : Turned W1 W' v n) (hG : SliceR t sz B W' v n G) : Held w0 (l1 ++ ⟨lo, hi, fun X => SliceR t sz lo X v n G⟩ :: l2) W' := by
  have hs := h.tells _ (List.mem_append_right l1 List.mem_cons_self)
  refine (h.keep hk).chg l1 (P := fun q => n ≠ 0 ∧ v.ownBlock = some q) (Chg.of_turned ht (fun q h0 e => ⟨h0, e⟩)) (fun q hq => ⟨?_, hu hq.1 q hq.2⟩) (fact_slice G hu) ?_
  · obtain ⟨g, e1, h1, -⟩ := hs.block hq.1
    rw [e1] at hq
    cases hq.2
    exact h1
  · obtain ⟨ad, cap, e, h1⟩ := hG
    obtain ⟨ad', cap', e', h2⟩ := hs
    by_cases h0 : n = 0
    · exact ⟨ad, cap, e, Or.inl h0⟩
    · obtain ⟨g, rfl, _, hr⟩ := h1.resolve_left h0
      obtain ⟨g', e2, hB, _⟩ := h2.resolve_left h0
      rw [e] at e'
      cases e'
      cases e2
      exact ⟨_, cap, e, Or.inr ⟨g, rfl, hB, hr⟩⟩
end Go.Proofs.YtgiejnmphfgmgaaGreatDoor

/- A program in memory: a copy lies in rows of its own; marks that are put into it change nothing else. -/
namespace Go.Proofs.YtgiejnmphfgmgaaGreatDoor
open Go.RowKit

/-- The cells of operations, told by place. -/
def efF (es : List Ef) (i : Nat) : Value := (es.getD (i / 3) default).cell (i % 3)

theorem efF_at (es : List Ef) (j c : Nat) (hc : c < 3) : efF es (j * 3 + c) = (es.getD j default).cell c := by
  unfold efF
  rw [show (j * 3 + c) / 3 = j by omega, show (j * 3 + c) % 3 = c by omega]

theorem CellRow.effs {w : World} {g : Nat} {es : List Ef} (h : CellRow 78 w g (es.length * 3) (efF es)) : EffsAt w g 0 es := by
  intro j hj c hc
  rw [Nat.zero_add, h.cell (by omega), efF_at es j c hc]

set_option maxRecDepth 100000 in
theorem toEffS_rowsF (b off len cap : Nat) (es : List Ef) (w : World) (hb : b < w.heap.size) (hn : EffsAt w b off es) (hl : len ≤ es.length) (hm : len ≤ 1048576) :
    Calls Tryz.prog 20 #[.slice (some ⟨b, off, none⟩) len cap] w fun e w' => e = .returned (.slice (some ⟨w.heap.size, 0, none⟩) len len) ∧ CellRow 78 w' w.heap.size (len * 3) (efF es) ∧ Below w.heap.size w w' := by
  obtain ⟨c, hcs, hmk⟩ := made_effs len hm w
  have hrow := World.rowIs_alloc w c 78 (fun i => c.getD i undef) (fun i hi => by simp [hi])
  rw [hcs] at hrow
  go_enter Tryz.func20, Tryz.ntmps20
  go_wp2_with fail
  clear hmk
  go_loopw [4] (fun i wr => ∃ (k : Nat) (f : Nat → Value), k ≤ len ∧ i = .int .i64 k ∧ wr.rowIs w.heap.size 78 (len * 3) f ∧ (∀ j, j < k → ∀ c, c < 3 → f (j * 3 + c) = (es.getD j default).cell c) ∧ Below w.heap.size w wr) (fun i _ => len - (intOf i).toNat)
  case atStart => exact ⟨0, _, Nat.zero_le _, rfl, hrow, fun j hj => by omega, (Below.refl _ _).alloc (Nat.le_refl _) _⟩
  case round =>
    obtain ⟨k, f, hk, rfl, hown, hf, hnx⟩ := hrel
    by_cases hkl : k < len
    · have hcell := fun c (hc : c < 3) => (hnx.cell (p := ⟨b, off + k * 3 + c, none⟩) hb).trans (hn k (by omega) c hc)
      obtain ⟨n, hnd⟩ : ∃ n, es.getD k default = n := ⟨_, rfl⟩
      rw [hnd] at hcell
      have c0 := hcell 0 (by omega)
      have c1 := hcell 1 (by omega)
      have c2 := hcell 2 (by omega)
      simp only [Ef.cell, Nat.add_zero] at c0 c1 c2
      have Hf : Hid (∀ j, j < k → ∀ c, c < 3 → f (j * 3 + c) = (es.getD j default).cell c) := hf
      have Hnd : Hid (es.getD k default = n) := hnd
      clear hcell hn hf hnd
      go_wp2_with fail
      refine (toEff_calls _ _ _ _).mono ?_
      rintro e w1 ⟨rfl, hb1⟩
      clear c0 c1 c2
      have hown1 := hown.of_block (hb1.block w.heap.size hown.lt)
      have hnx1 := hnx.trans (hb1.mono hnx.size)
      have q0 := hown1.cell (i := k * 3) (by omega)
      have q1 := hown1.cell (i := k * 3 + 1) (by omega)
      have q2 := hown1.cell (i := k * 3 + 2) (by omega)
      have z0 := hown1.frozen (k * 3)
      have z1 := hown1.frozen (k * 3 + 1)
      have z2 := hown1.frozen (k * 3 + 2)
      clear hown hnx hb1
      go_wp2_with fail
      obtain ⟨f', hr', hf'⟩ := copy_eff hown1 Hf.out Hnd.out
      refine ⟨⟨k + 1, f', by omega, by simp, hr', hf', ?_⟩, by simp [intOf]; omega⟩
      exact ((hnx1.setCell (by simp) _).setCell (by simp) _).setCell (by simp) _
    · go_wp2_with fail
      go_ret
      refine ⟨rfl, ⟨len * 3, f, rw_of_row hown _, Nat.le_refl _, fun i hi => ?_⟩, hnx⟩
      have := hf (i / 3) (by omega) (i % 3) (by omega)
      rw [show i / 3 * 3 + i % 3 = i by omega] at this
      exact this

theorem toEffS_row {v : Value} {es : List Ef} (w : World) (hv : EffSlice w v es) (hm : es.length ≤ 1048576) :
    Calls Tryz.prog 20 #[v] w fun e w' => e = .returned (.slice (some ⟨w.heap.size, 0, none⟩) es.length es.length) ∧ (es.length = 0 ∨ CellRow 78 w' w.heap.size (es.length * 3) (efF es)) ∧ EffsAt w' w.heap.size 0 es ∧ w.heap.size < w'.heap.size ∧ Below w.heap.size w w' := by
  obtain ⟨a, cap, rfl, h⟩ := hv
  by_cases he : es = []
  · subst he
    refine (toEffS_none a cap w).mono ?_
    rintro e w' ⟨rfl, h1, h2⟩
    exact ⟨rfl, Or.inl rfl, fun k hk => by simp at hk, h1, h2⟩
  · obtain ⟨b, off, rfl, hb, hn⟩ := h.resolve_left he
    refine (toEffS_rowsF b off es.length cap es w hb hn (Nat.le_refl _) hm).mono ?_
    rintro e w' ⟨rfl, h1, h3⟩
    exact ⟨rfl, Or.inr h1, h1.effs, h1.lt, h3⟩

set_option maxRecDepth 100000 in
theorem toProg_rows {v0 v1 : Value} {es : List Ef} {ns : List Nd} (w : World) (h0 : EffSlice w v0 es) (m0 : es.length ≤ 1048576) (h1 : NodeSlice w v1 ns) (m1 : ns.length ≤ 1048576) :
    Calls Tryz.prog 6 #[.agg #[v0, v1]] w fun e w' => ∃ be bt, e = .returned (.agg #[.slice (some ⟨be, 0, none⟩) es.length es.length, .slice (some ⟨bt, 0, none⟩) ns.length ns.length]) ∧ be < w'.heap.size ∧ EffsAt w' be 0 es ∧ bt < w'.heap.size ∧ NodesAt w' bt 0 ns ∧ Below w.heap.size w w' ∧ w.heap.size ≤ be ∧ be < bt ∧ (es.length = 0 ∨ CellRow 78 w' be (es.length * 3) (efF es)) ∧ (ns.length = 0 ∨ CellRow 81 w' bt (ns.length * 6) (ndF ns)) := by
  have hv0 := h0
  have hv1 := h1
  obtain ⟨a0, cap0, rfl, _⟩ := h0
  obtain ⟨a1, cap1, rfl, _⟩ := h1
  have HV : Hid (EffSlice w (.slice a0 es.length cap0) es ∧ NodeSlice w (.slice a1 ns.length cap1) ns ∧ es.length ≤ 1048576 ∧ ns.length ≤ 1048576) := ⟨hv0, hv1, m0, m1⟩
  clear hv0 hv1 m0 m1
  have hb1 : Below w.heap.size w (w.alloc (.cells #[.slice a0 es.length cap0, .slice a1 ns.length cap1] 25)) := (Below.refl _ _).alloc (Nat.le_refl _) _
  have hb2 := hb1.alloc (by simp) (.cells #[.slice none 0 0, .slice none 0 0] 33)
  have hb3 := hb2.alloc (by simp; omega) (.cells #[.slice none 0 0, .slice none 0 0] 33)
  obtain ⟨W3, hW3⟩ : ∃ W3, (((w.alloc (.cells #[.slice a0 es.length cap0, .slice a1 ns.length cap1] 25)).alloc (.cells #[.slice none 0 0, .slice none 0 0] 33)).alloc (.cells #[.slice none 0 0, .slice none 0 0] 33)) = W3 := ⟨_, rfl⟩
  have hsz : W3.heap.size = w.heap.size + 3 := by rw [← hW3]; simp
  have k0 : W3.heap[w.heap.size]? = some (.cells #[.slice a0 es.length cap0, .slice a1 ns.length cap1] 25) := by
    rw [← hW3, Below.heap_alloc _ _ _ (by simp; omega), Below.heap_alloc _ _ _ (by simp)]
    exact (MapKept.heap_alloc w _).1
  have k1 : W3.heap[w.heap.size + 1]? = some (.cells #[.slice none 0 0, .slice none 0 0] 33) := by
    rw [← hW3, Below.heap_alloc _ _ _ (by simp)]
    have := (MapKept.heap_alloc (w.alloc (.cells #[.slice a0 es.length cap0, .slice a1 ns.length cap1] 25)) (.cells #[.slice none 0 0, .slice none 0 0] 33)).1
    simpa using this
  have k2 : W3.heap[w.heap.size + 1 + 1]? = some (.cells #[.slice none 0 0, .slice none 0 0] 33) := by
    rw [← hW3]
    have := (MapKept.heap_alloc ((w.alloc (.cells #[.slice a0 es.length cap0, .slice a1 ns.length cap1] 25)).alloc (.cells #[.slice none 0 0, .slice none 0 0] 33)) (.cells #[.slice none 0 0, .slice none 0 0] 33)).1
    simpa using this
  rw [hW3] at hb3
  have HW : Hid (_ = W3) := hW3
  have HB3 : Hid (Below w.heap.size w W3) := hb3
  have HX : Hid (Calls _ _ _ _ _) := toEffS_row W3 (HV.out.1.below hb3) HV.out.2.2.1
  have HS : Hid (W3.heap.size = w.heap.size + 3) := hsz
  have HK : Hid (W3.heap[w.heap.size]? = some (.cells #[.slice a0 es.length cap0, .slice a1 ns.length cap1] 25) ∧ W3.heap[w.heap.size + 1]? = some (.cells #[.slice none 0 0, .slice none 0 0] 33) ∧ W3.heap[w.heap.size + 1 + 1]? = some (.cells #[.slice none 0 0, .slice none 0 0] 33)) := ⟨k0, k1, k2⟩
  clear hb1 hb2 hb3 hW3 hsz k0 k1 k2
  go_enter Tryz.func6, Tryz.ntmps6
  go_wp2_with fail
  rw [HW.out]
  refine HX.out.mono ?_
  rintro e w4 ⟨rfl, hC4, hE4, hlt4, hb4⟩
  have hs3 := HS.out
  have k0 := (hb4.block w.heap.size (by omega)).trans HK.out.1
  have k1 := (hb4.block (w.heap.size + 1) (by omega)).trans HK.out.2.1
  have k2 := (hb4.block (w.heap.size + 1 + 1) (by omega)).trans HK.out.2.2
  have q01 := cell_of_heap k0 1
  have q10 := cell_of_heap k1 0
  have q11 := cell_of_heap k1 1
  have z10 := frozen_of_heap k1 0
  have z11 := frozen_of_heap k1 1
  have q20 := cell_of_heap k2 0
  have q21 := cell_of_heap k2 1
  have z20 := frozen_of_heap k2 0
  have z21 := frozen_of_heap k2 1
  simp at q01 q10 q11 q20 q21
  have HE : Hid (EffsAt w4 W3.heap.size 0 es ∧ W3.heap.size < w4.heap.size ∧ Below W3.heap.size W3 w4) := ⟨hE4, hlt4, hb4⟩
  have hlt5 : w.heap.size + 3 < w4.heap.size := by omega
  have HC4 := hid hC4
  clear hE4 hlt4 hb4 HX HK HW hs3 k0 k1 k2 hC4
  rw [HS.out]
  go_wp2_with fail
  have hb4 : Below w.heap.size w w4 := HB3.out.trans (HE.out.2.2.mono HB3.out.size)
  have hb5 := hb4.setCell (p := ⟨w.heap.size + 1 + 1, 0, none⟩) (by show w.heap.size ≤ w.heap.size + 1 + 1; omega) (.slice (some ⟨w.heap.size + 3, 0, none⟩) es.length es.length)
  have hsz5 : w4.heap.size ≤ (w4.setCell ⟨w.heap.size + 1 + 1, 0, none⟩ (.slice (some ⟨w.heap.size + 3, 0, none⟩) es.length es.length)).heap.size := ((Below.refl 0 w4).setCell (Nat.zero_le _) _).size
  have hE5 : EffsAt (w4.setCell ⟨w.heap.size + 1 + 1, 0, none⟩ (.slice (some ⟨w.heap.size + 3, 0, none⟩) es.length es.length)) (w.heap.size + 3) 0 es := fun k hk c hc => by
    have := HE.out.1 k hk c hc
    rw [HS.out] at this
    rw [← this]
    exact World.cell?_of_block (w := w4) (Below.heap_setCell w4 _ _ _ (by show w.heap.size + 3 ≠ w.heap.size + 1 + 1; omega))
  have hC5 : es.length = 0 ∨ CellRow 78 (w4.setCell ⟨w.heap.size + 1 + 1, 0, none⟩ (.slice (some ⟨w.heap.size + 3, 0, none⟩) es.length es.length)) (w.heap.size + 3) (es.length * 3) (efF es) := by
    refine HC4.out.imp id (fun h => ?_)
    rw [HS.out] at h
    exact h.of_block (Below.heap_setCell w4 _ _ _ (by show w.heap.size + 3 ≠ w.heap.size + 1 + 1; omega))
  have r20 : (w4.setCell ⟨w.heap.size + 1 + 1, 0, none⟩ (.slice (some ⟨w.heap.size + 3, 0, none⟩) es.length es.length)).cell? ⟨w.heap.size + 1 + 1, 0, none⟩ = some (.slice (some ⟨w.heap.size + 3, 0, none⟩) es.length es.length) := World.cell?_setCell_same' _ _ _ (by rw [q20]; rfl)
  have r21 : (w4.setCell ⟨w.heap.size + 1 + 1, 0, none⟩ (.slice (some ⟨w.heap.size + 3, 0, none⟩) es.length es.length)).cell? ⟨w.heap.size + 1 + 1, 1, none⟩ = some (.slice none 0 0) := by rw [← q21]; simp [go_sem]
  have r10 : (w4.setCell ⟨w.heap.size + 1 + 1, 0, none⟩ (.slice (some ⟨w.heap.size + 3, 0, none⟩) es.length es.length)).cell? ⟨w.heap.size + 1, 0, none⟩ = some (.slice none 0 0) := by rw [← q10]; exact World.cell?_of_block (w := w4) (Below.heap_setCell w4 _ _ _ (by show w.heap.size + 1 ≠ w.heap.size + 1 + 1; omega))
  have r11 : (w4.setCell ⟨w.heap.size + 1 + 1, 0, none⟩ (.slice (some ⟨w.heap.size + 3, 0, none⟩) es.length es.length)).cell? ⟨w.heap.size + 1, 1, none⟩ = some (.slice none 0 0) := by rw [← q11]; exact World.cell?_of_block (w := w4) (Below.heap_setCell w4 _ _ _ (by show w.heap.size + 1 ≠ w.heap.size + 1 + 1; omega))
  have x10 : (w4.setCell ⟨w.heap.size + 1 + 1, 0, none⟩ (.slice (some ⟨w.heap.size + 3, 0, none⟩) es.length es.length)).frozen? ⟨w.heap.size + 1, 0, none⟩ = false := by simp [z10]
  have x11 : (w4.setCell ⟨w.heap.size + 1 + 1, 0, none⟩ (.slice (some ⟨w.heap.size + 3, 0, none⟩) es.length es.length)).frozen? ⟨w.heap.size + 1, 1, none⟩ = false := by simp [z11]
  have x21 : (w4.setCell ⟨w.heap.size + 1 + 1, 0, none⟩ (.slice (some ⟨w.heap.size + 3, 0, none⟩) es.length es.length)).frozen? ⟨w.heap.size + 1 + 1, 1, none⟩ = false := by simp [z21]
  have HC5 := hid hC5
  clear q01 q10 q11 q20 q21 z10 z11 z20 z21 HE HB3 hb4 HS HC4 hC5
  generalize (w4.setCell ⟨w.heap.size + 1 + 1, 0, none⟩ (.slice (some ⟨w.heap.size + 3, 0, none⟩) es.length es.length)) = W5 at *
  have hlt6 : w.heap.size + 3 < W5.heap.size := by omega
  refine (toNodeS_row W5 (HV.out.2.1.below hb5) HV.out.2.2.2).mono ?_
  rintro e w6 ⟨rfl, hS6, hlt7, hb6⟩
  have hN6 := hS6.nodesAt
  have HC6 := hid (And.intro (HC5.out.imp id (fun h => h.of_block (hb6.block _ hlt6))) (show ns.length = 0 ∨ CellRow 81 w6 W5.heap.size (ns.length * 6) (ndF ns) from by obtain ⟨ad, c, e, h⟩ := hS6; cases e; refine h.imp id ?_; rintro ⟨g, e, -, h⟩; cases e; exact h))
  have t20 := (hb6.cell (p := ⟨w.heap.size + 1 + 1, 0, none⟩) (by show w.heap.size + 1 + 1 < W5.heap.size; omega)).trans r20
  have t21 := (hb6.cell (p := ⟨w.heap.size + 1 + 1, 1, none⟩) (by show w.heap.size + 1 + 1 < W5.heap.size; omega)).trans r21
  have t10 := (hb6.cell (p := ⟨w.heap.size + 1, 0, none⟩) (by show w.heap.size + 1 < W5.heap.size; omega)).trans r10
  have t11 := (hb6.cell (p := ⟨w.heap.size + 1, 1, none⟩) (by show w.heap.size + 1 < W5.heap.size; omega)).trans r11
  have y10 := (hb6.frozen (p := ⟨w.heap.size + 1, 0, none⟩) (by show w.heap.size + 1 < W5.heap.size; omega)).trans x10
  have y11 := (hb6.frozen (p := ⟨w.heap.size + 1, 1, none⟩) (by show w.heap.size + 1 < W5.heap.size; omega)).trans x11
  have y21 := (hb6.frozen (p := ⟨w.heap.size + 1 + 1, 1, none⟩) (by show w.heap.size + 1 + 1 < W5.heap.size; omega)).trans x21
  have hb7 := hb5.trans (hb6.mono hb5.size)
  have HE6 : Hid (EffsAt w6 (w.heap.size + 3) 0 es ∧ NodesAt w6 W5.heap.size 0 ns) := ⟨hE5.below hb6 hlt6, hN6⟩
  clear hS6 hE5 hN6 hb6 hb5 r20 r21 r10 r11 x10 x11 x21 HV hsz5
  go_wp2_with fail
  have hfar : ∀ b k, b ≠ w.heap.size + 1 → b ≠ w.heap.size + 1 + 1 → (((w6.setCell ⟨w.heap.size + 1 + 1, 1, none⟩ (.slice (some ⟨W5.heap.size, 0, none⟩) ns.length ns.length)).setCell ⟨w.heap.size + 1, 0, none⟩ (.slice (some ⟨w.heap.size + 3, 0, none⟩) es.length es.length)).setCell ⟨w.heap.size + 1, 1, none⟩ (.slice (some ⟨W5.heap.size, 0, none⟩) ns.length ns.length)).cell? ⟨b, k, none⟩ = w6.cell? ⟨b, k, none⟩ := fun b k h1 h2 => by
    refine World.cell?_of_block ?_
    rw [Below.heap_setCell _ _ _ _ h1, Below.heap_setCell _ _ _ _ h1, Below.heap_setCell _ _ _ _ h2]
  have hb8 := ((hb7.setCell (p := ⟨w.heap.size + 1 + 1, 1, none⟩) (by show w.heap.size ≤ w.heap.size + 1 + 1; omega) (.slice (some ⟨W5.heap.size, 0, none⟩) ns.length ns.length)).setCell (p := ⟨w.heap.size + 1, 0, none⟩) (by show w.heap.size ≤ w.heap.size + 1; omega) (.slice (some ⟨w.heap.size + 3, 0, none⟩) es.length es.length)).setCell (p := ⟨w.heap.size + 1, 1, none⟩) (by show w.heap.size ≤ w.heap.size + 1; omega) (.slice (some ⟨W5.heap.size, 0, none⟩) ns.length ns.length)
  have hsz := ((((Below.refl 0 w6).setCell (p := ⟨w.heap.size + 1 + 1, 1, none⟩) (Nat.zero_le _) (.slice (some ⟨W5.heap.size, 0, none⟩) ns.length ns.length)).setCell (p := ⟨w.heap.size + 1, 0, none⟩) (Nat.zero_le _) (.slice (some ⟨w.heap.size + 3, 0, none⟩) es.length es.length)).setCell (p := ⟨w.heap.size + 1, 1, none⟩) (Nat.zero_le _) (.slice (some ⟨W5.heap.size, 0, none⟩) ns.length ns.length)).size
  have i1 : ((w6.setCell ⟨w.heap.size + 1 + 1, 1, none⟩ (.slice (some ⟨W5.heap.size, 0, none⟩) ns.length ns.length)).cell? ⟨w.heap.size + 1, 0, none⟩) = some (.slice none 0 0) := by rw [← t10]; exact World.cell?_of_block (Below.heap_setCell w6 _ _ _ (by show w.heap.size + 1 ≠ w.heap.size + 1 + 1; omega))
  have i2 : ((w6.setCell ⟨w.heap.size + 1 + 1, 1, none⟩ (.slice (some ⟨W5.heap.size, 0, none⟩) ns.length ns.length)).cell? ⟨w.heap.size + 1, 1, none⟩) = some (.slice none 0 0) := by rw [← t11]; exact World.cell?_of_block (Below.heap_setCell w6 _ _ _ (by show w.heap.size + 1 ≠ w.heap.size + 1 + 1; omega))
  generalize hW7 : w6.setCell ⟨w.heap.size + 1 + 1, 1, none⟩ (.slice (some ⟨W5.heap.size, 0, none⟩) ns.length ns.length) = W7 at *
  have a0' : ((W7.setCell ⟨w.heap.size + 1, 0, none⟩ (.slice (some ⟨w.heap.size + 3, 0, none⟩) es.length es.length)).setCell ⟨w.heap.size + 1, 1, none⟩ (.slice (some ⟨W5.heap.size, 0, none⟩) ns.length ns.length)).cell? ⟨w.heap.size + 1, 0, none⟩ = some (.slice (some ⟨w.heap.size + 3, 0, none⟩) es.length es.length) := by
    have e1 := World.cell?_setCell_same' W7 ⟨w.heap.size + 1, 0, none⟩ (.slice (some ⟨w.heap.size + 3, 0, none⟩) es.length es.length) (by rw [i1]; rfl)
    rw [← e1]
    simp [go_sem]
  have a1' : ((W7.setCell ⟨w.heap.size + 1, 0, none⟩ (.slice (some ⟨w.heap.size + 3, 0, none⟩) es.length es.length)).setCell ⟨w.heap.size + 1, 1, none⟩ (.slice (some ⟨W5.heap.size, 0, none⟩) ns.length ns.length)).cell? ⟨w.heap.size + 1, 1, none⟩ = some (.slice (some ⟨W5.heap.size, 0, none⟩) ns.length ns.length) :=
    World.cell?_setCell_same' _ _ _ (by
      have : (W7.setCell ⟨w.heap.size + 1, 0, none⟩ (.slice (some ⟨w.heap.size + 3, 0, none⟩) es.length es.length)).cell? ⟨w.heap.size + 1, 1, none⟩ = W7.cell? ⟨w.heap.size + 1, 1, none⟩ := by simp [go_sem]
      rw [this, i2]; rfl)
  refine bodyPost_ret (v := .agg #[.slice (some ⟨w.heap.size + 3, 0, none⟩) es.length es.length, .slice (some ⟨W5.heap.size, 0, none⟩) ns.length ns.length]) (by simp [results, Tryz.results6, go_sem, a0', a1']) rfl ⟨_, _, rfl, by omega, ?_, by omega, ?_, hb8, by omega, by omega, ?_, ?_⟩
  · intro k hk c hc
    rw [hfar _ _ (by omega) (by omega)]
    exact HE6.out.1 k hk c hc
  · intro k hk c hc
    rw [hfar _ _ (by omega) (by omega)]
    exact HE6.out.2 k hk c hc
  · exact HC6.out.1.imp id (fun h => h.of_block (by rw [Below.heap_setCell _ _ _ _ (by dsimp only; omega), Below.heap_setCell _ _ _ _ (by dsimp only; omega), ← hW7, Below.heap_setCell _ _ _ _ (by dsimp only; omega)]))
  · exact HC6.out.2.imp id (fun h => h.of_block (by rw [Below.heap_setCell _ _ _ _ (by dsimp only; omega), Below.heap_setCell _ _ _ _ (by dsimp only; omega), ← hW7, Below.heap_setCell _ _ _ _ (by dsimp only; omega)]))

theorem wrap_sixS {s x : Int} {k n : Nat} (hs : 0 ≤ s ∧ s ≤ 3200000) (hx : x = s + 6 * (k : Int)) (hk : k < n) (hm : n ≤ 1048576) : wrap64 (x + 1) = x + 1 ∧ wrap64 (x + 1 + 1) = x + 1 + 1 ∧ wrap64 (x + 1 + 1 + 1) = x + 1 + 1 + 1 ∧ wrap64 (x + 1 + 1 + 1 + 1) = x + 1 + 1 + 1 + 1 ∧ wrap64 (x + 1 + 1 + 1 + 1 + 1) = x + 1 + 1 + 1 + 1 + 1 ∧ wrap64 (x + 1 + 1 + 1 + 1 + 1 + 1) = x + 1 + 1 + 1 + 1 + 1 + 1 := by
  unfold wrap64
  omega

theorem wrap_three {x : Int} {k n : Nat} (hx : x = 1 + 3 * (k : Int)) (hk : k < n) (hm : n ≤ 1048576) : wrap64 (x + 1) = x + 1 ∧ wrap64 (x + 1 + 1) = x + 1 + 1 ∧ wrap64 (x + 1 + 1 + 1) = x + 1 + 1 + 1 := by
  unfold wrap64
  omega

set_option maxHeartbeats 4000000 in
set_option maxRecDepth 100000 in
theorem markNodeS_from (g n cap : Nat) (s : Int) (F : Nat → Value) (w : World) (hm : n ≤ 1048576) (hs0 : 0 ≤ s ∧ s ≤ 3200000) (hr : CellRow 81 w g (n * 6) F) :
    Calls Tryz.prog 31 #[.slice (some ⟨g, 0, none⟩) n cap, .int .i64 s] w fun e w' => e = .returned (.int .i64 (s + 6 * (n : Int))) ∧ w.grownBy w' (some g) := by
  obtain ⟨N, f, hf, hN, _⟩ := hr
  have HM : Hid (n ≤ 1048576) := hm
  have HS0 := hid hs0
  clear hm hs0
  go_enter Tryz.func31, Tryz.ntmps31
  go_wp2_with fail
  go_loopw [1, 5] (fun m i wr => ∃ (k : Nat) (x : Int) (f : Nat → Value), k ≤ n ∧ i = .int .i64 k ∧ m = .int .i64 x ∧ Hid (x = s + 6 * (k : Int)) ∧ Rw wr g 81 N f (n * 6) ∧ w.grownBy wr (some g)) (fun _ i _ => n - (intOf i).toNat)
  case atStart => exact ⟨0, s, f, Nat.zero_le _, rfl, rfl, by show _ = _; simp, hf, kept_refl _ _⟩
  case round =>
    obtain ⟨k, x, f, hk, rfl, rfl, Hx, hrow, hgr⟩ := hrel
    clear hf
    by_cases hkl : (k : Int) < (n : Int)
    · have HW := hid (wrap_sixS HS0.out Hx.out (by omega) HM.out)
      have HC : Hid (∀ (c : Nat) (X : World), 2 ≤ c → c ≤ 4 → Calls Tryz.prog 67 #[.int .i64 (x + (c : Int))] X fun e w' => e = .returned (.string (markOf (x + (c : Int)).toNat)) ∧ Below X.heap.size X w') := fun c X h1 h2 => by
        have := mark_callsZ (x + (c : Int)) (by show _ ∧ _; have := Hx.out; have := HM.out; have := HS0.out; omega) X
        exact this
      have HC2 := hid (fun X => HC.out 2 X (by decide) (by decide))
      have HC3 := hid (fun X => HC.out 3 X (by decide) (by decide))
      have HC4 := hid (fun X => HC.out 4 X (by decide) (by decide))
      rw [show x + ((2 : Nat) : Int) = x + 1 + 1 by omega] at HC2
      rw [show x + ((3 : Nat) : Int) = x + 1 + 1 + 1 by omega] at HC3
      rw [show x + ((4 : Nat) : Int) = x + 1 + 1 + 1 + 1 by omega] at HC4
      generalize markOf (x + 1 + 1).toNat = m2 at *
      generalize markOf (x + 1 + 1 + 1).toNat = m3 at *
      generalize markOf (x + 1 + 1 + 1 + 1).toNat = m4 at *
      have q0 := hrow.cell (i := k * 6) (by omega)
      have q1 := hrow.cell (i := k * 6 + 1) (by omega)
      have z0 := hrow.frozen (k * 6) (by omega)
      have z1 := hrow.frozen (k * 6 + 1) (by omega)
      clear HC
      obtain ⟨e1, e2, e3, e4, e5, e6⟩ := HW.out
      have HE := hid (And.intro e1 (And.intro e2 (And.intro e3 (And.intro e4 (And.intro e5 e6)))))
      clear e1 e2 e3 e4 e5 e6 HW
      go_wp2_with fail
      obtain ⟨e1, e2, e3, e4, e5, e6⟩ := HE.out
      simp only [e1, e2]
      clear e1 e2 e3 e4 e5 e6
      refine (HC2.out _).mono ?_
      rintro e W1 ⟨rfl, hb1⟩
      obtain ⟨f0, r0, -, -⟩ := hrow.put (k * 6) (.int .i64 x)
      obtain ⟨f1, r1, -, -⟩ := r0.put (k * 6 + 1) (.int .i64 (x + 1))
      have r1' := r1.of_block (hb1.block g r1.lt)
      have hgr1 := kept_below (kept_set (kept_set hgr (k * 6) (.int .i64 x)) (k * 6 + 1) (.int .i64 (x + 1))) hb1
      have q2 := r1'.cell (i := k * 6 + 2) (by omega)
      have z2 := r1'.frozen (k * 6 + 2) (by omega)
      clear q0 q1 z0 z1 hrow r0 r1 hb1 hgr HC2
      go_wp2_with fail
      obtain ⟨e1, e2, e3, e4, e5, e6⟩ := HE.out
      simp only [e3]
      clear e1 e2 e3 e4 e5 e6
      refine (HC3.out _).mono ?_
      rintro e W2 ⟨rfl, hb2⟩
      obtain ⟨f2, r2, -, -⟩ := r1'.put (k * 6 + 2) (.string m2)
      have r2' := r2.of_block (hb2.block g r2.lt)
      have hgr2 := kept_below (kept_set hgr1 (k * 6 + 2) (.string m2)) hb2
      have q3 := r2'.cell (i := k * 6 + 3) (by omega)
      have z3 := r2'.frozen (k * 6 + 3) (by omega)
      clear q2 z2 r1' r2 hb2 hgr1 HC3
      go_wp2_with fail
      obtain ⟨e1, e2, e3, e4, e5, e6⟩ := HE.out
      simp only [e4]
      clear e1 e2 e3 e4 e5 e6
      refine (HC4.out _).mono ?_
      rintro e W3 ⟨rfl, hb3⟩
      obtain ⟨f3, r3, -, -⟩ := r2'.put (k * 6 + 3) (.string m3)
      have r3' := r3.of_block (hb3.block g r3.lt)
      have hgr3 := kept_below (kept_set hgr2 (k * 6 + 3) (.string m3)) hb3
      have q4 := r3'.cell (i := k * 6 + 4) (by omega)
      have z4 := r3'.frozen (k * 6 + 4) (by omega)
      have q5 := r3'.cell (i := k * 6 + 5) (by omega)
      have z5 := r3'.frozen (k * 6 + 5) (by omega)
      clear q3 z3 r2' r3 hb3 hgr2 HC4
      go_wp2_with fail
      obtain ⟨e1, e2, e3, e4, e5, e6⟩ := HE.out
      simp only [e5, e6]
      obtain ⟨f4, r4, -, -⟩ := r3'.put (k * 6 + 4) (.string m4)
      obtain ⟨f5, r5, -, -⟩ := r4.put (k * 6 + 5) (.int .i64 (x + 1 + 1 + 1 + 1 + 1))
      rw [wrap_inc (n := n) (by omega) HM.out]
      have hs : n - (intOf (.int .i64 ((k + 1 : Nat) : Int))).toNat < n - (intOf (.int .i64 (k : Int))).toNat := by simp only [intOf, Int.toNat_natCast]; omega
      have hx := Hx.out
      exact ⟨⟨k + 1, x + 1 + 1 + 1 + 1 + 1 + 1, f5, by omega, rfl, rfl, by show _ = _; omega, r5, kept_set (kept_set hgr3 _ _) _ _⟩, hs⟩
    · have hkn : k = n := by omega
      subst hkn
      have HX : Hid (x = s + 6 * (k : Int)) := Hx
      clear Hx
      go_wp2_with fail
      go_ret
      exact ⟨by rw [← HX.out]; rfl, hgr⟩

set_option maxRecDepth 100000 in
theorem markNodeS_zero (ad : Option Addr) (cap : Nat) (s : Int) (w : World) :
    Calls Tryz.prog 31 #[.slice ad 0 cap, .int .i64 s] w fun e w' => e = .returned (.int .i64 s) ∧ w = w' := by
  go_enter Tryz.func31, Tryz.ntmps31
  go_wp2
  refine wp_loop_rounds 1 ?_
  rw [rounds_succ]
  go_wp2
  go_ret
  exact ⟨rfl, rfl⟩

set_option maxHeartbeats 4000000 in
set_option maxRecDepth 100000 in
theorem markEffS_rows (g n cap : Nat) (F : Nat → Value) (w : World) (hm : n ≤ 1048576) (hr : CellRow 78 w g (n * 3) F) :
    Calls Tryz.prog 30 #[.slice (some ⟨g, 0, none⟩) n cap, .int .i64 1] w fun e w' => e = .returned (.int .i64 (1 + 3 * (n : Int))) ∧ w.grownBy w' (some g) := by
  obtain ⟨N, f, hf, hN, _⟩ := hr
  have HM : Hid (n ≤ 1048576) := hm
  clear hm
  go_enter Tryz.func30, Tryz.ntmps30
  go_wp2_with fail
  go_loopw [1, 5] (fun m i wr => ∃ (k : Nat) (x : Int) (f : Nat → Value), k ≤ n ∧ i = .int .i64 k ∧ m = .int .i64 x ∧ Hid (x = 1 + 3 * (k : Int)) ∧ Rw wr g 78 N f (n * 3) ∧ w.grownBy wr (some g)) (fun _ i _ => n - (intOf i).toNat)
  case atStart => exact ⟨0, 1, f, Nat.zero_le _, rfl, rfl, by show _ = _; simp, hf, kept_refl _ _⟩
  case round =>
    obtain ⟨k, x, f, hk, rfl, rfl, Hx, hrow, hgr⟩ := hrel
    clear hf
    by_cases hkl : (k : Int) < (n : Int)
    · have HW := hid (wrap_three Hx.out (by omega) HM.out)
      have HC := hid (fun X => mark_callsZ x (by show _ ∧ _; have := Hx.out; have := HM.out; omega) X)
      generalize markOf x.toNat = m2 at *
      have q0 := hrow.cell (i := k * 3) (by omega)
      have z0 := hrow.frozen (k * 3) (by omega)
      go_wp2_with fail
      refine (HC.out _).mono ?_
      rintro e W1 ⟨rfl, hb1⟩
      have r1' := hrow.of_block (hb1.block g hrow.lt)
      have hgr1 := kept_below hgr hb1
      have q0 := r1'.cell (i := k * 3) (by omega)
      have q1 := r1'.cell (i := k * 3 + 1) (by omega)
      have q2 := r1'.cell (i := k * 3 + 2) (by omega)
      have z0 := r1'.frozen (k * 3) (by omega)
      have z1 := r1'.frozen (k * 3 + 1) (by omega)
      have z2 := r1'.frozen (k * 3 + 2) (by omega)
      clear hrow hb1 hgr HC
      go_wp2_with fail
      obtain ⟨e1, e2, e3⟩ := HW.out
      simp only [e1, e2, e3]
      obtain ⟨f0, r0, -, -⟩ := r1'.put (k * 3) (.string m2)
      obtain ⟨f1, r1, -, -⟩ := r0.put (k * 3 + 1) (.int .i64 (x + 1))
      obtain ⟨f2, r2, -, -⟩ := r1.put (k * 3 + 2) (.int .i64 (x + 1 + 1))
      rw [wrap_inc (n := n) (by omega) HM.out]
      have hs : n - (intOf (.int .i64 ((k + 1 : Nat) : Int))).toNat < n - (intOf (.int .i64 (k : Int))).toNat := by simp only [intOf, Int.toNat_natCast]; omega
      have hx := Hx.out
      exact ⟨⟨k + 1, x + 1 + 1 + 1, f2, by omega, rfl, rfl, by show _ = _; omega, r2, kept_set (kept_set (kept_set hgr1 _ _) _ _) _ _⟩, hs⟩
    · have hkn : k = n := by omega
      subst hkn
      have HX : Hid (x = 1 + 3 * (k : Int)) := Hx
      clear Hx
      go_wp2_with fail
      go_ret
      exact ⟨by rw [← HX.out]; rfl, hgr⟩

set_option maxRecDepth 100000 in
theorem markEffS_none (ad : Option Addr) (cap : Nat) (w : World) :
    Calls Tryz.prog 30 #[.slice ad 0 cap, .int .i64 1] w fun e w' => e = .returned (.int .i64 1) ∧ w = w' := by
  go_enter Tryz.func30, Tryz.ntmps30
  go_wp2
  refine wp_loop_rounds 1 ?_
  rw [rounds_succ]
  go_wp2
  go_ret
  exact ⟨rfl, rfl⟩

theorem markEffS_any (g n cap : Nat) (F : Nat → Value) (w : World) (hm : n ≤ 1048576) (h : n = 0 ∨ CellRow 78 w g (n * 3) F) :
    Calls Tryz.prog 30 #[.slice (some ⟨g, 0, none⟩) n cap, .int .i64 1] w fun e w' => e = .returned (.int .i64 (1 + 3 * (n : Int))) ∧ w.grownBy w' (some g) := by
  by_cases h0 : n = 0
  · subst h0
    refine (markEffS_none _ cap w).mono ?_
    rintro e w' ⟨rfl, rfl⟩
    exact ⟨by simp, kept_refl _ _⟩
  · exact markEffS_rows g n cap F w hm (h.resolve_left h0)

theorem markNodeS_fromAny (g n cap : Nat) (s : Int) (F : Nat → Value) (w : World) (hm : n ≤ 1048576) (hs0 : 0 ≤ s ∧ s ≤ 3200000) (h : n = 0 ∨ CellRow 81 w g (n * 6) F) :
    Calls Tryz.prog 31 #[.slice (some ⟨g, 0, none⟩) n cap, .int .i64 s] w fun e w' => e = .returned (.int .i64 (s + 6 * (n : Int))) ∧ w.grownBy w' (some g) := by
  by_cases h0 : n = 0
  · subst h0
    refine (markNodeS_zero _ cap s w).mono ?_
    rintro e w' ⟨rfl, rfl⟩
    exact ⟨by simp, kept_refl _ _⟩
  · exact markNodeS_from g n cap s F w hm hs0 (h.resolve_left h0)

theorem Chg.of_grown {P : Nat → Prop} {w w' : World} {g : Nat} (h : w.grownBy w' (some g)) (hp : P g) : Chg P w w' :=
  ⟨h.os, h.tape, h.output, h.size, fun q hq hn => h.block q hq (fun e => by cases e; exact hn hp)⟩

set_option maxRecDepth 100000 in
theorem markProg_calls (be bt n m : Nat) (F G : Nat → Value) (w : World) (hn : n ≤ 1048576) (hm : m ≤ 1048576) (hlt : be < bt) (hbe : be < w.heap.size) (hbt : bt < w.heap.size) (h1 : n = 0 ∨ CellRow 78 w be (n * 3) F) (h2 : m = 0 ∨ CellRow 81 w bt (m * 6) G) :
    Calls Tryz.prog 10 #[.agg #[.slice (some ⟨be, 0, none⟩) n n, .slice (some ⟨bt, 0, none⟩) m m], .int .i64 1] w fun e w' => (∃ r : Int, 0 ≤ r ∧ e = .returned (.int .i64 r)) ∧ Chg (fun q => q = be ∨ q = bt) w w' := by
  have hb1 := (Below.refl w.heap.size w).alloc (Nat.le_refl _) (.cells #[.slice (some ⟨be, 0, none⟩) n n, .slice (some ⟨bt, 0, none⟩) m m] 33)
  have hA := (MapKept.heap_alloc w (.cells #[.slice (some ⟨be, 0, none⟩) n n, .slice (some ⟨bt, 0, none⟩) m m] 33)).1
  obtain ⟨Y, hY⟩ : ∃ Y, w.alloc (.cells #[.slice (some ⟨be, 0, none⟩) n n, .slice (some ⟨bt, 0, none⟩) m m] 33) = Y := ⟨_, rfl⟩
  rw [hY] at hb1 hA
  have HY := hid hY
  have HA := hid hA
  have HB := hid hb1
  have HE := hid (markEffS_any be n n F Y hn (h1.imp id (fun h => h.of_block (hb1.block be hbe))))
  have HNr := hid (h2.imp id (fun h => h.of_block (hb1.block bt hbt)))
  have HQ := hid (And.intro hn (And.intro hm (And.intro hlt (And.intro hbe hbt))))
  clear hb1 hA hY h1 h2 hn hm hlt hbe hbt
  go_enter Tryz.func10, Tryz.ntmps10
  go_wp2_with fail
  rw [HY.out]
  refine HE.out.mono ?_
  rintro e w2 ⟨rfl, hg⟩
  have c2 : Chg (fun q => q = be ∨ q = bt) w w2 := (Chg.of_below HB.out).trans (Chg.of_grown hg (Or.inl rfl))
  have hsz : Y.heap.size ≤ w2.heap.size := hg.size
  have hA2 := (hg.block w.heap.size (heap_lt HA.out) (fun e => by have := HQ.out; cases e; omega)).trans HA.out
  have hN2 := HNr.out.imp id (fun h => h.of_block (hg.block bt h.lt (fun e => by have := HQ.out; cases e; omega)))
  have q1 := cell_of_heap hA2 1
  simp at q1
  have HC2 := hid c2
  have HN2 := hid (markNodeS_fromAny bt m m (1 + 3 * (n : Int)) G w2 HQ.out.2.1 (by have := HQ.out.1; omega) hN2)
  have HR := hid (show (0 : Int) ≤ 1 + 3 * (n : Int) + 6 * (m : Int) by omega)
  clear c2 hsz hA2 hN2 hg HE HNr HY HA HB
  generalize 1 + 3 * (n : Int) = s1 at *
  go_wp2_with fail
  refine HN2.out.mono ?_
  rintro e w3 ⟨rfl, hg⟩
  have HC3 := hid (HC2.out.trans (Chg.of_grown hg (Or.inr rfl)))
  clear hg q1 HN2
  generalize s1 + 6 * (m : Int) = s2 at *
  go_wp2_with fail
  go_ret
  exact ⟨⟨s2, HR.out, rfl⟩, HC3.out⟩
end Go.Proofs.YtgiejnmphfgmgaaGreatDoor

/- A copy of a list of instructions; two that hold the same compare as alike; marks that are put into one are held by it. -/
namespace Go.Proofs.YtgiejnmphfgmgaaGreatDoor
open Go.RowKit

/-- The cells of a list of instructions, told by place. -/
def insCells (ns : List In) (i : Nat) : Value := (ns.getD (i / 4) default).cell (i % 4)

theorem insCells_at (ns : List In) (k c : Nat) (hc : c < 4) : insCells ns (k * 4 + c) = (ns.getD k default).cell c := by
  unfold insCells
  rw [show (k * 4 + c) / 4 = k by omega, show (k * 4 + c) % 4 = c by omega]

theorem CellRow.insAt {w : World} {g : Nat} {ns : List In} (h : CellRow 52 w g (ns.length * 4) (insCells ns)) : InsAt w g 0 ns := by
  intro k hk c hc
  have := h.cell (i := k * 4 + c) (by omega)
  rw [insCells_at ns k c hc] at this
  simpa using this

theorem info_ins : (Tryz.prog.info? 52).map (fun i => (i.zero, i.size, i.bytes)) = some (some (.agg #[.int .i64 0, .int .i64 0, .int .i64 0, .int .i64 0]), 4, 32) := by kernel_rfl

theorem made_ins (len : Nat) (hl : len ≤ 1048576) (w : World) : ∃ c : Array Value, c.size = len * 4 ∧
    (Instr.makeSlice 27 (.int .i64 (len : Int)) (.int .i64 (len : Int))).run Tryz.prog w = .ok (.slice (some ⟨w.heap.size, 0, none⟩) len len) (w.alloc (.cells c 52)) := by
  obtain ⟨i0, hi, hz0, hz1, hz2⟩ := info_parts info_ins
  have h := run_make (P := Tryz.prog) w 27 52 i0 _ Tryz.underlying27 hi hz0 .i64 .i64 len len (by omega) (Int.le_refl _) (by rw [hz2]; omega) (by omega)
  rw [hz1] at h
  simp only [Int.toNat_natCast] at h
  exact ⟨_, size_madeCells _ _, h⟩

/-- One instruction more is stored. -/
theorem ins_step {w1 : World} {B t N k : Nat} {f : Nat → Value} {n : Nat} (a b c d : Value) (h : Rw w1 B t N f n) :
    ∃ f', Rw ((((w1.setCell ⟨B, k * 4, none⟩ a).setCell ⟨B, k * 4 + 1, none⟩ b).setCell ⟨B, k * 4 + 2, none⟩ c).setCell ⟨B, k * 4 + 3, none⟩ d) B t N f' n ∧
      f' (k * 4) = a ∧ f' (k * 4 + 1) = b ∧ f' (k * 4 + 2) = c ∧ f' (k * 4 + 3) = d ∧ ∀ i, i < k * 4 → f' i = f i := by
  refine ⟨_, (((h.set _ _).set _ _).set _ _).set _ _, ?_, ?_, ?_, ?_, fun i hi => ?_⟩
  · rw [if_neg (by omega), if_neg (by omega), if_neg (by omega), if_pos (by omega)]
  · rw [if_neg (by omega), if_neg (by omega), if_pos (by omega)]
  · rw [if_neg (by omega), if_pos (by omega)]
  · rw [if_pos (by omega)]
  · rw [if_neg (by omega), if_neg (by omega), if_neg (by omega), if_neg (by omega)]

theorem ins_more {k : Nat} {f f' F : Nat → Value} (hf : ∀ i, i < k * 4 → f i = F i) (ho : ∀ i, i < k * 4 → f' i = f i)
    (h0 : f' (k * 4) = F (k * 4)) (h1 : f' (k * 4 + 1) = F (k * 4 + 1)) (h2 : f' (k * 4 + 2) = F (k * 4 + 2)) (h3 : f' (k * 4 + 3) = F (k * 4 + 3)) : ∀ i, i < (k + 1) * 4 → f' i = F i := by
  intro i hi
  by_cases h : i < k * 4
  · rw [ho i h, hf i h]
  · have : i = k * 4 ∨ i = k * 4 + 1 ∨ i = k * 4 + 2 ∨ i = k * 4 + 3 := by omega
    rcases this with rfl | rfl | rfl | rfl
    · exact h0
    · exact h1
    · exact h2
    · exact h3

theorem SliceR.insSlice {B : Nat} {w : World} {v : Value} {ns : List In} (h : SliceR 52 4 B w v ns.length (insCells ns)) : InsSlice w v ns := by
  obtain ⟨ad, cap, rfl, h⟩ := h
  refine ⟨ad, cap, rfl, ?_⟩
  by_cases h0 : ns = []
  · exact Or.inl h0
  · obtain ⟨g, rfl, _, hr⟩ := h.resolve_left (fun e => h0 (List.length_eq_zero_iff.1 e))
    exact Or.inr ⟨g, 0, rfl, hr.lt, hr.insAt⟩

set_option maxRecDepth 100000 in
theorem eqInsS_none (ad ad' : Option Addr) (cap cap' : Nat) (w : World) :
    Calls Tryz.prog 8 #[.slice ad 0 cap, .slice ad' 0 cap'] w fun e w' => e = .returned (.bool true) ∧ Below w.heap.size w w' := by
  go_enter Tryz.func8, Tryz.ntmps8
  go_wp2
  refine wp_loop_rounds 1 ?_
  rw [rounds_succ]
  go_wp2
  go_ret
  exact ⟨rfl, Below.refl _ _⟩

set_option maxHeartbeats 1000000 in
set_option maxRecDepth 100000 in
theorem eqInsS_rows (b off b' off' len cap cap' : Nat) (ns : List In) (w : World) (hb : b < w.heap.size) (hb' : b' < w.heap.size) (hn : InsAt w b off ns) (hn' : InsAt w b' off' ns) (hl : len = ns.length) (hm : len ≤ 1048576) :
    Calls Tryz.prog 8 #[.slice (some ⟨b, off, none⟩) len cap, .slice (some ⟨b', off', none⟩) len cap'] w fun e w' => e = .returned (.bool true) ∧ Below w.heap.size w w' := by
  have HM : Hid (len ≤ 1048576) := hm
  have HL : Hid (len = ns.length) := hl
  have HN : Hid (InsAt w b off ns ∧ InsAt w b' off' ns) := ⟨hn, hn'⟩
  clear hm hl hn hn'
  go_enter Tryz.func8, Tryz.ntmps8
  go_wp2_with fail
  go_loopw [5] (fun i wr => ∃ k : Nat, k ≤ len ∧ i = .int .i64 k ∧ Below w.heap.size w wr) (fun i _ => len - (intOf i).toNat)
  case atStart => exact ⟨0, Nat.zero_le _, rfl, Below.refl _ _⟩
  case round =>
    obtain ⟨k, hk, rfl, hnx⟩ := hrel
    by_cases hkl : (k : Int) < (len : Int)
    · have hkn : k < ns.length := by rw [← HL.out]; omega
      have hcell := fun c (hc : c < 4) => (hnx.cell (p := ⟨b, off + k * 4 + c, none⟩) hb).trans (HN.out.1 k hkn c hc)
      have hcell' := fun c (hc : c < 4) => (hnx.cell (p := ⟨b', off' + k * 4 + c, none⟩) hb').trans (HN.out.2 k hkn c hc)
      generalize ns.getD k default = n at hcell hcell'
      have c0 := hcell 0 (by omega)
      have c1 := hcell 1 (by omega)
      have c2 := hcell 2 (by omega)
      have c3 := hcell 3 (by omega)
      have d0 := hcell' 0 (by omega)
      have d1 := hcell' 1 (by omega)
      have d2 := hcell' 2 (by omega)
      have d3 := hcell' 3 (by omega)
      simp only [In.cell, Nat.add_zero] at c0 c1 c2 c3 d0 d1 d2 d3
      clear hcell hcell' hkn
      have hi0 : (0 : Int) ≤ (k : Int) := by omega
      go_wp2_with fail
      go_region_with (go_at_call 27; refine (eqIns_calls _ _ _ _ _).mono ?_; rintro e w1 ⟨rfl, hb1⟩)
      all_goals
        have hb2 := hnx.drew.trans (hb1.mono hnx.size)
        clear hb1 c0 c1 c2 c3 d0 d1 d2 d3
        go_wp2_with fail
        have hs : len - (intOf (.int .i64 ((k + 1 : Nat) : Int))).toNat < len - (intOf (.int .i64 (k : Int))).toNat := by simp only [intOf, Int.toNat_natCast]; omega
        try rw [wrap_one (by omega) HM.out]
        exact ⟨⟨k + 1, by omega, rfl, hb2⟩, hs⟩
    · go_wp2_with fail
      go_ret
      exact ⟨rfl, hnx⟩

theorem eqInsS_any {v v' : Value} {ns : List In} (w : World) (hm : ns.length ≤ 1048576) (h : InsSlice w v ns) (h' : InsSlice w v' ns) :
    Calls Tryz.prog 8 #[v, v'] w fun e w' => e = .returned (.bool true) ∧ Below w.heap.size w w' := by
  obtain ⟨ad, cap, rfl, h⟩ := h
  obtain ⟨ad', cap', rfl, h'⟩ := h'
  by_cases h0 : ns = []
  · subst h0
    exact eqInsS_none ad ad' cap cap' w
  · obtain ⟨g, o, rfl, hb, hr⟩ := h.resolve_left h0
    obtain ⟨g', o', rfl, hb', hr'⟩ := h'.resolve_left h0
    exact eqInsS_rows g o g' o' _ cap cap' ns w hb hb' hr hr' rfl hm
end Go.Proofs.YtgiejnmphfgmgaaGreatDoor

/- Marks that are put into a list of instructions are held by it. -/
namespace Go.Proofs.YtgiejnmphfgmgaaGreatDoor
open Go.RowKit

/-- The marks, told by the place of the cell. -/
def insMarks (i : Nat) : Value := .int .i64 (1 + (i : Int))

theorem wrap_mark {x : Int} {k : Nat} (hx : x = 1 + 4 * (k : Int)) (hk : k ≤ 1048576) : wrap64 (x + 1) = x + 1 ∧ wrap64 (x + 1 + 1) = x + 1 + 1 ∧ wrap64 (x + 1 + 1 + 1) = x + 1 + 1 + 1 ∧ wrap64 (x + 1 + 1 + 1 + 1) = x + 1 + 1 + 1 + 1 := by
  unfold wrap64
  omega

set_option maxHeartbeats 1000000 in
set_option maxRecDepth 100000 in
theorem markInsS_rows (g n cap : Nat) (F : Nat → Value) (w : World) (hm : n ≤ 1048576) (hr : CellRow 52 w g (n * 4) F) :
    Calls Tryz.prog 11 #[.slice (some ⟨g, 0, none⟩) n cap, .int .i64 1] w fun e w' => e = .returned (.int .i64 (1 + 4 * (n : Int))) ∧ CellRow 52 w' g (n * 4) insMarks ∧ w.grownBy w' (some g) := by
  obtain ⟨N, f, hf, hN, _⟩ := hr
  have HM : Hid (n ≤ 1048576) := hm
  clear hm
  go_enter Tryz.func11, Tryz.ntmps11
  go_wp2_with fail
  go_loopw [1, 5] (fun m i wr => ∃ (k : Nat) (x : Int) (f : Nat → Value), k ≤ n ∧ i = .int .i64 k ∧ m = .int .i64 x ∧ Hid (x = 1 + 4 * (k : Int)) ∧ Rw wr g 52 N f (n * 4) ∧ Hid (∀ j, j < k * 4 → f j = insMarks j) ∧ w.grownBy wr (some g)) (fun _ i _ => n - (intOf i).toNat)
  case atStart => exact ⟨0, 1, f, Nat.zero_le _, rfl, rfl, rfl, hf, fun j hj => by omega, kept_refl _ _⟩
  case round =>
    obtain ⟨k, x, f, hk, rfl, rfl, Hx, hrow, HF, hgr⟩ := hrel
    clear hf
    by_cases hkl : (k : Int) < (n : Int)
    · have q0 := hrow.cell (i := k * 4) (by omega)
      have q1 := hrow.cell (i := k * 4 + 1) (by omega)
      have q2 := hrow.cell (i := k * 4 + 2) (by omega)
      have q3 := hrow.cell (i := k * 4 + 3) (by omega)
      have z0 := hrow.frozen (k * 4) (by omega)
      have z1 := hrow.frozen (k * 4 + 1) (by omega)
      have z2 := hrow.frozen (k * 4 + 2) (by omega)
      have z3 := hrow.frozen (k * 4 + 3) (by omega)
      have HW : Hid _ := wrap_mark Hx.out (by have := HM.out; omega)
      go_wp2_with fail
      obtain ⟨e1, e2, e3, e4⟩ := HW.out
      simp only [e1, e2, e3, e4]
      obtain ⟨f', hr', g0, g1, g2, g3, eo⟩ := ins_step (k := k) (.int .i64 x) (.int .i64 (x + 1)) (.int .i64 (x + 1 + 1)) (.int .i64 (x + 1 + 1 + 1)) hrow
      have hs : n - (intOf (.int .i64 ((k + 1 : Nat) : Int))).toNat < n - (intOf (.int .i64 (k : Int))).toNat := by simp only [intOf, Int.toNat_natCast]; omega
      try rw [wrap_one (by omega) HM.out]
      have hx := Hx.out
      refine ⟨⟨k + 1, x + 1 + 1 + 1 + 1, f', by omega, rfl, rfl, by show _ = _; omega, hr', ins_more HF.out eo ?_ ?_ ?_ ?_, kept_set (kept_set (kept_set (kept_set hgr _ _) _ _) _ _) _ _⟩, hs⟩
      · rw [g0]; unfold insMarks; congr 1; omega
      · rw [g1]; unfold insMarks; congr 1; omega
      · rw [g2]; unfold insMarks; congr 1; omega
      · rw [g3]; unfold insMarks; congr 1; omega
    · have hkn : k = n := by omega
      subst hkn
      have HX : Hid (x = 1 + 4 * (k : Int)) := Hx
      clear Hx
      go_wp2_with fail
      go_ret
      exact ⟨by rw [← HX.out]; rfl, ⟨N, f, hrow, hN, HF.out⟩, hgr⟩

set_option maxHeartbeats 1000000 in
set_option maxRecDepth 100000 in
theorem heldInsS_rows (g n cap : Nat) (w : World) (hm : n ≤ 1048576) (hr : CellRow 52 w g (n * 4) insMarks) :
    Calls Tryz.prog 12 #[.slice (some ⟨g, 0, none⟩) n cap, .int .i64 1] w fun e w' => e = .returned (.int .i64 (1 + 4 * (n : Int))) ∧ w = w' := by
  have HM : Hid (n ≤ 1048576) := hm
  have HR : Hid (CellRow 52 w g (n * 4) insMarks) := hr
  clear hm hr
  go_enter Tryz.func12, Tryz.ntmps12
  go_wp2_with fail
  go_loop [1, 5] (fun m i => ∃ (k : Nat) (x : Int), k ≤ n ∧ i = .int .i64 k ∧ m = .int .i64 x ∧ Hid (x = 1 + 4 * (k : Int))) (fun _ i => n - (intOf i).toNat)
  case atStart => exact ⟨0, 1, Nat.zero_le _, rfl, rfl, rfl⟩
  case round =>
    obtain ⟨k, x, hk, rfl, rfl, Hx⟩ := hrel
    by_cases hkl : (k : Int) < (n : Int)
    · have q0 := HR.out.cell (i := k * 4) (by omega)
      have q1 := HR.out.cell (i := k * 4 + 1) (by omega)
      have q2 := HR.out.cell (i := k * 4 + 2) (by omega)
      have q3 := HR.out.cell (i := k * 4 + 3) (by omega)
      have HW : Hid _ := wrap_mark Hx.out (by have := HM.out; omega)
      rw [show insMarks (k * 4) = .int .i64 x by have := Hx.out; unfold insMarks; congr 1; omega] at q0
      rw [show insMarks (k * 4 + 1) = .int .i64 (wrap64 (x + 1)) by rw [HW.out.1]; have := Hx.out; unfold insMarks; congr 1; omega] at q1
      rw [show insMarks (k * 4 + 2) = .int .i64 (wrap64 (wrap64 (x + 1) + 1)) by rw [HW.out.1, HW.out.2.1]; have := Hx.out; unfold insMarks; congr 1; omega] at q2
      rw [show insMarks (k * 4 + 3) = .int .i64 (wrap64 (wrap64 (wrap64 (x + 1) + 1) + 1)) by rw [HW.out.1, HW.out.2.1, HW.out.2.2.1]; have := Hx.out; unfold insMarks; congr 1; omega] at q3
      go_wp2_with fail
      obtain ⟨e1, e2, e3, e4⟩ := HW.out
      simp only [e1, e2, e3, e4]
      have hs : n - (intOf (.int .i64 ((k + 1 : Nat) : Int))).toNat < n - (intOf (.int .i64 (k : Int))).toNat := by simp only [intOf, Int.toNat_natCast]; omega
      try rw [wrap_one (by omega) HM.out]
      have hx := Hx.out
      exact ⟨⟨k + 1, x + 1 + 1 + 1 + 1, by omega, rfl, rfl, by show _ = _; omega⟩, hs⟩
    · have hkn : k = n := by omega
      subst hkn
      have HX : Hid (x = 1 + 4 * (k : Int)) := Hx
      clear Hx
      go_wp2_with fail
      go_ret
      exact ⟨by rw [← HX.out]; rfl, rfl⟩

set_option maxRecDepth 100000 in
theorem markInsS_none (ad : Option Addr) (cap : Nat) (w : World) :
    Calls Tryz.prog 11 #[.slice ad 0 cap, .int .i64 1] w fun e w' => e = .returned (.int .i64 1) ∧ w = w' := by
  go_enter Tryz.func11, Tryz.ntmps11
  go_wp2
  refine wp_loop_rounds 1 ?_
  rw [rounds_succ]
  go_wp2
  go_ret
  exact ⟨rfl, rfl⟩

set_option maxRecDepth 100000 in
theorem heldInsS_none (ad : Option Addr) (cap : Nat) (w : World) :
    Calls Tryz.prog 12 #[.slice ad 0 cap, .int .i64 1] w fun e w' => e = .returned (.int .i64 1) ∧ w = w' := by
  go_enter Tryz.func12, Tryz.ntmps12
  go_wp2
  refine wp_loop_rounds 1 ?_
  rw [rounds_succ]
  go_wp2
  go_ret
  exact ⟨rfl, rfl⟩

theorem markInsS_any {B n : Nat} {v : Value} {F : Nat → Value} (w : World) (hm : n ≤ 1048576) (h : SliceR 52 4 B w v n F) :
    Calls Tryz.prog 11 #[v, .int .i64 1] w fun e w' => e = .returned (.int .i64 (1 + 4 * (n : Int))) ∧ SliceR 52 4 B w' v n insMarks ∧ Turned w w' v n := by
  obtain ⟨ad, cap, rfl, h⟩ := h
  by_cases h0 : n = 0
  · subst h0
    refine (markInsS_none ad cap w).mono ?_
    rintro e w' ⟨rfl, rfl⟩
    exact ⟨rfl, ⟨ad, cap, rfl, Or.inl rfl⟩, none, kept_refl _ _, Or.inl rfl⟩
  · obtain ⟨g, rfl, hB, hr⟩ := h.resolve_left h0
    refine (markInsS_rows g n cap F w hm hr).mono ?_
    rintro e w' ⟨rfl, hr', hg⟩
    exact ⟨rfl, ⟨_, cap, rfl, Or.inr ⟨g, rfl, hB, hr'⟩⟩, some g, hg, Or.inr ⟨h0, rfl⟩⟩

theorem heldInsS_any {B n : Nat} {v : Value} (w : World) (hm : n ≤ 1048576) (h : SliceR 52 4 B w v n insMarks) :
    Calls Tryz.prog 12 #[v, .int .i64 1] w fun e w' => e = .returned (.int .i64 (1 + 4 * (n : Int))) ∧ w = w' := by
  obtain ⟨ad, cap, rfl, h⟩ := h
  by_cases h0 : n = 0
  · subst h0
    exact heldInsS_none ad cap w
  · obtain ⟨g, rfl, hB, hr⟩ := h.resolve_left h0
    exact heldInsS_rows g n cap w hm hr
end Go.Proofs.YtgiejnmphfgmgaaGreatDoor

/- The code of a program: the specification's answer and the program's are one. -/
namespace Go.Proofs.YtgiejnmphfgmgaaGreatDoor
open Go.RowKit Go.Deep

set_option maxRecDepth 100000 in
theorem specComp_bad {W : World} {be bt : Nat} {es : List Ef} {ns : List Nd} {T : Bool} (hbe : be < W.heap.size) (hE : EffsAt W be 0 es) (hel : es.length ≤ 1048576) (hbt : bt < W.heap.size) (hN : NodesAt W bt 0 ns) (hl : ns.length ≤ 1048576) (hSA : SpecAns ns T) (hR : progZ es ns T = false) :
    Calls Tryz.prog 5 #[.agg #[.slice (some ⟨be, 0, none⟩) es.length es.length, .slice (some ⟨bt, 0, none⟩) ns.length ns.length]] W fun e W' => e = .returned (.tuple #[.slice none 0 0, .bool false]) ∧ Below W.heap.size W W' := by
  have hB1 := (Below.refl W.heap.size W).alloc (Nat.le_refl _) (.cells #[.slice (some ⟨be, 0, none⟩) es.length es.length, .slice (some ⟨bt, 0, none⟩) ns.length ns.length] 33)
  have hA := (MapKept.heap_alloc W (.cells #[.slice (some ⟨be, 0, none⟩) es.length es.length, .slice (some ⟨bt, 0, none⟩) ns.length ns.length] 33)).1
  obtain ⟨Y, hY⟩ : ∃ Y, W.alloc (.cells #[.slice (some ⟨be, 0, none⟩) es.length es.length, .slice (some ⟨bt, 0, none⟩) ns.length ns.length] 33) = Y := ⟨_, rfl⟩
  rw [hY] at hA hB1
  have hp := specProgC_calls be bt es.length ns.length es ns T Y (Nat.le_refl _) (Nat.lt_of_lt_of_le hbe hB1.size) (Nat.lt_of_lt_of_le hbt hB1.size) (hE.below hB1 hbe) (hN.below hB1 hbt) hel hl (fun w' hb hn => specTree_calls bt 0 ns.length ns w' T hl hb hn hSA)
  rw [hR] at hp
  have HP := hid hp
  have HY := hid hY
  have HB1 := hid hB1
  have e0 := cell_of_heap hA 0
  have e1 := cell_of_heap hA 1
  simp at e0 e1
  clear hp hE hel hbt hN hl hSA hA hB1 hY hbe hR
  go_enter Tryz.func5, Tryz.ntmps5
  go_upto_region 1 with fail
  rw [HY.out]
  clear HY
  go_wp2_with fail
  refine HP.out.mono ?_
  rintro e X1 ⟨rfl, hb2⟩
  have HB2 := hid (HB1.out.trans (hb2.mono HB1.out.size))
  clear hb2 HP e0 e1
  go_wp2_with fail
  go_ret2
  exact ⟨rfl, HB2.out⟩

set_option maxRecDepth 100000 in
theorem implComp_bad {W : World} {be bt : Nat} {es : List Ef} {ns : List Nd} {T : Bool} (hbe : be < W.heap.size) (hE : EffsAt W be 0 es) (hel : es.length ≤ 1048576) (hsh : EfShort es) (hbt : bt < W.heap.size) (hN : NodesAt W bt 0 ns) (hl : ns.length ≤ 1048576) (hns : Short ns) (hIA : ImplAns ns T) (hR : progZ es ns T = false) :
    Calls Tryz.prog 7 #[.agg #[.slice (some ⟨be, 0, none⟩) es.length es.length, .slice (some ⟨bt, 0, none⟩) ns.length ns.length]] W fun e W' => e = .returned (.tuple #[.slice none 0 0, .bool false]) ∧ Below W.heap.size W W' := by
  have hB1 := (Below.refl W.heap.size W).alloc (Nat.le_refl _) (.cells #[.slice (some ⟨be, 0, none⟩) es.length es.length, .slice (some ⟨bt, 0, none⟩) ns.length ns.length] 33)
  have hA := (MapKept.heap_alloc W (.cells #[.slice (some ⟨be, 0, none⟩) es.length es.length, .slice (some ⟨bt, 0, none⟩) ns.length ns.length] 33)).1
  obtain ⟨Y, hY⟩ : ∃ Y, W.alloc (.cells #[.slice (some ⟨be, 0, none⟩) es.length es.length, .slice (some ⟨bt, 0, none⟩) ns.length ns.length] 33) = Y := ⟨_, rfl⟩
  rw [hY] at hA hB1
  have hp := implProg_calls be bt es ns T Y (Nat.lt_of_lt_of_le hbe hB1.size) (Nat.lt_of_lt_of_le hbt hB1.size) (hE.below hB1 hbe) (hN.below hB1 hbt) hel hl hsh (fun w' h1 h2 => implTree_calls bt 0 ns.length ns w' T hl h1 h2 hns hIA)
  rw [hR] at hp
  have HP := hid hp
  have HY := hid hY
  have HB1 := hid hB1
  have e0 := cell_of_heap hA 0
  have e1 := cell_of_heap hA 1
  simp at e0 e1
  clear hp hE hel hbt hN hl hIA hA hB1 hY hbe hR hsh hns
  go_enter Tryz.func7, Tryz.ntmps7
  go_upto_region 1 with fail
  rw [HY.out]
  clear HY
  go_wp2_with fail
  refine HP.out.mono ?_
  rintro e X1 ⟨rfl, hb2⟩
  have HB2 := hid (HB1.out.trans (hb2.mono HB1.out.size))
  clear hb2 HP e0 e1
  go_wp2_with fail
  go_ret2
  exact ⟨rfl, HB2.out⟩

theorem ins_owns {B : Nat} {w : World} {v : Value} {cs : List In} (h : w.ownsRow B 52 4 v cs.length (rowZ In.cell 4 cs)) : SliceR 52 4 B w v cs.length (insCells cs) := by
  obtain ⟨ad, cap, hv, hh⟩ := sliceR_of_owns h
  exact ⟨ad, cap, hv, hh.imp id (fun ⟨g, h1, h2, h3⟩ => ⟨g, h1, h2, h3.congr (fun i hi => by simp only [List.getD_eq_getElem?_getD]; rw [rowZ_get In.cell 4 (by decide) cs i hi]; rfl)⟩)⟩

theorem effW_at {W : World} {be : Nat} {es : List Ef} (h1 : be < W.heap.size) (h2 : EffsAt W be 0 es) : EffW W (some ⟨be, 0, none⟩) es.length es := Or.inr ⟨be, rfl, h1, h2, Nat.le_refl _⟩

/-- What both sides answer. -/
def CompS (cs : List In) (x : Bool) (W : World) (e : Ending) (W' : World) : Prop :=
  ∃ v, e = .returned (.tuple #[v, .bool x]) ∧ SliceR 52 4 W.heap.size W' v cs.length (insCells cs) ∧ Below W.heap.size W W'

theorem comp_both (es : List Ef) (ns : List Nd) (hel : es.length ≤ 1048576) (hl : ns.length ≤ 1048576) (hsh : EfShort es) (hns : Short ns) : ∃ (cs : List In) (x : Bool), cs.length ≤ 1048576 ∧
    (∀ (W : World) (be bt : Nat), be < W.heap.size → EffsAt W be 0 es → bt < W.heap.size → NodesAt W bt 0 ns → Calls Tryz.prog 5 #[.agg #[.slice (some ⟨be, 0, none⟩) es.length es.length, .slice (some ⟨bt, 0, none⟩) ns.length ns.length]] W (CompS cs x W)) ∧
    (∀ (W : World) (be bt : Nat), be < W.heap.size → EffsAt W be 0 es → bt < W.heap.size → NodesAt W bt 0 ns → Laid W → Calls Tryz.prog 7 #[.agg #[.slice (some ⟨be, 0, none⟩) es.length es.length, .slice (some ⟨bt, 0, none⟩) ns.length ns.length]] W (CompS cs x W)) := by
  obtain ⟨T, hSA, hIA⟩ := answers ns
  cases hR : progZ es ns T with
  | false =>
    refine ⟨[], false, Nat.zero_le _, fun W be bt h1 h2 h3 h4 => ?_, fun W be bt h1 h2 h3 h4 _ => ?_⟩
    · refine (specComp_bad h1 h2 hel h3 h4 hl hSA hR).mono ?_
      rintro e W' ⟨rfl, hB⟩
      exact ⟨_, rfl, ⟨none, 0, rfl, Or.inl rfl⟩, hB⟩
    · refine (implComp_bad h1 h2 hel hsh h3 h4 hl hns hIA hR).mono ?_
      rintro e W' ⟨rfl, hB⟩
      exact ⟨_, rfl, ⟨none, 0, rfl, Or.inl rfl⟩, hB⟩
  | true =>
    have hT := prog_trueC hR
    subst hT
    obtain ⟨n, k, g1, g2, g3, gl, -, -⟩ := ans_parts hSA
    have he8 : es.length ≤ 8 := by
      unfold progZ at hR
      simp only [Bool.and_eq_true, decide_eq_true_eq] at hR
      exact hR.1
    have hun : ∀ (cs cs' : List In) (x x' : Bool), CompZ es ns x cs → CompZ es ns x' cs' → x = x' ∧ cs = cs' := fun cs cs' x x' h h' => compZ_one h h'
    by_cases hf : freeOf (wholeW n k) = []
    · have hz : CompZ es ns true (codeZ es n k) := Or.inr ⟨rfl, n, k, ⟨true, hSA, hR⟩, g1, g2, g3, hf, rfl⟩
      by_cases hcl : (codeZ es n k).length ≤ 1048576
      · refine ⟨codeZ es n k, true, hcl, fun W be bt h1 h2 h3 h4 => ?_, fun W be bt h1 h2 h3 h4 h5 => ?_⟩
        · refine (compile_callsR (effW_at h1 h2) (by omega) h3 h4 gl).mono ?_
          rintro e W' ⟨v, cs, x, rfl, hv, -, hB, hC⟩
          obtain ⟨rfl, rfl⟩ := hun _ _ _ _ hC hz
          exact ⟨v, rfl, ins_owns hv, hB⟩
        · refine (implCompile_calls h1 h2 (by omega) hsh h3 h4 gl hns h5).mono ?_
          rintro e W' ⟨v, cs, x, rfl, hv, -, hB, hC⟩
          obtain ⟨rfl, rfl⟩ := hun _ _ _ _ hC hz
          exact ⟨v, rfl, ins_owns hv, hB⟩
      · refine ⟨[], true, Nat.zero_le _, fun W be bt h1 h2 h3 h4 => ?_, fun W be bt h1 h2 h3 h4 h5 => ?_⟩
        · refine (compile_callsR (effW_at h1 h2) (by omega) h3 h4 gl).mono ?_
          rintro e W' ⟨v, cs, x, rfl, hv, hcl', hB, hC⟩
          obtain ⟨rfl, rfl⟩ := hun _ _ _ _ hC hz
          omega
        · refine (implCompile_calls h1 h2 (by omega) hsh h3 h4 gl hns h5).mono ?_
          rintro e W' ⟨v, cs, x, rfl, hv, hcl', hB, hC⟩
          obtain ⟨rfl, rfl⟩ := hun _ _ _ _ hC hz
          omega
    · have hz : CompZ es ns false [] := Or.inl ⟨rfl, rfl, fun _ _ _ => ⟨n, k, g1, g2, g3, hf⟩⟩
      refine ⟨[], false, Nat.zero_le _, fun W be bt h1 h2 h3 h4 => ?_, fun W be bt h1 h2 h3 h4 h5 => ?_⟩
      · refine (compile_callsR (effW_at h1 h2) (by omega) h3 h4 gl).mono ?_
        rintro e W' ⟨v, cs, x, rfl, hv, -, hB, hC⟩
        obtain ⟨rfl, rfl⟩ := hun _ _ _ _ hC hz
        exact ⟨v, rfl, ins_owns hv, hB⟩
      · refine (implCompile_calls h1 h2 (by omega) hsh h3 h4 gl hns h5).mono ?_
        rintro e W' ⟨v, cs, x, rfl, hv, -, hB, hC⟩
        obtain ⟨rfl, rfl⟩ := hun _ _ _ _ hC hz
        exact ⟨v, rfl, ins_owns hv, hB⟩
end Go.Proofs.YtgiejnmphfgmgaaGreatDoor

/- The law of a program's code returns true, wherever the table of powers lies as the program lays it. -/
namespace Go.Proofs.YtgiejnmphfgmgaaGreatDoor
open Go.RowKit Go.Deep

theorem SliceR.insideI {t : TypeId} {sz B : Nat} {w : World} {v : Value} {n : Nat} {F : Nat → Value} (h : SliceR t sz B w v n F) : n ≠ 0 → ∀ q, v.ownBlock = some q → q < w.heap.size := fun h0 q e => by
  obtain ⟨g, e1, -, h2⟩ := h.block h0
  rw [e1] at e
  cases e
  exact h2

theorem SliceR.insS {B : Nat} {w : World} {v : Value} {cs : List In} (h : SliceR 52 4 B w v cs.length (insCells cs)) : InsSlice w v cs := by
  obtain ⟨ad, cap, rfl, h⟩ := h
  refine ⟨ad, cap, rfl, ?_⟩
  by_cases h0 : cs = []
  · exact Or.inl h0
  · obtain ⟨g, rfl, -, hr⟩ := h.resolve_left (fun e => h0 (List.eq_nil_of_length_eq_zero e))
    refine Or.inr ⟨g, 0, rfl, hr.lt, fun k hk c hc => ?_⟩
    rw [Nat.zero_add, hr.cell (by omega), insCells_at cs k c hc]

/-- The rows of a program. -/
def PgR (es : List Ef) (ns : List Nd) (be bt : Nat) (X : World) : Prop := (es.length = 0 ∨ CellRow 78 X be (es.length * 3) (efF es)) ∧ (ns.length = 0 ∨ CellRow 81 X bt (ns.length * 6) (ndF ns))

theorem pg_fact {es : List Ef} {ns : List Nd} {be bt lo hi : Nat} (h1 : lo ≤ be ∧ be < hi) (h2 : lo ≤ bt ∧ bt < hi) : Fact lo hi (PgR es ns be bt) := fun _ _ h he =>
  ⟨h.1.imp id (fun r => r.of_block (he be h1.1 h1.2)), h.2.imp id (fun r => r.of_block (he bt h2.1 h2.2))⟩

theorem pg_at {es : List Ef} {ns : List Nd} {be bt : Nat} {X : World} (h : PgR es ns be bt X) : EffsAt X be 0 es ∧ NodesAt X bt 0 ns := by
  refine ⟨?_, ?_⟩
  · rcases h.1 with h | h
    · exact fun k hk => by omega
    · exact h.effs
  · rcases h.2 with h | h
    · exact fun k hk => by omega
    · exact h.nodes

theorem blk_fact {x : Nat} {o : Obj} {lo hi : Nat} (h : lo ≤ x ∧ x < hi) : Fact lo hi (fun X => X.heap[x]? = some o) := fun _ _ ht he => (he x h.1 h.2).trans ht

set_option maxHeartbeats 8000000 in
set_option maxRecDepth 100000 in
theorem compWalk {v0 v1 : Value} {es : List Ef} {ns : List Nd} (w : World) (hL : Laid w) (h0 : EffSlice w v0 es) (s0 : EfShort es) (m0 : es.length ≤ maxLen) (h1 : NodeSlice w v1 ns) (s1 : Short ns) (m1 : ns.length ≤ maxLen) :
    Calls Tryz.prog 3 #[.agg #[v0, v1]] w fun e w' => e = .returned (.bool true) ∧ Below w.heap.size w w' := by
  have HSz := hid (fun (X : World) (hb : Below w.heap.size w X) => szProg_calls 1048576 X (h0.below hb) s0 m0 (h1.below hb) s1 m1 (by omega) (by omega))
  have HTo := hid (fun (X : World) (hb : Below w.heap.size w X) (a : es.length ≤ 1048576) (b : ns.length ≤ 1048576) => toProg_rows X (h0.below hb) a (h1.below hb) b)
  have HBo := hid (fun a b => comp_both es ns a b s0 s1)
  have HLa := hid hL
  clear h0 h1 s0 s1 m0 m1 hL
  have HbA := hid ((Below.refl w.heap.size w).alloc (Nat.le_refl _) (.cells #[v0, v1] 25))
  have HkA := hid (MapKept.heap_alloc w (.cells #[v0, v1] 25)).1
  go_enter Tryz.func3, Tryz.ntmps3
  go_wp2_with fail
  refine (HSz.out _ HbA.out).mono ?_
  rintro e W1 ⟨⟨r, rfl, hr⟩, hb1⟩
  have B1 := hid (HbA.out.trans (hb1.mono HbA.out.size))
  have P1 := hid ((hb1.block w.heap.size (by simp)).trans HkA.out)
  clear hb1 HSz HbA HkA
  by_cases hneg : r < 0
  · go_wp2_with fail
    go_ret
    exact ⟨rfl, B1.out⟩
  have HL := hid (hr.resolve_left hneg)
  clear hr
  obtain ⟨cs, x, hcl, hS, hI⟩ := HBo.out HL.out.1 HL.out.2
  have HCl := hid hcl
  have HS := hid hS
  have HI := hid hI
  clear hcl hS hI HBo
  have q0 := cell_of_heap P1.out 0
  have q1 := cell_of_heap P1.out 1
  simp at q0 q1
  go_wp2_with fail
  refine (HTo.out W1 B1.out HL.out.1 HL.out.2).mono ?_
  rintro e W2 ⟨be2, bt2, rfl, lbe2, hE2, lbt2, hN2, hb2, -, -, -, -⟩
  have B2 := hid (B1.out.trans (hb2.mono B1.out.size))
  have P2 := hid ((hb2.block w.heap.size (heap_lt P1.out)).trans P1.out)
  have HE2 := hid (And.intro (And.intro lbe2 hE2) (And.intro lbt2 hN2))
  clear lbe2 hE2 lbt2 hN2 hb2 q0 q1
  go_wp2_with fail
  refine (HS.out W2 be2 bt2 HE2.out.1.1 HE2.out.1.2 HE2.out.2.1 HE2.out.2.2).mono ?_
  rintro e W3 ⟨u0, rfl, hu0, hb3⟩
  have B3 := hid (B2.out.trans (hb3.mono B2.out.size))
  have HU0 := hid (fun X (hX : Below W3.heap.size W3 X) => (hu0.below hX).insS)
  have HPar := hid (fun X (hX : Below W3.heap.size W3 X) => (hX.block w.heap.size (by have := heap_lt P2.out; have := hb3.size; omega)).trans ((hb3.block w.heap.size (heap_lt P2.out)).trans P2.out))
  have M3 := hid (Held.start W3)
  clear hu0 hb3 HE2 B2 B1 HS P1 P2
  have q0 := cell_of_heap (HPar.out W3 M3.out.below) 0
  have q1 := cell_of_heap (HPar.out W3 M3.out.below) 1
  simp at q0 q1
  go_wp2_with fail
  refine (HTo.out W3 B3.out HL.out.1 HL.out.2).mono ?_
  rintro e W4 ⟨be, bt, rfl, lbe, hE4, lbt, hN4, hb4, lo4, lo4', hr4, hr4'⟩
  have HR4 := hid (And.intro (And.intro lo4 lbe) (And.intro (Nat.le_trans lo4 (Nat.le_of_lt lo4')) lbt))
  have HLt := hid lo4'
  have M4 := hid (M3.out.add hb4 (pg_fact (es := es) (ns := ns) (be := be) (bt := bt) HR4.out.1 HR4.out.2) ⟨hr4, hr4'⟩)
  have HB3 := hid (fun X (hX : Below W3.heap.size W3 X) => B3.out.trans (hX.mono B3.out.size))
  clear hE4 hN4 hb4 M3 B3 lo4 lo4' hr4 hr4' lbe lbt q0 q1
  have hbA := (Below.refl W4.heap.size W4).alloc (Nat.le_refl _) (.cells #[.slice (some ⟨be, 0, none⟩) es.length es.length, .slice (some ⟨bt, 0, none⟩) ns.length ns.length] 33)
  have hkA := (MapKept.heap_alloc W4 (.cells #[.slice (some ⟨be, 0, none⟩) es.length es.length, .slice (some ⟨bt, 0, none⟩) ns.length ns.length] 33)).1
  obtain ⟨W5, hW5⟩ : ∃ W5, W4.alloc (.cells #[.slice (some ⟨be, 0, none⟩) es.length es.length, .slice (some ⟨bt, 0, none⟩) ns.length ns.length] 33) = W5 := ⟨_, rfl⟩
  rw [hW5] at hbA hkA
  have HW5 := hid hW5
  obtain ⟨bx, hbx⟩ : ∃ b, W4.heap.size = b := ⟨_, rfl⟩
  have M5 := hid (M4.out.add hbA (T := fun X => X.heap[bx]? = some (.cells #[.slice (some ⟨be, 0, none⟩) es.length es.length, .slice (some ⟨bt, 0, none⟩) ns.length ns.length] 33)) (blk_fact ⟨by omega, by rw [← hbx]; exact heap_lt hkA⟩) (by rw [← hbx]; exact hkA))
  have HQ := hid (fun X (h : PgR es ns be bt X) => pg_at h)
  have hl5 := Nat.lt_of_lt_of_le HR4.out.1.2 hbA.size
  have hl5' := Nat.lt_of_lt_of_le HR4.out.2.2 hbA.size
  have HI5 := hid (HI.out W5 be bt hl5 (HQ.out _ (M5.out.tells _ (List.mem_cons_of_mem _ List.mem_cons_self))).1 hl5' (HQ.out _ (M5.out.tells _ (List.mem_cons_of_mem _ List.mem_cons_self))).2 (HLa.out.stays (HB3.out _ M5.out.below)))
  rw [hbx] at M4 M5
  have HBx := hid hbx
  have HL5 := hid (And.intro hl5 hl5')
  have HSzW := hid (show ∀ X, Below W5.heap.size W5 X → be < X.heap.size ∧ bt < X.heap.size from fun X hX => ⟨Nat.lt_of_lt_of_le hl5 hX.size, Nat.lt_of_lt_of_le hl5' hX.size⟩)
  clear hbA hkA hW5 hl5 hl5' M4
  go_wp2_with fail
  rw [HW5.out]
  try rw [hbx]
  clear HW5 hbx
  refine HI5.out.mono ?_
  rintro e W6 ⟨u1, rfl, hu1, hb6⟩
  have M6 := hid (M5.out.slice hb6 hu1)
  have HU6 := hid hu1.insideI
  obtain ⟨ad1, cap1, rfl, -⟩ := id hu1
  clear hu1 hb6 M5 HI5
  have hRR : (x != x) = false := by cases x <;> rfl
  go_wp2_with fail
  refine (eqInsS_any W6 HCl.out (M6.out.tells _ List.mem_cons_self).insS (HU0.out _ M6.out.below)).mono ?_
  rintro e W7 ⟨rfl, hb7⟩
  have M7 := hid (M6.out.keep hb7)
  clear hb7 M6
  have q0 := cell_of_heap (HPar.out W7 M7.out.below) 0
  have q1 := cell_of_heap (HPar.out W7 M7.out.below) 1
  have r0 := cell_of_heap (M7.out.tells _ (List.mem_cons_of_mem _ List.mem_cons_self)) 0
  have r1 := cell_of_heap (M7.out.tells _ (List.mem_cons_of_mem _ List.mem_cons_self)) 1
  simp at q0 q1 r0 r1
  have HX7 := hid (And.intro q0 (And.intro q1 (And.intro r0 r1)))
  have hPg := HQ.out _ (M7.out.tells _ (List.mem_cons_of_mem _ (List.mem_cons_of_mem _ List.mem_cons_self)))
  have HPg := hid hPg
  have hsz7 := Nat.le_trans (M7.out.hi _ List.mem_cons_self) (Nat.le_refl _)
  have hsz56 := HL5.out
  have hsz5 := M7.out.hi _ (List.mem_cons_of_mem _ List.mem_cons_self)
  dsimp only at hsz7 hsz5
  have HBE := hid (show be < W7.heap.size ∧ bt < W7.heap.size from ⟨Nat.lt_of_lt_of_le hsz56.1 hsz5, Nat.lt_of_lt_of_le hsz56.2 hsz5⟩)
  have hltw : w.heap.size < W7.heap.size := block_lt_of_cell (a := ⟨w.heap.size, 0, none⟩) q0
  have hltx : bx < W7.heap.size := block_lt_of_cell (a := ⟨bx, 0, none⟩) r0
  clear hPg hsz7 hsz56 hsz5
  go_wp2_with fail
  go_region_with (first
    | (go_at_call 6; refine (HTo.out _ (HB3.out _ M7.out.below.drew) HL.out.1 HL.out.2).mono ?_; rintro e W8 ⟨be8, bt8, rfl, lbe8, hE8, lbt8, hN8, hb8, -, -, -, -⟩; have r0' := (hb8.cell (p := ⟨bx, 0, none⟩) hltx).trans r0; have r1' := (hb8.cell (p := ⟨bx, 1, none⟩) hltx).trans r1)
    | (go_at_call 9; refine (eqProg_calls be bt be8 bt8 es ns _ (Nat.lt_of_lt_of_le HBE.out.1 hb8.size) (Nat.lt_of_lt_of_le HBE.out.2 hb8.size) lbe8 lbt8 (EffsAt.below (w := W7.drew) HPg.out.1 hb8 HBE.out.1) (NodesAt.below (w := W7.drew) HPg.out.2 hb8 HBE.out.2) hE8 hN8 HL.out.1 HL.out.2).mono ?_; rintro e W9 ⟨rfl, hb9⟩))
  all_goals
    have M9 := hid ((M7.out.keep (Below.refl _ W7).drew).keep (hb8.trans (hb9.mono hb8.size)))
    clear hb8 hb9 hE8 hN8 r0' r1' q0 q1 r0 r1 HX7 HPg HBE hltw hltx M7 lbe8 lbt8
    have r0 := cell_of_heap (M9.out.tells _ (List.mem_cons_of_mem _ List.mem_cons_self)) 0
    have r1 := cell_of_heap (M9.out.tells _ (List.mem_cons_of_mem _ List.mem_cons_self)) 1
    simp at r0 r1
    have hpg9 := M9.out.tells _ (List.mem_cons_of_mem _ (List.mem_cons_of_mem _ List.mem_cons_self))
    have hsz5 := M9.out.hi _ (List.mem_cons_of_mem _ List.mem_cons_self)
    have HMk := hid (markProg_calls be bt es.length ns.length (efF es) (ndF ns) W9 HL.out.1 HL.out.2 HLt.out (Nat.lt_of_lt_of_le HL5.out.1 hsz5) (Nat.lt_of_lt_of_le HL5.out.2 hsz5) hpg9.1 hpg9.2)
    clear hpg9 hsz5
    go_wp2_with fail
    refine HMk.out.mono ?_
    rintro e W10 ⟨⟨rk, hrk, rfl⟩, hc10⟩
    have M10 := hid (M9.out.chg [_, _] (T' := fun _ => True) hc10 (fun q hq => by have h1 := HR4.out; have h2 := HBx.out; rcases hq with rfl | rfl <;> omega) (fun _ _ _ _ => trivial) trivial)
    have hm0 : ¬ (rk < 0) := by omega
    clear hc10 M9 HMk r0 r1 hrk
    go_wp2_with fail
    refine (eqInsS_any W10 HCl.out (M10.out.tells _ List.mem_cons_self).insS (HU0.out _ M10.out.below)).mono ?_
    rintro e W11 ⟨rfl, hb11⟩
    have M11 := hid (M10.out.keep hb11)
    clear hb11 M10
    go_wp2_with fail
    refine (markInsS_any W11 HCl.out (M11.out.tells _ List.mem_cons_self)).mono ?_
    rintro e W12 ⟨rfl, hs12, ht12⟩
    have M12 := hid (M11.out.mark [] HU6.out (Below.refl _ _) ht12 hs12)
    clear M11 hs12 ht12 hm0
    have HH : Hid (∀ X, SliceR 52 4 W5.heap.size X (.slice ad1 cs.length cap1) cs.length insMarks → Calls Tryz.prog 12 #[.slice ad1 cs.length cap1, .int .i64 1] X fun e w' => e = .returned (.int .i64 (1 + 4 * (cs.length : Int))) ∧ X = w') := fun X h => heldInsS_any X HCl.out h
    have hm1 : ¬ (1 + 4 * (cs.length : Int) < 0) := by omega
    generalize 1 + 4 * (cs.length : Int) = mm at *
    have hmm : (mm != mm) = false := by simp
    go_wp2_with fail
    refine (HH.out W12 (M12.out.tells _ List.mem_cons_self)).mono ?_
    rintro e W13 ⟨rfl, rfl⟩
    have q0 := cell_of_heap (HPar.out W12 M12.out.below) 0
    have q1 := cell_of_heap (HPar.out W12 M12.out.below) 1
    simp at q0 q1
    go_wp2_with fail
    refine (HTo.out W12 (HB3.out _ M12.out.below) HL.out.1 HL.out.2).mono ?_
    rintro e W14 ⟨be14, bt14, rfl, lbe14, hE14, lbt14, hN14, hb14, -, -, -, -⟩
    have M14 := hid (M12.out.keep hb14)
    have HI14 := hid (HI.out W14 be14 bt14 lbe14 hE14 lbt14 hN14 (HLa.out.stays (HB3.out _ M14.out.below)))
    clear lbe14 hE14 lbt14 hN14 hb14 M12 q0 q1
    go_wp2_with fail
    refine HI14.out.mono ?_
    rintro e W15 ⟨u2, rfl, hu2, hb15⟩
    have M15 := hid (M14.out.keep hb15)
    have HU2 := hid hu2.insS
    clear hu2 hb15 M14 HI14
    go_wp2_with fail
    refine (eqInsS_any W15 HCl.out HU2.out (HU0.out _ M15.out.below)).mono ?_
    rintro e W16 ⟨rfl, hb16⟩
    have M16 := hid (M15.out.keep hb16)
    clear M15 hb16 HU2
    go_wp2_with fail
    refine (HH.out W16 (M16.out.tells _ List.mem_cons_self)).mono ?_
    rintro e W17 ⟨rfl, rfl⟩
    go_wp2_with fail
    go_ret
    exact ⟨rfl, HB3.out _ M16.out.below⟩
end Go.Proofs.YtgiejnmphfgmgaaGreatDoor

/- At every program the code that is made is what the specification makes, and nothing that was handed in is changed, its answer owns its memory; the card. -/
namespace Go.Proofs.YtgiejnmphfgmgaaGreatDoor.fnExactCompile
open Go.ChangeShapes Go.WideShapes Go.ChangeAt Go.RowKit

theorem own : ownKnob Tryz.prog.godebug = none := by kernel_rfl
theorem laidOut : laidOutB Tryz.prog = true := by kernel_rfl
theorem tPows : (Tryz.prog.globals[0]?).map (·.type) = some 222 := by kernel_rfl
theorem cPows : Tryz.prog.cellsOf 222 = 20 := by kernel_rfl
theorem cUint : Tryz.prog.cellsOf 185 = 1 := by kernel_rfl
theorem pows_data : (Rows.laid_internal_strconv_uint64pow10 : DataW Unit) = Lib.tabData .u64 Lib.pow10Tab := by kernel_rfl

theorem of_laid {W : World} (h : laidMetH Tryz.prog Rows.fnExactCompileRow.laid W) : Laid W := by
  rw [MakeChecks.laidMetH_plain _ _ _ (by kernel_rfl)] at h
  obtain ⟨ps, ⟨g0, t0, cs0, f0, p0, q0, hg0, ht0, hv0, hd0, ⟨g1, t1, cs1, f1, p1, q1, hg1, ht1, hv1, hd1, ⟨g2, t2, cs2, f2, p2, q2, hg2, ht2, hv2, hd2, _⟩, _⟩, _⟩, _⟩ := h
  obtain rfl := Option.some.inj (gPows.symm.trans hg2)
  obtain rfl := Option.some.inj (tPows.symm.trans ht2)
  refine ⟨?_⟩
  rw [pows_data] at hd2
  have := Lib.cells_of_tab Tryz.underlying222 Tryz.underlying185 cUint cPows hd2
  unfold Lib.TabIs
  rw [hv2, ← this]

set_option maxRecDepth 100000 in
theorem contract (H : Type) (enc : TypeId × Value → H) (W : World) (base : Nat) (args : Array Value) (ds gs : List (DataW H)) (before : List MemPlace)
    (hval0 : ∀ (j : Nat) t v, Tryz.f3.params[j]? = some t → args[j]? = some v → Value.okWide Tryz.prog W .any base t v)
    (hW : DataW.Whole enc Tryz.prog Tryz.f3.params.toList Rows.fnExactCompileSpec.vars false W args.toList ds gs before) (hL : laidMetH Tryz.prog Rows.fnExactCompileRow.laid W) :
    Calls Tryz.prog 3 args W fun e W' => ∃ v, e = .returned v ∧ Rows.fnExactCompileSpec.post enc Tryz.prog Tryz.f3 false true false false W args v W' := by
  have hval : ∀ (j : Nat) t v, Tryz.f3.params[j]? = some t → args[j]? = some v → Value.okWide Tryz.prog W .any base t v := hval0
  have hW' := hW
  obtain ⟨p, q, hA0, hV0, rfl, hfz, hnd⟩ := hW
  have hA : DataW.TrodAll enc Tryz.prog W 0 (fun _ => true) true Tryz.f3.params.toList args.toList ds p := hA0
  rw [Tryz.params3] at hA hval
  obtain ⟨v0, vs0, d0, ds0, p0, q0, hargs, rfl, rfl, h0, r0⟩ := trodAll_cons hA
  obtain ⟨rfl, rfl, rfl⟩ := trodAll_nil r0
  obtain rfl : args = #[v0] := by cases args; simp_all
  obtain ⟨rfl, rfl⟩ := trodVars_none hV0
  have hLa := of_laid hL
  clear hA0 hval0
  simp only [List.append_nil] at hW'
  have hlt : ∀ y ∈ p0, y.block < W.heap.size := fun y hy => hW'.lt y (by simp [hy])
  have h0k := h0
  obtain ⟨fuel, hf⟩ := h0
  obtain ⟨vs, rfl, -⟩ := okWide_struct Tryz.underlying25 (hval 0 25 v0 rfl rfl)
  obtain ⟨c0, c1, es, ns, hcc, hE, sE, mE, hN, sN, mN⟩ := open_prog hf
  obtain rfl : vs = #[c0, c1] := by
    cases vs
    simp [Value.cells] at hcc
    simp [hcc]
  refine (compWalk W hLa hE sE mE hN sN mN).mono fun e W' ⟨he, hgr⟩ => ?_
  subst he
  refine ⟨_, rfl, _, _, _, [], p0, [], hW', ?_, ?_, rfl, hgr.frame _, fun h => by cases h⟩
  · exact trodAll_cons_mk (shut_bool Tryz.underlying4 _) trodAll_mk0
  · exact trodAll_mk1 (Below.trod laidOut (by kernel_rfl) (of_decide_eq_true (by kernel_rfl)) h0k hgr hlt)

theorem laid_met (os : Os) : laidMet Tryz.prog Rows.fnExactCompileRow.laid ((World.doorLaid Tryz.prog 400 os).forCall (fun _ _ => 0) ⟨#[], #[.agg #[.slice none 0 0, .slice none 0 0]], []⟩).memory :=
  laidMet_of_run' 8 (by kernel_rfl) (by kernel_rfl)
set_option maxRecDepth 100000 in
theorem lifted (os : Os) (started : os.Started) (H : Type) (enc : TypeId × Value → H) (F : Stop.Interp) :
    ReturnsInHanded {} Tryz.checked os 3 .any ((OpenSpec.ofChange Rows.fnExactCompileSpec).preRow enc Tryz.prog Tryz.f3 Rows.fnExactCompileRow.domain false Rows.fnExactCompileRow.laid) (((OpenSpec.ofChange Rows.fnExactCompileSpec).at F).post enc Tryz.prog Tryz.f3 false true false false) := by
  refine returnsInHanded_of_row (C := Tryz.checked) (s := OpenSpec.ofChange Rows.fnExactCompileSpec) own started (by kernel_rfl) Tryz.func3
    (witness_row_at (enc := enc) (C := Tryz.checked) false (World.doorLaid Tryz.prog 400 os) #[.agg #[.slice none 0 0, .slice none 0 0]] rfl (by kernel_rfl) (by kernel_rfl) (by kernel_rfl)
      (OpenSpec.preRow_of_cond 8 (show DataW.whole enc Tryz.prog ((World.doorLaid Tryz.prog 400 os).forCall (fun _ _ => 0) ⟨#[], #[.agg #[.slice none 0 0, .slice none 0 0]], []⟩).memory Tryz.f3.params.toList Rows.fnExactCompileSpec.vars false #[.agg #[.slice none 0 0, .slice none 0 0]].toList 8 = some ([.agg [.nil, .nil]], [], []) by kernel_rfl) (by kernel_rfl) (fun k hk => by cases hk) (by kernel_rfl) (laid_met os))) ?_
  intro W base args ds gs before hval hW _ _ _ hL _ _
  exact contract H enc W base args ds gs before hval hW hL

theorem said : Rows.FnExactCompileSaid :=
  OpenClaim.holds_of_cond 3 Tryz.f3 rfl rfl rfl rfl rfl rfl rfl ⟨rfl, rfl, rfl, rfl, rfl⟩ rfl rfl rfl rfl rfl (by kernel_rfl) Tryz.func3 (by kernel_rfl)
    (of_decide_eq_true (by kernel_rfl)) (by unfold Func.isWrapper; first | (rw [if_pos (by decide +kernel)]; kernel_rfl) | (rw [if_neg (by decide +kernel)]; exact ⟨rfl, rfl⟩))
    (fun os started H enc _ F => by rw [OpenClaim.pre_eq_preRow]; exact lifted os started H enc F)

theorem plain (f : FuncId) (fn : Func) (hf : Tryz.pinned.checked.prog.funcNamed "loop.example/handrail/laws.FnExactCompile" = some f) (hfn : Tryz.pinned.checked.prog.funcs[f]? = some fn) :
    true = Tryz.pinned.checked.prog.looks [] ∧ ∀ (j : Nat) t, fn.params[j]? = some t → Tryz.pinned.checked.prog.wantsStandIn t = false := by
  obtain rfl : f = 3 := Option.some.inj ((show Tryz.prog.funcNamed "loop.example/handrail/laws.FnExactCompile" = some 3 by kernel_rfl).symm.trans hf) |>.symm
  obtain rfl : fn = Tryz.f3 := (Option.some.inj (Tryz.func3.symm.trans hfn)).symm
  refine ⟨by kernel_rfl, fun j t ht => ?_⟩
  rw [Tryz.params3] at ht
  obtain rfl : t = 25 := by simpa using Array.mem_of_getElem? ht
  exact (show Tryz.prog.wantsStandIn 25 = false by kernel_rfl)

theorem proved : Rows.FnExactCompileCardSaid :=
  Claim7.holds_tied_plain_at .later [] _ _ _ _ said (fun _ h => by cases h) (by kernel_rfl) (fun _ h => by cases h) fnExactCompile_row_tie rfl ⟨rfl, rfl⟩ (by kernel_rfl) rfl plain (by kernel_rfl)
#print axioms proved
end Go.Proofs.YtgiejnmphfgmgaaGreatDoor.fnExactCompile
