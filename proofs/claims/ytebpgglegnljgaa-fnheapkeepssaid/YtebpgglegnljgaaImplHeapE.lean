/- The program's look at the numbers of a heap. -/
import Derived.Test.YtebpgglegnljgaaImplHeapD
import Derived.Test.YtebpgglegnljgaaShelf
import Derived.Deep.RegionHeld3
namespace Go.Proofs.Ytebpgglegnljgaa
open Go.RowKit

set_option maxRecDepth 100000 in
theorem sizeOk_calls (s : Int) (w : World) :
    Calls Try.prog 86 #[.int .i64 s] w fun e w' => e = .returned (.bool (decide (20 ≤ s ∧ s ≤ 4000))) ∧ w = w' := by
  go_enter Try.func86, Try.ntmps86
  go_wp2
  all_goals
    go_ret
    refine ⟨?_, rfl⟩
    simp_all
    try omega

def sortedZ (xs : List Int) : Bool := (List.range (xs.length - 1)).all (fun k => decide (xs.getD k 0 ≤ xs.getD (k + 1) 0))

set_option maxHeartbeats 1000000 in
set_option maxRecDepth 100000 in
theorem isSorted_calls (g cap : Nat) (xs : List Int) (w : World) (hm : xs.length ≤ 100) (hg : g < w.heap.size) (hc : ∀ k, k < xs.length → w.cell? ⟨g, k, none⟩ = some (.int .i64 (xs.getD k 0))) (h1 : 1 ≤ xs.length) :
    Calls Try.prog 87 #[.slice (some ⟨g, 0, none⟩) xs.length cap] w fun e w' => e = .returned (.bool (sortedZ xs)) ∧ Below w.heap.size w w' := by
  have HC := hid hc
  have hR : sortedZ xs = (List.range (xs.length - 1)).all (fun k => decide (xs.getD k 0 ≤ xs.getD (k + 1) 0)) := rfl
  have HR := hid hR
  generalize sortedZ xs = R at *
  generalize xs.length = m at *
  obtain ⟨m, rfl⟩ : ∃ m', m = m' + 1 := ⟨m - 1, by omega⟩
  rw [Nat.add_sub_cancel] at HR
  clear hc hR h1
  go_enter Try.func87, Try.ntmps87
  go_wp2_with fail
  go_loopw [3] (fun i wr => ∃ j : Nat, i = .int .i64 (j : Int) ∧ Hid (j ≤ m ∧ Below w.heap.size w wr ∧ ∀ k, j ≤ k → k < m → xs.getD k 0 ≤ xs.getD (k + 1) 0)) (fun i _ => (intOf i).toNat)
  case atStart => exact ⟨m, rfl, Nat.le_refl _, Below.refl _ _, fun k h1 h2 => absurd h1 (by omega)⟩
  case round =>
    obtain ⟨j, rfl, HI⟩ := hrel
    by_cases h0 : j = 0
    · subst h0
      have HX : Hid (R = true) := HR.out.trans (all_yes (fun k hk => decide_eq_true (HI.out.2.2 k (Nat.zero_le _) hk)))
      go_wp2_with fail
      go_ret
      exact ⟨by rw [HX.out]; rfl, HI.out.2.1⟩
    · obtain ⟨j, rfl⟩ : ∃ j', j = j' + 1 := ⟨j - 1, by omega⟩
      have hj := HI.out.1
      have hgr : g < wr.heap.size := Nat.lt_of_lt_of_le hg HI.out.2.1.size
      have e1 := (HI.out.2.1.cell (p := ⟨g, j + 1, none⟩) hg).trans (HC.out (j + 1) (by omega))
      have e2 := (HI.out.2.1.cell (p := ⟨g, j, none⟩) hg).trans (HC.out j (by omega))
      have HK : xs.getD (j + 1) 0 < xs.getD j 0 → Hid (R = false) := fun h => HR.out.trans (all_no (j := j) (by omega) (decide_eq_false (by omega)))
      generalize hx : xs.getD (j + 1) 0 = x at *
      generalize hy : xs.getD j 0 = y at *
      have v1 : ∀ z : Later wr.heap.size wr, z.w.cell? ⟨g, j + 1, none⟩ = some (.int .i64 x) := fun z => z.cell hgr e1
      have v2 : ∀ z : Later wr.heap.size wr, z.w.cell? ⟨g, j, none⟩ = some (.int .i64 y) := fun z => z.cell hgr e2
      have HXY := hid (And.intro hx hy)
      have hjj : (j : Int) + 1 < (m : Int) + 1 + 1 := by omega
      clear hx hy e1 e2
      have HLs := hid (fun w => Try.cmp_Less_int2 x y w)
      by_cases hlt : x < y
      · have HF := HK hlt
        clear HK
        rw [decide_eq_true hlt] at HLs
        go_wp2_with fail
        refine wp_region_calm wr.heap.size (by kernel_rfl) (by kernel_rfl) ?_
        repeat (go_big_quiet_step (first | (rename_i z; go_at_call 91; refine (HLs.out z.w).mono ?_; rintro e w5 ⟨rfl, rfl⟩; exact ⟨rfl, z, rfl⟩)))
        refine wpQuiet_nil ?_
        rintro w5 ⟨z, rfl⟩
        have HBx := hid (HI.out.2.1.trans (z.h.mono HI.out.2.1.size))
        clear v1 v2
        go_wp2_with fail
        go_ret
        exact ⟨by rw [HF.out]; rfl, HBx.out⟩
      · clear HK
        rw [decide_eq_false hlt] at HLs
        go_wp2_with fail
        refine wp_region_calm wr.heap.size (by kernel_rfl) (by kernel_rfl) ?_
        repeat (go_big_quiet_step (first | (rename_i z; go_at_call 91; refine (HLs.out z.w).mono ?_; rintro e w5 ⟨rfl, rfl⟩; exact ⟨rfl, z, rfl⟩)))
        refine wpQuiet_nil ?_
        rintro w5 ⟨z, rfl⟩
        have HBx := hid (HI.out.2.1.trans (z.h.mono HI.out.2.1.size))
        clear v1 v2
        go_wp2_with fail
        refine ⟨⟨j, ?_, by omega, HBx.out, fun k h1 h2 => ?_⟩, ?_⟩
        · first | rfl | (congr 1; omega)
        · by_cases hkj : k = j
          · rw [hkj, HXY.out.1, HXY.out.2]
            omega
          · exact HI.out.2.2 k (by omega) h2
        · simp only [intOf]
          omega

theorem sorted5 (a b c d e : Int) : sortedZ [a, b, c, d, e] = decide (a ≤ b ∧ b ≤ c ∧ c ≤ d ∧ d ≤ e) := by
  unfold sortedZ
  show (List.range 4).all _ = _
  simp [List.range_succ]

theorem sorted4 (a b c d : Int) : sortedZ [a, b, c, d] = decide (a ≤ b ∧ b ≤ c ∧ c ≤ d) := by
  unfold sortedZ
  show (List.range 3).all _ = _
  simp [List.range_succ]

set_option maxRecDepth 100000 in
theorem other_exact (v : Value) (h : HpN) (w : World) (h0 : 0 ≤ h.to) (h1 : h.to ≤ 4000) (h2 : 0 ≤ h.size) (h3 : h.size ≤ 4000) :
    Calls Try.prog 60 #[heapV v h] w fun e w' => e = .returned (.int .i64 (h.size - h.to)) ∧ w.alloc (.cells #[v, .int .i64 h.size, .int .i64 h.to, .int .i64 h.bottom, .int .i64 h.top, .int .i64 h.scan, .int .i64 h.fb, .int .i64 h.ft, .int .i64 h.flips, .int .i64 h.touched] 25) = w' := by
  obtain ⟨g1, g2, g3, g4, g5, g6, g7, g8, g9⟩ := h
  dsimp only at *
  unfold heapV
  dsimp only
  go_enter Try.func60, Try.ntmps60
  go_wp2
  go_ret
  exact ⟨rfl, rfl⟩

theorem cell_five (w : World) (a b c d e : Obj) (i : Nat) : (((((w.alloc a).alloc b).alloc c).alloc d).alloc e).cell? ⟨w.heap.size, i, none⟩ = (w.alloc a).cell? ⟨w.heap.size, i, none⟩ :=
  ((((Below.refl (w.heap.size + 1) (w.alloc a)).alloc (by simp) b).alloc (by simp) c).alloc (by simp) d).alloc (by simp) e |>.cell (p := ⟨w.heap.size, i, none⟩) (by simp)

theorem cell_fived (w : World) (a b c d e : Obj) (i : Nat) : (((((w.alloc a).alloc b).alloc c).alloc d).alloc e).drew.cell? ⟨w.heap.size, i, none⟩ = (w.alloc a).cell? ⟨w.heap.size, i, none⟩ := cell_five w a b c d e i

theorem five_at (w : World) (a b c d e : Obj) : let W := (((((w.alloc a).alloc b).alloc c).alloc d).alloc e).drew
    W.heap[w.heap.size]? = some a ∧ W.heap[w.heap.size + 1]? = some b ∧ W.heap[w.heap.size + 4]? = some e ∧ Below w.heap.size w W := by
  have k1 : Below (w.heap.size + 1) (w.alloc a) (((((w.alloc a).alloc b).alloc c).alloc d).alloc e).drew := (((((Below.refl (w.heap.size + 1) (w.alloc a)).alloc (by simp) b).alloc (by simp) c).alloc (by simp) d).alloc (by simp) e).drew
  have k2 : Below (w.heap.size + 2) ((w.alloc a).alloc b) (((((w.alloc a).alloc b).alloc c).alloc d).alloc e).drew := ((((Below.refl (w.heap.size + 2) ((w.alloc a).alloc b)).alloc (by simp) c).alloc (by simp) d).alloc (by simp) e).drew
  have s1 : (w.alloc a).heap.size = w.heap.size + 1 := by simp
  have s4 : ((((w.alloc a).alloc b).alloc c).alloc d).heap.size = w.heap.size + 4 := by simp
  refine ⟨(k1.block _ (by omega)).trans (MapKept.heap_alloc w a).1, (k2.block _ (by omega)).trans ?_, ?_, (((Below.refl w.heap.size w).alloc (Nat.le_refl _) a).trans (k1.mono (by omega)))⟩
  · rw [← s1]
    exact (MapKept.heap_alloc (w.alloc a) b).1
  · rw [← s4]
    exact (MapKept.heap_alloc ((((w.alloc a).alloc b).alloc c).alloc d) e).1

theorem row_cells {W : World} {g : Nat} {xs : List Int} {t : TypeId} (e : W.heap[g]? = some (.cells (xs.map (fun x => Value.int .i64 x)).toArray t)) : ∀ k, k < xs.length → W.cell? ⟨g, k, none⟩ = some (.int .i64 (xs.getD k 0)) := by
  intro k hk
  rw [cell_of_heap e]
  simp [hk, List.getD]

theorem five_use (w : World) (a b c d e : Obj) (Q : World → Prop)
    (h : ∀ W : World, W.heap[w.heap.size]? = some a → W.heap[w.heap.size + 1]? = some b → W.heap[w.heap.size + 4]? = some e → Below w.heap.size w W → Q W) : Q (((((w.alloc a).alloc b).alloc c).alloc d).alloc e).drew := by
  obtain ⟨h1, h2, h3, h4⟩ := five_at w a b c d e
  exact h _ h1 h2 h3 h4

set_option maxHeartbeats 4000000 in
set_option maxRecDepth 100000 in
theorem ordered_calls (ad : Option Addr) (N cap : Nat) (h : HpN) (w : World) :
    Calls Try.prog 58 #[heapV (.slice ad N cap) h] w fun e w' => e = .returned (.bool (decide (Ordered h N))) ∧ Below w.heap.size w w' := by
  have HS := hid (fun w => sizeOk_calls h.size w)
  obtain ⟨g1, g2, g3, g4, g5, g6, g7, g8, g9⟩ := h
  unfold heapV
  dsimp only at *
  by_cases hA : (20 ≤ g1 ∧ g1 ≤ 4000) ∧ (N : Int) = 2 * g1 ∧ (g2 = 0 ∨ g2 = g1)
  · obtain ⟨a1, a2, a3⟩ := hA
    rw [decide_eq_true a1] at HS
    obtain ⟨a11, a12⟩ := a1
    rcases a3 with rfl | hto
    · have HR : Hid (decide (Ordered ⟨g1, 0, g3, g4, g5, g6, g7, g8, g9⟩ N) = (sortedZ [0, g5, g3, g4, g1] && (sortedZ [g1, g6, g7, g1 + g1] && (decide (0 ≤ g8) && decide (0 ≤ g9))))) := by
        show _ = _
        rw [sorted5, sorted4, Bool.eq_iff_iff]
        simp only [Bool.and_eq_true, decide_eq_true_eq]
        unfold Ordered
        dsimp only
        omega
      generalize decide (Ordered ⟨g1, 0, g3, g4, g5, g6, g7, g8, g9⟩ N) = R at *
      have hw1 : IntKind.i64.wrap (g1 + g1) = g1 + g1 := by rw [IntKind.wrap_i64]; omega
      have hw2 : IntKind.i64.wrap (g1 - g1 + g1) = g1 := by rw [IntKind.wrap_i64]; omega
      have hw3 : IntKind.i64.wrap g1 = g1 := by rw [IntKind.wrap_i64]; omega
      have HWR := hid (And.intro hw1 (And.intro hw2 hw3))
      clear hw1 hw2 hw3
      have HOt := hid (fun (w' : World) => other_exact (.slice ad N cap) ⟨g1, 0, g3, g4, g5, g6, g7, g8, g9⟩ w' (by dsimp only; omega) (by dsimp only; omega) (by dsimp only; omega) (by dsimp only; omega))
      unfold heapV at HOt
      dsimp only at HOt
      rw [show g1 - 0 = g1 by omega] at HOt
      go_enter Try.func58, Try.ntmps58
      go_wp2_with (first | (go_at_call 86; refine (HS.out _).mono ?_; rintro e w5 ⟨rfl, rfl⟩))
      go_region_held3 (fun w' => w'.cell? ⟨w.heap.size, 0, none⟩ = some (.slice ad N cap) ∧ w'.cell? ⟨w.heap.size, 1, none⟩ = some (.int .i64 g1) ∧ w'.cell? ⟨w.heap.size, 2, none⟩ = some (.int .i64 0) ∧ w'.cell? ⟨w.heap.size, 3, none⟩ = some (.int .i64 g3) ∧ w'.cell? ⟨w.heap.size, 4, none⟩ = some (.int .i64 g4) ∧ w'.cell? ⟨w.heap.size, 5, none⟩ = some (.int .i64 g5) ∧ w'.cell? ⟨w.heap.size, 6, none⟩ = some (.int .i64 g6) ∧ w'.cell? ⟨w.heap.size, 7, none⟩ = some (.int .i64 g7) ∧ w'.cell? ⟨w.heap.size, 8, none⟩ = some (.int .i64 g8) ∧ w'.cell? ⟨w.heap.size, 9, none⟩ = some (.int .i64 g9)) (first | (simp only [cell_fived]; simp; done) | go_keep) (first | (go_at_call 60; refine (HOt.out _).mono ?_; rintro e w5 ⟨rfl, rfl⟩))
      refine five_use w _ _ _ _ _ _ ?_
      intro W k0 k1 k4 kb
      simp only [HWR.out.1] at k1 k4
      have HK := hid k0
      have HK4 := hid k4
      have HB := hid kb
      have HS5 := hid (isSorted_calls (w.heap.size + 1) 5 [0, g5, g3, g4, g1] W (by simp) (heap_lt k1) (row_cells k1) (by simp))
      generalize hs5 : sortedZ [0, g5, g3, g4, g1] = s5 at *
      generalize hs4 : sortedZ [g1, g6, g7, g1 + g1] = s4 at *
      have HS4e := hid hs4
      clear k0 k1 k4 kb hs5 hs4 a2
      go_wp2_with fail
      refine HS5.out.mono ?_
      rintro e W1 ⟨rfl, hb1⟩
      have HK1 := hid (HeapBlk.below (h := ⟨g1, 0, g3, g4, g5, g6, g7, g8, g9⟩) HK.out hb1)
      have HS4 := hid (isSorted_calls (w.heap.size + 4) 4 [g1, g6, g7, g1 + g1] W1 (by simp) (Nat.lt_of_lt_of_le (heap_lt HK4.out) hb1.size) (row_cells ((hb1.block _ (heap_lt HK4.out)).trans HK4.out)) (by simp))
      have HB1 := hid (HB.out.trans (hb1.mono HB.out.size))
      rw [HS4e.out] at HS4
      clear hb1 HS5 HK HK4 HB HS4e
      obtain ⟨c0, c1, c2, c3, c4, c5, c6, c7, c8, c9⟩ := HK1.out.cells
      dsimp only at c0 c1 c2 c3 c4 c5 c6 c7 c8 c9
      cases s5
      · go_wp2_with fail
        go_ret
        exact ⟨by rw [HR.out]; rfl, HB1.out⟩
      · go_wp2_with fail
        refine HS4.out.mono ?_
        rintro e W2 ⟨rfl, hb2⟩
        have HK2 := hid (HK1.out.below hb2)
        have HB2 := hid (HB1.out.trans (hb2.mono HB1.out.size))
        clear hb2 HS4 HK1 HB1 c0 c1 c2 c3 c4 c5 c6 c7 c8 c9
        obtain ⟨c0, c1, c2, c3, c4, c5, c6, c7, c8, c9⟩ := HK2.out.cells
        dsimp only at c0 c1 c2 c3 c4 c5 c6 c7 c8 c9
        cases s4
        · go_wp2_with fail
          go_ret
          exact ⟨by rw [HR.out]; rfl, HB2.out⟩
        · by_cases q1 : 0 ≤ g8
          · rw [decide_eq_true q1] at HR
            go_wp2_with fail
            go_ret
            exact ⟨by rw [HR.out]; rfl, HB2.out⟩
          · rw [decide_eq_false q1] at HR
            go_wp2_with fail
            go_ret
            exact ⟨by rw [HR.out]; rfl, HB2.out⟩
    · have hto := hto.symm
      subst hto
      have HR : Hid (decide (Ordered ⟨g1, g1, g3, g4, g5, g6, g7, g8, g9⟩ N) = (sortedZ [g1, g5, g3, g4, g1 + g1] && (sortedZ [0, g6, g7, g1] && (decide (0 ≤ g8) && decide (0 ≤ g9))))) := by
        show _ = _
        rw [sorted5, sorted4, Bool.eq_iff_iff]
        simp only [Bool.and_eq_true, decide_eq_true_eq]
        unfold Ordered
        dsimp only
        omega
      generalize decide (Ordered ⟨g1, g1, g3, g4, g5, g6, g7, g8, g9⟩ N) = R at *
      have hw1 : IntKind.i64.wrap (g1 + g1) = g1 + g1 := by rw [IntKind.wrap_i64]; omega
      have hw2 : IntKind.i64.wrap (g1 - g1 + g1) = g1 := by rw [IntKind.wrap_i64]; omega
      have hw3 : IntKind.i64.wrap g1 = g1 := by rw [IntKind.wrap_i64]; omega
      have HWR := hid (And.intro hw1 (And.intro hw2 hw3))
      clear hw1 hw2 hw3
      have HOt := hid (fun (w' : World) => other_exact (.slice ad N cap) ⟨g1, g1, g3, g4, g5, g6, g7, g8, g9⟩ w' (by dsimp only; omega) (by dsimp only; omega) (by dsimp only; omega) (by dsimp only; omega))
      unfold heapV at HOt
      dsimp only at HOt
      rw [show g1 - g1 = 0 by omega] at HOt
      go_enter Try.func58, Try.ntmps58
      go_wp2_with (first | (go_at_call 86; refine (HS.out _).mono ?_; rintro e w5 ⟨rfl, rfl⟩))
      go_region_held3 (fun w' => w'.cell? ⟨w.heap.size, 0, none⟩ = some (.slice ad N cap) ∧ w'.cell? ⟨w.heap.size, 1, none⟩ = some (.int .i64 g1) ∧ w'.cell? ⟨w.heap.size, 2, none⟩ = some (.int .i64 g1) ∧ w'.cell? ⟨w.heap.size, 3, none⟩ = some (.int .i64 g3) ∧ w'.cell? ⟨w.heap.size, 4, none⟩ = some (.int .i64 g4) ∧ w'.cell? ⟨w.heap.size, 5, none⟩ = some (.int .i64 g5) ∧ w'.cell? ⟨w.heap.size, 6, none⟩ = some (.int .i64 g6) ∧ w'.cell? ⟨w.heap.size, 7, none⟩ = some (.int .i64 g7) ∧ w'.cell? ⟨w.heap.size, 8, none⟩ = some (.int .i64 g8) ∧ w'.cell? ⟨w.heap.size, 9, none⟩ = some (.int .i64 g9)) (first | (simp only [cell_fived]; simp; done) | go_keep) (first | (go_at_call 60; refine (HOt.out _).mono ?_; rintro e w5 ⟨rfl, rfl⟩))
      refine five_use w _ _ _ _ _ _ ?_
      intro W k0 k1 k4 kb
      simp only [HWR.out.2.2] at k1 k4
      have HK := hid k0
      have HK4 := hid k4
      have HB := hid kb
      have HS5 := hid (isSorted_calls (w.heap.size + 1) 5 [g1, g5, g3, g4, g1 + g1] W (by simp) (heap_lt k1) (row_cells k1) (by simp))
      generalize hs5 : sortedZ [g1, g5, g3, g4, g1 + g1] = s5 at *
      generalize hs4 : sortedZ [0, g6, g7, g1] = s4 at *
      have HS4e := hid hs4
      clear k0 k1 k4 kb hs5 hs4 a2
      go_wp2_with fail
      refine HS5.out.mono ?_
      rintro e W1 ⟨rfl, hb1⟩
      have HK1 := hid (HeapBlk.below (h := ⟨g1, g1, g3, g4, g5, g6, g7, g8, g9⟩) HK.out hb1)
      have HS4 := hid (isSorted_calls (w.heap.size + 4) 4 [0, g6, g7, g1] W1 (by simp) (Nat.lt_of_lt_of_le (heap_lt HK4.out) hb1.size) (row_cells ((hb1.block _ (heap_lt HK4.out)).trans HK4.out)) (by simp))
      have HB1 := hid (HB.out.trans (hb1.mono HB.out.size))
      rw [HS4e.out] at HS4
      clear hb1 HS5 HK HK4 HB HS4e
      obtain ⟨c0, c1, c2, c3, c4, c5, c6, c7, c8, c9⟩ := HK1.out.cells
      dsimp only at c0 c1 c2 c3 c4 c5 c6 c7 c8 c9
      cases s5
      · go_wp2_with fail
        go_ret
        exact ⟨by rw [HR.out]; rfl, HB1.out⟩
      · go_wp2_with fail
        refine HS4.out.mono ?_
        rintro e W2 ⟨rfl, hb2⟩
        have HK2 := hid (HK1.out.below hb2)
        have HB2 := hid (HB1.out.trans (hb2.mono HB1.out.size))
        clear hb2 HS4 HK1 HB1 c0 c1 c2 c3 c4 c5 c6 c7 c8 c9
        obtain ⟨c0, c1, c2, c3, c4, c5, c6, c7, c8, c9⟩ := HK2.out.cells
        dsimp only at c0 c1 c2 c3 c4 c5 c6 c7 c8 c9
        cases s4
        · go_wp2_with fail
          go_ret
          exact ⟨by rw [HR.out]; rfl, HB2.out⟩
        · by_cases q1 : 0 ≤ g8
          · rw [decide_eq_true q1] at HR
            go_wp2_with fail
            go_ret
            exact ⟨by rw [HR.out]; rfl, HB2.out⟩
          · rw [decide_eq_false q1] at HR
            go_wp2_with fail
            go_ret
            exact ⟨by rw [HR.out]; rfl, HB2.out⟩
  · have hR : decide (Ordered ⟨g1, g2, g3, g4, g5, g6, g7, g8, g9⟩ N) = false := by
      apply decide_eq_false
      intro ho
      apply hA
      exact ⟨⟨ho.1, ho.2.1⟩, ho.2.2.1, ho.2.2.2.1⟩
    rw [hR]
    have HA := hid hA
    clear hR hA
    by_cases hs : 20 ≤ g1 ∧ g1 ≤ 4000
    · rw [decide_eq_true hs] at HS
      obtain ⟨a11, a12⟩ := hs
      by_cases hn : (N : Int) = 2 * g1
      · have z1 : ¬ g2 = 0 := fun e => HA.out ⟨⟨a11, a12⟩, hn, Or.inl e⟩
        have z2 : ¬ g2 = g1 := fun e => HA.out ⟨⟨a11, a12⟩, hn, Or.inr e⟩
        have z3 : (g2 != 0) = true := by simpa using z1
        have z4 : (g2 != g1) = true := by simpa using z2
        clear HA
        go_enter Try.func58, Try.ntmps58
        go_wp2_with (first | (go_at_call 86; refine (HS.out _).mono ?_; rintro e w5 ⟨rfl, rfl⟩))
        go_ret
        exact ⟨rfl, (Below.refl _ _).alloc (Nat.le_refl _) _⟩
      · have z3 : ((N : Int) != 2 * g1) = true := by simpa using hn
        clear HA
        go_enter Try.func58, Try.ntmps58
        go_wp2_with (first | (go_at_call 86; refine (HS.out _).mono ?_; rintro e w5 ⟨rfl, rfl⟩))
        all_goals
          go_ret
          exact ⟨rfl, (Below.refl _ _).alloc (Nat.le_refl _) _⟩
    · rw [decide_eq_false hs] at HS
      go_enter Try.func58, Try.ntmps58
      go_wp2_with (first | (go_at_call 86; refine (HS.out _).mono ?_; rintro e w5 ⟨rfl, rfl⟩))
      go_ret
      exact ⟨rfl, (Below.refl _ _).alloc (Nat.le_refl _) _⟩
end Go.Proofs.Ytebpgglegnljgaa
